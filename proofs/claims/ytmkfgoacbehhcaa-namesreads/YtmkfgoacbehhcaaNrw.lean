/- What is proved here: a name's number, the symbols of a table, and where a name's is: the program's and the document's. -/
import Derived.Test.YtmkfgoacbehhcaaNrf
import Derived.Test.YtmkfgoacbehhcaaNs
import Derived.Test.YtmkfgoacbehhcaaNy
import Derived.Test.YtmkfgoacbehhcaaNb
namespace Go.Proofs.Ytmkfgoacbehhcaa
open Go.RowKit
set_option linter.unusedVariables false
set_option linter.unusedSimpArgs false
set_option maxRecDepth 100000
attribute [local go_sem] Oper.semAt_some
theorem readL_le (T : Tb) : (readL T).length ≤ 200 := by
  cases hre : readE T with
  | false => rw [readL_no hre]; decide
  | true =>
    rw [readL_yes hre, symsAt_len]
    have h1 : lenOk T = true := by
      cases h : lenOk T with
      | true => rfl
      | false => rw [read_no1 h] at hre; cases hre
    exact (len_parts h1).2
set_option maxHeartbeats 4000000 in
theorem reads_walk (T : Tb) (nm : L8) (w : World) :
    Calls Try.prog 3 #[T.val, .string ⟨nm.toArray⟩] w fun e w' => e = .returned (.bool true) ∧ Below w.heap.size w w' := by
  have KA : Hid (∀ w', Calls Try.prog 8 #[] w' fun e w'' => e = .returned (.bool true) ∧ Below w'.heap.size w' w'') := awake8
  obtain ⟨W1, hW1, hb1, hz1, h31⟩ := box3 w T
  have H1 : Hid (Below w.heap.size w W1 ∧ T3 T w.heap.size W1) := ⟨hb1, h31⟩
  obtain ⟨u0, u1, u2⟩ := h31.cells
  obtain ⟨NM, hNM⟩ : ∃ z : ByteArray, z = ⟨nm.toArray⟩ := ⟨_, rfl⟩
  have hsz : NM.size = nm.length := by rw [← bt_len, hNM, bal]
  have K7 := few7 T W1
  obtain ⟨FW, hFW⟩ : ∃ z, z = (decide (T.syms.length ≤ 1000) && (decide (T.strs.length ≤ 3000) && decide (T.hash.length ≤ 2000))) := ⟨_, rfl⟩
  rw [← hFW] at K7
  rw [← hNM]
  cases hf : FW with
  | false =>
    rw [hf] at K7
    unfold Tb.val at K7 ⊢
    generalize (⟨T.syms.toArray⟩ : ByteArray) = SS at K7 u0 hW1 ⊢
    generalize (⟨T.strs.toArray⟩ : ByteArray) = QS at K7 u1 hW1 ⊢
    generalize (⟨T.hash.toArray⟩ : ByteArray) = HH at K7 u2 hW1 ⊢
    clear hb1 hz1 h31 hNM hsz hFW hf
    go_enter Try.func3, Try.ntmps3
    go_wp2_with fail
    refine K7.mono ?_
    rintro e w2 ⟨rfl, hb2⟩
    have H2 : Hid (Below w.heap.size w w2) := below_tr H1.out.1 hb2
    clear K7 hb2 hW1
    go_wp2_with fail
    refine (KA.out w2).mono ?_
    rintro e w3 ⟨rfl, hb3⟩
    go_wp2
    go_ret
    exact ⟨rfl, below_tr H2.out hb3⟩
  | true =>
    have hln : T.syms.length ≤ 1000000 ∧ T.strs.length ≤ 1000000 ∧ T.hash.length ≤ 1000000 := by
      rw [hf] at hFW
      have h := hFW.symm
      simp only [Bool.and_eq_true, decide_eq_true_eq] at h
      omega
    rw [hf] at K7
    by_cases hs : 1000 < NM.size
    · have i1 : (1000 : Int) < (NM.size : Int) := by omega
      have d1 := decide_eq_true i1
      unfold Tb.val at K7 ⊢
      generalize (⟨T.syms.toArray⟩ : ByteArray) = SS at K7 u0 hW1 ⊢
      generalize (⟨T.strs.toArray⟩ : ByteArray) = QS at K7 u1 hW1 ⊢
      generalize (⟨T.hash.toArray⟩ : ByteArray) = HH at K7 u2 hW1 ⊢
      clear hb1 hz1 h31 hNM hsz hFW hf hs hln
      go_enter Try.func3, Try.ntmps3
      go_wp2_with fail
      refine K7.mono ?_
      rintro e w2 ⟨rfl, hb2⟩
      have H2 : Hid (Below w.heap.size w w2) := below_tr H1.out.1 hb2
      clear K7 hb2 hW1
      go_wp2_with fail
      refine (KA.out w2).mono ?_
      rintro e w3 ⟨rfl, hb3⟩
      go_wp2
      go_ret
      exact ⟨rfl, below_tr H2.out hb3⟩
    · have i1 : ¬ (1000 : Int) < (NM.size : Int) := by omega
      have d1 := decide_eq_false i1
      obtain ⟨L, hL⟩ : ∃ z, z = readL T := ⟨_, rfl⟩
      obtain ⟨EN, hEN⟩ : ∃ z, z = errN T := ⟨_, rfl⟩
      have hLl : L.length ≤ 200 := by rw [hL]; exact readL_le T
      have K9 : Hid (∀ w', Calls Try.prog 9 #[T.val] w' fun e w'' => (∃ v, e = .returned (.tuple #[v, .int .i64 EN]) ∧ OwnY w'.heap.size w'' v L) ∧ Below w'.heap.size w' w'') := fun w' => by
        rw [hL, hEN]; exact read9 T hln.1 hln.2.1 w'
      have K10 : Hid (∀ w', Calls Try.prog 10 #[T.val] w' fun e w'' => (∃ v, e = .returned (.tuple #[v, .int .i64 EN]) ∧ OwnY w'.heap.size w'' v L) ∧ Below w'.heap.size w' w'') := fun w' => by
        rw [hL, hEN]; exact rread10 T hln.1 hln.2.1 w'
      obtain ⟨FA, hFA⟩ : ∃ z, z = fdA (findN T nm) := ⟨_, rfl⟩
      obtain ⟨FB, hFB⟩ : ∃ z, z = decide (findN T nm ≠ 0) := ⟨_, rfl⟩
      have K11 : Hid (∀ w', Calls Try.prog 11 #[T.val, .string NM] w' fun e w'' => e = .returned (.tuple #[.int .i64 FA, .bool FB]) ∧ Below w'.heap.size w' w'') := fun w' => by
        rw [hFA, hFB, hNM]; exact find11 T nm hln.1 hln.2.1 hln.2.2 (by omega) w'
      have K12 : Hid (∀ w', Calls Try.prog 12 #[T.val, .string NM] w' fun e w'' => e = .returned (.tuple #[.int .i64 FA, .bool FB]) ∧ Below w'.heap.size w' w'') := fun w' => by
        rw [hFA, hFB, hNM]; exact rfind12 T nm hln.1 hln.2.1 hln.2.2 (by omega) w'
      have K13 : Hid (∀ w' v v', SlY w' v L → SlY w' v' L → Calls Try.prog 13 #[v, v'] w' fun e w'' => e = .returned (.bool true) ∧ Below w'.heap.size w' w'') := fun w' v v' h h' => by
        have := rsame13 v v' L L w' h h' (by omega)
        rw [(symsEq_iff L L).2 rfl] at this
        exact this
      obtain ⟨HA, hHA⟩ : ∃ z, z = hashL NM.toList := ⟨_, rfl⟩
      have K14 : Hid (∀ w', Calls Try.prog 14 #[.string NM] w' fun e w'' => e = .returned (.int .u32 (HA : Int)) ∧ w'' = w') := fun w' => by
        rw [hHA]; exact hash14 NM (by omega) w'
      have K15 : Hid (∀ w', Calls Try.prog 15 #[.string NM] w' fun e w'' => e = .returned (.int .u32 (HA : Int)) ∧ w'' = w') := fun w' => by
        rw [hHA]; exact rhash15 NM (by omega) w'
      unfold Tb.val at K7 K9 K10 K11 K12 ⊢
      generalize hSS : (⟨T.syms.toArray⟩ : ByteArray) = SS at K7 K9 K10 K11 K12 u0 hW1 ⊢
      generalize hQQ : (⟨T.strs.toArray⟩ : ByteArray) = QS at K7 K9 K10 K11 K12 u1 hW1 ⊢
      generalize hHH : (⟨T.hash.toArray⟩ : ByteArray) = HH at K7 K9 K10 K11 K12 u2 hW1 ⊢
      have HN : Hid ((⟨T.syms.toArray⟩ : ByteArray) = SS ∧ (⟨T.strs.toArray⟩ : ByteArray) = QS ∧ (⟨T.hash.toArray⟩ : ByteArray) = HH) := ⟨hSS, hQQ, hHH⟩
      clear hSS hQQ hHH hb1 hz1 h31 hNM hsz hFW hf hs hln hL hEN hLl hFA hFB hHA
      go_enter Try.func3, Try.ntmps3
      go_wp2_with fail
      refine K7.mono ?_
      rintro e w2 ⟨rfl, hb2⟩
      have H2 : Hid (Below w.heap.size w w2 ∧ T3 T w.heap.size w2) := ⟨below_tr H1.out.1 hb2, H1.out.2.keep hb2⟩
      have u0 := keep_cell hb2 u0
      have u1 := keep_cell hb2 u1
      have u2 := keep_cell hb2 u2
      clear K7 hb2 hW1
      go_wp2_with fail
      refine (K9.out w2).mono ?_
      rintro e w3 ⟨⟨v3, rfl, hO⟩, hb3⟩
      have H3 : Hid (Below w.heap.size w w3 ∧ SlY w3 v3 L) := ⟨below_tr H2.out.1 hb3, hO.sl⟩
      have u0 := keep_cell hb3 u0
      have u1 := keep_cell hb3 u1
      have u2 := keep_cell hb3 u2
      obtain ⟨a3, c3, rfl⟩ := hO.shape
      clear K9 hb3 hO H2 H1
      go_wp2_with fail
      refine (K10.out w3).mono ?_
      rintro e w4 ⟨⟨v4, rfl, hO⟩, hb4⟩
      have H4 : Hid (Below w.heap.size w w4 ∧ SlY w4 (.slice a3 L.length c3) L ∧ SlY w4 v4 L) := ⟨below_tr H3.out.1 hb4, H3.out.2.keep hb4, hO.sl⟩
      have u0 := keep_cell hb4 u0
      have u1 := keep_cell hb4 u1
      have u2 := keep_cell hb4 u2
      obtain ⟨a4, c4, rfl⟩ := hO.shape
      clear K10 hb4 hO H3
      go_wp2_with fail
      refine (K11.out w4).mono ?_
      rintro e w5 ⟨rfl, hb5⟩
      have H5 : Hid (Below w.heap.size w w5 ∧ SlY w5 (.slice a3 L.length c3) L ∧ SlY w5 (.slice a4 L.length c4) L) := ⟨below_tr H4.out.1 hb5, H4.out.2.1.keep hb5, H4.out.2.2.keep hb5⟩
      have u0 := keep_cell hb5 u0
      have u1 := keep_cell hb5 u1
      have u2 := keep_cell hb5 u2
      clear K11 hb5 H4
      go_wp2_with fail
      refine (K12.out w5).mono ?_
      rintro e w6 ⟨rfl, hb6⟩
      have H6 : Hid (Below w.heap.size w w6 ∧ SlY w6 (.slice a3 L.length c3) L ∧ SlY w6 (.slice a4 L.length c4) L) := ⟨below_tr H5.out.1 hb6, H5.out.2.1.keep hb6, H5.out.2.2.keep hb6⟩
      clear K12 hb6 H5 u0 u1 u2 HN
      go_wp2_with fail
      refine (K13.out w6 _ _ H6.out.2.1 H6.out.2.2).mono ?_
      rintro e w7 ⟨rfl, hb7⟩
      have H7 : Hid (Below w.heap.size w w7) := below_tr H6.out.1 hb7
      clear K13 hb7 H6
      go_wp2_with fail
      refine (K14.out w7).mono ?_
      rintro e w8 ⟨rfl, rfl⟩
      go_wp2_with fail
      refine (K15.out _).mono ?_
      rintro e w8 ⟨rfl, rfl⟩
      go_wp2_with fail
      refine (KA.out _).mono ?_
      rintro e w9 ⟨rfl, hb9⟩
      go_wp2
      go_ret
      exact ⟨rfl, below_tr H7.out hb9⟩
end Go.Proofs.Ytmkfgoacbehhcaa
