/- What is proved here: the chapter's examples. -/
import Derived.Test.YtmkfgoacbehhcaaNr
import Derived.Test.YtmkfgoacbehhcaaNn
import Derived.WalkMore
import Derived.WalkKit
namespace Go.Proofs.Ytmkfgoacbehhcaa
open Go.RowKit
set_option linter.unusedVariables false
set_option linter.unusedSimpArgs false
set_option maxRecDepth 100000
attribute [local go_sem] Oper.semAt_some
def exS : List Sy := [⟨[109, 97, 105, 110], 0, 0, 1, 1⟩, ⟨[112, 117, 116, 115], 0, 0, 1, 1⟩]
theorem ex_fit : fitL exS = true := by decide
theorem ex_bd : ∀ s ∈ exS, s.Bd := by
  intro s hs
  simp only [exS, List.mem_cons, List.mem_nil_iff, or_false] at hs
  rcases hs with rfl | rfl <;> exact ⟨by decide, by decide, by decide, by decide, by decide, by decide⟩
theorem ex_wr : wrT exS 3 = ⟨symsL exS, strsL exS, hashB exS 3⟩ := by unfold wrT okW; rw [if_pos (by rw [ex_fit]; decide)]; rfl
theorem ex_find : findN (wrT exS 3) [112, 117, 116, 115] = 2 := by
  rw [ex_wr, find_write exS ex_bd ex_fit 3 (by decide) (by decide)]
  decide +kernel
theorem ex_hash : hashL [112, 114, 105, 110, 116, 102] = 125371814 := by decide +kernel
theorem ex_len : (wrT exS 3).syms.length ≤ 1000000 ∧ (wrT exS 3).strs.length ≤ 1000000 ∧ (wrT exS 3).hash.length ≤ 1000000 := by
  rw [ex_wr]
  refine ⟨by show (symsL exS).length ≤ _; rw [syms_len]; decide, by show (strsL exS).length ≤ _; decide, ?_⟩
  show (hashB exS 3).length ≤ _
  unfold hashB
  rw [flat4_len, nums_len]
  decide
set_option maxHeartbeats 2000000 in
theorem few7 (T : Tb) (w : World) : Calls Try.prog 7 #[T.val] w fun e w' => e = .returned (.bool (decide (T.syms.length ≤ 1000) && (decide (T.strs.length ≤ 3000) && decide (T.hash.length ≤ 2000)))) ∧ Below w.heap.size w w' := by
  obtain ⟨W1, hW1, hb1, hz1, e1⟩ := box3 w T
  obtain ⟨q0, q1, q2⟩ := e1.cells
  have a1 : ((⟨T.syms.toArray⟩ : ByteArray).size : Int) = (T.syms.length : Int) := by rw [← bt_len, bal]
  have a2 : ((⟨T.strs.toArray⟩ : ByteArray).size : Int) = (T.strs.length : Int) := by rw [← bt_len, bal]
  have a3 : ((⟨T.hash.toArray⟩ : ByteArray).size : Int) = (T.hash.length : Int) := by rw [← bt_len, bal]
  unfold Tb.val
  obtain ⟨n1, hn1⟩ : ∃ z, z = T.syms.length := ⟨_, rfl⟩
  obtain ⟨n2, hn2⟩ : ∃ z, z = T.strs.length := ⟨_, rfl⟩
  obtain ⟨n3, hn3⟩ : ∃ z, z = T.hash.length := ⟨_, rfl⟩
  rw [← hn1] at a1 ⊢
  rw [← hn2] at a2 ⊢
  rw [← hn3] at a3 ⊢
  have HB : Hid (Below w.heap.size w W1) := hb1
  generalize (⟨T.syms.toArray⟩ : ByteArray) = SS at a1 q0 hW1 ⊢
  generalize (⟨T.strs.toArray⟩ : ByteArray) = QS at a2 q1 hW1 ⊢
  generalize (⟨T.hash.toArray⟩ : ByteArray) = HS at a3 q2 hW1 ⊢
  clear hn1 hn2 hn3 hb1 hz1 e1
  by_cases h1 : n1 ≤ 1000
  · have i1 : (n1 : Int) ≤ 1000 := by omega
    have d1 := decide_eq_true h1
    by_cases h2 : n2 ≤ 3000
    · have i2 : (n2 : Int) ≤ 3000 := by omega
      have d2 := decide_eq_true h2
      by_cases h3 : n3 ≤ 2000
      · have i3 : (n3 : Int) ≤ 2000 := by omega
        have d3 := decide_eq_true h3
        go_enter Try.func7, Try.ntmps7
        go_wp2
        go_ret
        exact ⟨by first | (rw [d1, d2, d3]; rfl) | rfl, HB.out⟩
      · have i3 : ¬ (n3 : Int) ≤ 2000 := by omega
        have d3 := decide_eq_false h3
        go_enter Try.func7, Try.ntmps7
        go_wp2
        go_ret
        exact ⟨by first | (rw [d1, d2, d3]; rfl) | rfl, HB.out⟩
    · have i2 : ¬ (n2 : Int) ≤ 3000 := by omega
      have d2 := decide_eq_false h2
      go_enter Try.func7, Try.ntmps7
      go_wp2
      go_ret
      exact ⟨by first | (rw [d1, d2]; rfl) | rfl, HB.out⟩
  · have i1 : ¬ (n1 : Int) ≤ 1000 := by omega
    have d1 := decide_eq_false h1
    go_enter Try.func7, Try.ntmps7
    go_wp2
    go_ret
    exact ⟨by first | (rw [d1]; rfl) | rfl, HB.out⟩
set_option maxHeartbeats 2000000 in
theorem awake8 (w : World) : Calls Try.prog 8 #[] w fun e w' => e = .returned (.bool true) ∧ Below w.heap.size w w' := by
  have K11 : Hid (∀ w', Calls Try.prog 11 #[(wrT exS 3).val, .string ⟨#[112, 117, 116, 115]⟩] w' fun e w'' => e = .returned (.tuple #[.int .i64 1, .bool true]) ∧ Below w'.heap.size w' w'') := fun w' => by
    have h := find11 (wrT exS 3) [112, 117, 116, 115] ex_len.1 ex_len.2.1 ex_len.2.2 (by decide) w'
    rw [ex_find] at h
    exact h
  have K14 : Hid (∀ w', Calls Try.prog 14 #[.string ⟨#[112, 114, 105, 110, 116, 102]⟩] w' fun e w'' => e = .returned (.int .u32 125371814) ∧ w'' = w') := fun w' => by
    have h := hash14 ⟨#[112, 114, 105, 110, 116, 102]⟩ (by decide) w'
    rw [show (⟨#[112, 114, 105, 110, 116, 102]⟩ : ByteArray).toList = [112, 114, 105, 110, 116, 102] from by decide +kernel, ex_hash] at h
    exact h
  have K18 : Hid (∀ w' v, SlY w' v exS → Calls Try.prog 18 #[v, .int .i64 3] w' fun e w'' => e = .returned ((wrT exS 3).val) ∧ Below w'.heap.size w' w'') := fun w' v h => write18 exS v 3 w' h ex_bd (by decide)
  go_enter Try.func8, Try.ntmps8
  go_wp2_with fail
  obtain ⟨W1, hW1⟩ : ∃ z, w.alloc (Obj.cells #[Value.string { data := #[109, 97, 105, 110] }, Value.int IntKind.u32 0, Value.int IntKind.u32 0, Value.int IntKind.i64 1, Value.int IntKind.i64 1, Value.string { data := #[112, 117, 116, 115] }, Value.int IntKind.u32 0, Value.int IntKind.u32 0, Value.int IntKind.i64 1, Value.int IntKind.i64 1] 39) = z := ⟨_, rfl⟩
  have hb1 : Below w.heap.size w W1 := by rw [← hW1]; exact (Below.refl _ _).alloc (Nat.le_refl _) _
  have hS : SlY W1 (.slice (some ⟨w.heap.size, 0, none⟩) 2 2) exS := by
    refine ⟨_, 2, rfl, by decide, by decide, (fun e => by cases e), fun i hi => ⟨w.heap.size, 0, rfl, ?_⟩⟩
    have hc : ∀ k v, (#[Value.string { data := #[109, 97, 105, 110] }, Value.int IntKind.u32 0, Value.int IntKind.u32 0, Value.int IntKind.i64 1, Value.int IntKind.i64 1, Value.string { data := #[112, 117, 116, 115] }, Value.int IntKind.u32 0, Value.int IntKind.u32 0, Value.int IntKind.i64 1, Value.int IntKind.i64 1] : Array Value)[k]? = some v → W1.cell? ⟨w.heap.size, k, none⟩ = some v := fun k v h => by rw [← hW1]; exact cell_newA w _ 39 _ k _ rfl h
    match i, hi with
    | 0, _ => exact ⟨hc 0 _ rfl, hc 1 _ rfl, hc 2 _ rfl, hc 3 _ rfl, hc 4 _ rfl⟩
    | 1, _ => exact ⟨hc 5 _ rfl, hc 6 _ rfl, hc 7 _ rfl, hc 8 _ rfl, hc 9 _ rfl⟩
  rw [hW1]
  refine (K18.out W1 _ hS).mono ?_
  rintro e w2 ⟨rfl, hb2⟩
  have HB2 : Hid (Below w.heap.size w w2) := below_tr hb1 hb2
  clear hb1 hb2 hS hW1 K18
  obtain ⟨V4, W4, hV4, hW4, ⟨q0, q1, q2⟩, ⟨f0, f1, f2⟩, e4, hb4, hz4⟩ := new3 w2 (wrT exS 3)
  have H4 : Hid (Below w.heap.size w W4) := below_tr HB2.out hb4
  obtain ⟨r0, r1, r2⟩ := e4.cells
  unfold Tb.val at K11 ⊢
  generalize (⟨(wrT exS 3).syms.toArray⟩ : ByteArray) = SS at K11 r0 hW4 ⊢
  generalize (⟨(wrT exS 3).strs.toArray⟩ : ByteArray) = QS at K11 r1 hW4 ⊢
  generalize (⟨(wrT exS 3).hash.toArray⟩ : ByteArray) = HS at K11 r2 hW4 ⊢
  clear e4 hb4 hz4 HB2
  go_wp2_with fail
  refine (K11.out W4).mono ?_
  rintro e w5 ⟨rfl, hb5⟩
  have H5 : Hid (Below w.heap.size w w5) := below_tr H4.out hb5
  clear hb5 H4 q0 q1 q2 f0 f1 f2 r0 r1 r2 hV4 hW4 K11
  go_wp2_with fail
  refine (K14.out w5).mono ?_
  rintro e w6 ⟨rfl, rfl⟩
  go_wp2
  go_ret
  exact ⟨rfl, H5.out⟩
end Go.Proofs.Ytmkfgoacbehhcaa
