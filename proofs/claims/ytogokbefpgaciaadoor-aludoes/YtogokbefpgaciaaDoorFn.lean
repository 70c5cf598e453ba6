/- What is proved here: a row is looked for by its name. -/
import Derived.Test.YtogokbefpgaciaaDoorFd
namespace Go.Proofs.YtogokbefpgaciaaDoor
open Go.RowKit
set_option linter.unusedVariables false
set_option linter.unusedSimpArgs false
set_option maxRecDepth 100000
set_option maxHeartbeats 1000000 in
theorem index28_34 (p : Rw → Bool) (p0 : Addr) (b : Nat) (w : World) (hr : RowsAt w b) (hc : (∀ r ∈ rowsL, ∀ w', Below w.heap.size w w' → Calls Tryd.prog 82 #[r.val, .pointer (some p0)] w' fun e w'' => e = .returned (.bool (p r)) ∧ Below w'.heap.size w' w'')) :
    Calls Tryd.prog 94 #[.slice (some ⟨b, 0, none⟩) 83 83, .func (.func 82) #[] #[.pointer (some p0)]] w fun e w' => e = .returned (.int .i64 (idxI p)) ∧ Below w.heap.size w w' := by
  have HR : Hid (∀ w', Below w.heap.size w w' → RowsAt w' b) := fun w' h => hr.keep h
  have HC : Hid (∀ r ∈ rowsL, ∀ w', Below w.heap.size w w' → Calls Tryd.prog 82 #[r.val, .pointer (some p0)] w' fun e w'' => e = .returned (.bool (p r)) ∧ Below w'.heap.size w' w'') := hc
  have hl := rows_len
  have HL : Hid (rowsL.length = 83) := hl
  clear hr hc hl
  obtain ⟨z, hz⟩ : ∃ z, z = idxI p := ⟨_, rfl⟩
  rw [← hz]
  have HZ : Hid (z = idxI p) := hz
  clear hz
  go_enter Tryd.func94, Tryd.ntmps94
  go_wp2
  go_loopw [8] (fun i wr => ∃ k : Nat, k ≤ 83 ∧ i = .int .i64 (k : Int) ∧ Below w.heap.size w wr ∧ ∀ j (hj : j < rowsL.length), j < k → p rowsL[j] = false) (fun i _ => 83 - (intOf i).toNat)
  case atStart => exact ⟨0, by decide, rfl, Below.refl _ _, fun j _ h => absurd h (Nat.not_lt_zero _)⟩
  case round =>
    obtain ⟨k, hk, rfl, hbr, hpre⟩ := hrel
    have HB : Hid (Below w.heap.size w wr) := hbr
    have HP : Hid (∀ j (hj : j < rowsL.length), j < k → p rowsL[j] = false) := hpre
    have hk64 : wrap64 ((k : Int) + 1) = (k : Int) + 1 := by unfold wrap64; omega
    by_cases hkl : k < 83
    · have hk' : k < rowsL.length := by rw [HL.out]; exact hkl
      obtain ⟨q0, q1, q2, q3⟩ := HR.out wr hbr k hk'
      have K := HC.out rowsL[k] (List.getElem_mem hk') wr hbr
      unfold Rw.val at K
      have hkI : (k : Int) < 83 := by omega
      have HE : Hid (p rowsL[k] = true → z = (k : Int)) := fun h => by rw [HZ.out]; exact idx_at p k hk' h HP.out
      have HN : Hid (p rowsL[k] = false → ∀ j (hj : j < rowsL.length), j < k + 1 → p rowsL[j] = false) := fun h j hj hjk => by
        by_cases e : j = k
        · subst e; exact h
        · exact HP.out j hj (by omega)
      generalize p rowsL[k] = pb at K HE HN
      generalize rowsL[k] = r at q0 q1 q2 q3 K
      clear hbr hpre hk'
      go_wp2_with fail
      refine K.mono ?_
      rintro e wG ⟨rfl, hbG⟩
      have HBG : Hid (Below w.heap.size w wG) := below_tr HB.out hbG
      clear K hbG q0 q1 q2 q3
      cases pb with
      | true =>
        have HEE : Hid (z = (k : Int)) := HE.out rfl
        go_wp2
        go_ret
        exact ⟨by rw [HEE.out]; rfl, HBG.out⟩
      | false =>
        have HNN : Hid _ := HN.out rfl
        clear HN HE
        go_wp2
        go_roundw
        case rel => exact ⟨k + 1, by omega, by go_num, HBG.out, HNN.out⟩
        case measure => simp [intOf]; omega
    · have he : k = 83 := by omega
      subst he
      have HEE : Hid (z = -1) := by show _ = _; rw [HZ.out]; exact idx_none p (fun j hj => HP.out j hj (by rw [HL.out] at hj; exact hj))
      clear hbr hpre
      go_wp2
      go_ret
      exact ⟨by rw [HEE.out]; rfl, HB.out⟩
set_option maxHeartbeats 1000000 in
theorem found16_34 (p : Rw → Bool) (p0 : Addr) (w : World) (hc : (∀ r ∈ rowsL, ∀ w', Below w.heap.size w w' → Calls Tryd.prog 82 #[r.val, .pointer (some p0)] w' fun e w'' => e = .returned (.bool (p r)) ∧ Below w'.heap.size w' w'')) :
    Calls Tryd.prog 81 #[.func (.func 82) #[] #[.pointer (some p0)]] w fun e w' => e = .returned (.tuple #[(foundR p).val, .bool (isFound p)]) ∧ Below w.heap.size w w' := by
  obtain ⟨W, hW, hb, hz, c0, c1, c2, c3, g0, g1, g2, g3⟩ := box4 w (.string ⟨#[]⟩) (.int .u32 0) (.int .u32 0) (.string ⟨#[]⟩) 55
  have K27 := rows27 W
  have hrn := rowsAt_new W
  have hbn : Below W.heap.size W (W.alloc (.cells rowsA 55)) := (Below.refl _ _).alloc (Nat.le_refl _) _
  have HBW : Hid (Below w.heap.size w W) := hb
  have hsz : w.heap.size + 1 = W.heap.size := hz.symm
  have K28 := index28_34 p p0 W.heap.size (W.alloc (.cells rowsA 55)) hrn (fun r hr w' h => hc r hr w' (below_tr (below_tr hb hbn) h))
  have HRW : Hid (∀ w', Below (W.alloc (.cells rowsA 55)).heap.size (W.alloc (.cells rowsA 55)) w' → RowsAt w' W.heap.size ∧ Below w.heap.size w w' ∧ Free w' ⟨w.heap.size, 0, none⟩ ∧ Free w' ⟨w.heap.size, 1, none⟩ ∧ Free w' ⟨w.heap.size, 2, none⟩ ∧ Free w' ⟨w.heap.size, 3, none⟩) := fun w' h => ⟨hrn.keep h, below_tr hb (below_tr hbn h), (g0.keep hbn).keep h, (g1.keep hbn).keep h, (g2.keep hbn).keep h, (g3.keep hbn).keep h⟩
  have hl := rows_len
  have HL : Hid (rowsL.length = 83) := hl
  clear hl hc hrn hbn hb c0 c1 c2 c3 g0 g1 g2 g3
  rw [hz] at K27 K28 HRW
  obtain ⟨W2, hW2⟩ : ∃ W2, W.alloc (.cells rowsA 55) = W2 := ⟨_, rfl⟩
  rw [hW2] at K27 K28 HRW
  have hcs := idx_cases p
  have HF : Hid (foundR p = (rowsL.find? p).getD zeroR ∧ isFound p = (rowsL.find? p).isSome) := ⟨rfl, rfl⟩
  generalize foundR p = R at HF ⊢
  generalize isFound p = fb at HF ⊢
  rcases hcs with ⟨hi, hf⟩ | ⟨k, hk, hi, hf⟩
  · rw [hf] at HF
    rw [hi] at K28
    obtain ⟨hR, hfb⟩ := HF
    subst hR hfb
    show Calls _ _ _ _ fun e w' => e = .returned (.tuple #[.agg #[.string ⟨#[]⟩, .int .u32 0, .int .u32 0, .string ⟨#[]⟩], .bool false]) ∧ Below w.heap.size w w'
    clear hf hi hW2 hsz hz
    go_enter Tryd.func81, Tryd.ntmps81
    go_wp2_with fail
    refine K27.mono ?_
    rintro e w1 ⟨rfl, rfl⟩
    go_wp2_with fail
    refine K28.mono ?_
    rintro e w3 ⟨rfl, hb3⟩
    obtain ⟨hra, hbw, f0, f1, f2, f3⟩ := HRW.out w3 hb3
    have q0 := f0.cell
    have q1 := f1.cell
    have q2 := f2.cell
    have q3 := f3.cell
    have z0 := f0.frozen
    have z1 := f1.frozen
    have z2 := f2.frozen
    have z3 := f3.frozen
    have hres := res4 w3 w.heap.size (.string ⟨#[]⟩) (.int .u32 0) (.int .u32 0) (.string ⟨#[]⟩) f0 f1 f2 f3
    simp only at hres
    have HBE := below4 (n := w.heap.size) hbw (Nat.le_refl _) (.string ⟨#[]⟩) (.int .u32 0) (.int .u32 0) (.string ⟨#[]⟩)
    obtain ⟨W9, hW9⟩ : ∃ z, (((w3.setCell ⟨w.heap.size, 0, none⟩ (.string ⟨#[]⟩)).setCell ⟨w.heap.size, 1, none⟩ (.int .u32 0)).setCell ⟨w.heap.size, 2, none⟩ (.int .u32 0)).setCell ⟨w.heap.size, 3, none⟩ (.string ⟨#[]⟩) = z := ⟨_, rfl⟩
    rw [hW9] at hres HBE
    have HBE : Hid _ := HBE
    obtain ⟨s0, s1, s2, s3⟩ := hres
    clear K27 K28 hbw hb3 hra
    go_wp2
    refine bodyPost_ret (v := .tuple #[.agg #[.string ⟨#[]⟩, .int .u32 0, .int .u32 0, .string ⟨#[]⟩], .bool false]) ?_ rfl ⟨rfl, HBE.out⟩
    rw [results_cell_tmp rfl]; simp [go_sem, s0, s1, s2, s3]
  · rw [hf] at HF
    rw [hi] at K28
    obtain ⟨hR, hfb⟩ := HF
    simp only [Option.getD_some, Option.isSome_some] at hR hfb
    subst hfb
    have HRk : Hid (∀ w', RowsAt w' (w.heap.size + 1) → w'.cell? ⟨w.heap.size + 1, k * 4, none⟩ = some (.string R.name) ∧ w'.cell? ⟨w.heap.size + 1, k * 4 + 1, none⟩ = some (.int .u32 (R.op : Int)) ∧ w'.cell? ⟨w.heap.size + 1, k * 4 + 2, none⟩ = some (.int .u32 (R.same : Int)) ∧ w'.cell? ⟨w.heap.size + 1, k * 4 + 3, none⟩ = some (.string R.form)) := fun w' h => by rw [hR]; exact h k hk
    have hk83 : (k : Int) < 83 := by rw [HL.out] at hk; omega
    have hk0 : ¬ (k : Int) < 0 := by omega
    obtain ⟨name, op, same, form⟩ := R
    simp only at HRk
    show Calls _ _ _ _ fun e w' => e = .returned (.tuple #[.agg #[.string name, .int .u32 (op : Int), .int .u32 (same : Int), .string form], .bool true]) ∧ Below w.heap.size w w'
    clear hf hi hW2 hsz hz hR hk
    go_enter Tryd.func81, Tryd.ntmps81
    go_wp2_with fail
    refine K27.mono ?_
    rintro e w1 ⟨rfl, rfl⟩
    go_wp2_with fail
    refine K28.mono ?_
    rintro e w3 ⟨rfl, hb3⟩
    obtain ⟨hra, hbw, f0, f1, f2, f3⟩ := HRW.out w3 hb3
    obtain ⟨u0, u1, u2, u3⟩ := HRk.out w3 hra
    have q0 := f0.cell
    have q1 := f1.cell
    have q2 := f2.cell
    have q3 := f3.cell
    have z0 := f0.frozen
    have z1 := f1.frozen
    have z2 := f2.frozen
    have z3 := f3.frozen
    have hres := res4 w3 w.heap.size (.string name) (.int .u32 (op : Int)) (.int .u32 (same : Int)) (.string form) f0 f1 f2 f3
    simp only at hres
    have HBE := below4 (n := w.heap.size) hbw (Nat.le_refl _) (.string name) (.int .u32 (op : Int)) (.int .u32 (same : Int)) (.string form)
    obtain ⟨W9, hW9⟩ : ∃ z, (((w3.setCell ⟨w.heap.size, 0, none⟩ (.string name)).setCell ⟨w.heap.size, 1, none⟩ (.int .u32 (op : Int))).setCell ⟨w.heap.size, 2, none⟩ (.int .u32 (same : Int))).setCell ⟨w.heap.size, 3, none⟩ (.string form) = z := ⟨_, rfl⟩
    rw [hW9] at hres HBE
    have HBE : Hid _ := HBE
    obtain ⟨s0, s1, s2, s3⟩ := hres
    clear K27 K28 hbw hb3 hra HRk
    go_wp2
    refine bodyPost_ret (v := .tuple #[.agg #[.string name, .int .u32 (op : Int), .int .u32 (same : Int), .string form], .bool true]) ?_ rfl ⟨rfl, HBE.out⟩
    rw [results_cell_tmp rfl]; simp [go_sem, s0, s1, s2, s3]
end Go.Proofs.YtogokbefpgaciaaDoor
