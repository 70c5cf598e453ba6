/- What is proved here: a row is looked for: the first one that is asked for. -/
import Derived.Test.YtglkkeelocdanaaDoorShp
namespace Go.Proofs.YtglkkeelocdanaaDoor
open Go.RowKit
set_option linter.unusedVariables false
set_option linter.unusedSimpArgs false
set_option maxRecDepth 100000
/-- What the rows are. -/
def rowOkB (r : Rw) : Bool := (formL r.form).all isLet && (decide (r.op < 64) && (decide (r.same < 67108864) && (decide (r.shape.few < 67108864) && (r.shape.great == 0 || r.shape.great == 67108800 || r.shape.great == 65535 || r.shape.great == 67108863))))
structure RowOk (r : Rw) : Prop where
  fm : Fm r.form
  op : r.op < 64
  same : r.same < 67108864
  few : r.shape.few < 67108864
  great : Great r.shape.great
theorem rowOk_of {r : Rw} (h : rowOkB r = true) : RowOk r := by
  simp only [rowOkB, Bool.and_eq_true, decide_eq_true_eq, Bool.or_eq_true, beq_iff_eq, List.all_eq_true] at h
  obtain ⟨h1, h2, h3, h4, h5⟩ := h
  refine ⟨h1, h2, h3, h4, ?_⟩
  unfold Great
  rcases h5 with ((h | h) | h) | h
  · exact .inl h
  · exact .inr (.inl h)
  · exact .inr (.inr (.inl h))
  · exact .inr (.inr (.inr h))
theorem rows_ok : rowsL.all rowOkB = true := by decide +kernel
theorem row_ok {r : Rw} (h : r ∈ rowsL) : RowOk r := rowOk_of (List.all_eq_true.1 rows_ok r h)
def zeroR : Rw := ⟨⟨#[]⟩, 0, 0, ⟨#[]⟩⟩
theorem zero_ok : RowOk zeroR := rowOk_of (by decide +kernel)
/-- The rows lie in block b. -/
def RowsAt (w : World) (b : Nat) : Prop := ∀ i (h : i < rowsL.length), w.cell? ⟨b, i * 4, none⟩ = some (.string rowsL[i].name) ∧ w.cell? ⟨b, i * 4 + 1, none⟩ = some (.int .u32 (rowsL[i].op : Int)) ∧ w.cell? ⟨b, i * 4 + 2, none⟩ = some (.int .u32 (rowsL[i].same : Int)) ∧ w.cell? ⟨b, i * 4 + 3, none⟩ = some (.string rowsL[i].form)
theorem RowsAt.keep {w w' : World} {b : Nat} (h : RowsAt w b) (hb : Below w.heap.size w w') : RowsAt w' b := fun i hi => by
  obtain ⟨h0, h1, h2, h3⟩ := h i hi
  exact ⟨keep_cell hb h0, keep_cell hb h1, keep_cell hb h2, keep_cell hb h3⟩
theorem flat_get : ∀ (l : List Rw) (i j : Nat) (h : i < l.length) (hj : j < 4), (l.flatMap Rw.cells)[i * 4 + j]? = (l[i].cells)[j]?
  | [], i, j, h, _ => absurd h (Nat.not_lt_zero _)
  | r :: l, 0, j, _, hj => by
    rw [List.flatMap_cons, List.getElem?_append_left (by show _ < 4; omega), Nat.zero_mul, Nat.zero_add]; rfl
  | r :: l, i + 1, j, h, hj => by
    rw [List.flatMap_cons, List.getElem?_append_right (by show 4 ≤ _; omega), show (i + 1) * 4 + j - r.cells.length = i * 4 + j from by show _ - 4 = _; omega]
    exact flat_get l i j (by simpa using h) hj
theorem rowsAt_new (w : World) : RowsAt (w.alloc (.cells rowsA 69)) w.heap.size := fun i hi => by
  have hg : ∀ j, j < 4 → rowsA[i * 4 + j]? = (rowsL[i].cells)[j]? := fun j hj => by
    rw [rowsA, List.getElem?_toArray]; exact flat_get rowsL i j hi hj
  refine ⟨?_, ?_, ?_, ?_⟩
  · exact cell_newA w _ _ _ _ _ rfl (hg 0 (by decide))
  · exact cell_newA w _ _ _ _ _ rfl (hg 1 (by decide))
  · exact cell_newA w _ _ _ _ _ rfl (hg 2 (by decide))
  · exact cell_newA w _ _ _ _ _ rfl (hg 3 (by decide))
theorem rows_len : rowsL.length = 83 := by decide +kernel
theorem box4 (w : World) (a b c d : Value) (t : Nat) : ∃ W, w.alloc (.cells #[a, b, c, d] t) = W ∧ Below w.heap.size w W ∧ W.heap.size = w.heap.size + 1 ∧
    W.cell? ⟨w.heap.size, 0, none⟩ = some a ∧ W.cell? ⟨w.heap.size, 1, none⟩ = some b ∧ W.cell? ⟨w.heap.size, 2, none⟩ = some c ∧ W.cell? ⟨w.heap.size, 3, none⟩ = some d ∧ Free W ⟨w.heap.size, 0, none⟩ ∧ Free W ⟨w.heap.size, 1, none⟩ ∧ Free W ⟨w.heap.size, 2, none⟩ ∧ Free W ⟨w.heap.size, 3, none⟩ := by
  refine ⟨_, rfl, (Below.refl _ _).alloc (Nat.le_refl _) _, by simp, ?_, ?_, ?_, ?_, ⟨⟨a, ?_⟩, ?_⟩, ⟨⟨b, ?_⟩, ?_⟩, ⟨⟨c, ?_⟩, ?_⟩, ⟨⟨d, ?_⟩, ?_⟩⟩
  all_goals first | exact cell_newA w _ _ _ _ _ rfl rfl | (rw [World.frozen?_alloc_at _ _ _ _ rfl])
theorem res4 (w : World) (n : Nat) (x0 x1 x2 x3 : Value) (f0 : Free w ⟨n, 0, none⟩) (f1 : Free w ⟨n, 1, none⟩) (f2 : Free w ⟨n, 2, none⟩) (f3 : Free w ⟨n, 3, none⟩) :
    let W := (((w.setCell ⟨n, 0, none⟩ x0).setCell ⟨n, 1, none⟩ x1).setCell ⟨n, 2, none⟩ x2).setCell ⟨n, 3, none⟩ x3
    W.cell? ⟨n, 0, none⟩ = some x0 ∧ W.cell? ⟨n, 1, none⟩ = some x1 ∧ W.cell? ⟨n, 2, none⟩ = some x2 ∧ W.cell? ⟨n, 3, none⟩ = some x3 := by
  refine ⟨?_, ?_, ?_, ?_⟩
  · rw [World.cell?_setCell_other _ _ _ _ (by simp)]; rw [World.cell?_setCell_other _ _ _ _ (by simp)]; rw [World.cell?_setCell_other _ _ _ _ (by simp)]; exact World.cell?_setCell_same _ _ _ f0.cell
  · rw [World.cell?_setCell_other _ _ _ _ (by simp)]; rw [World.cell?_setCell_other _ _ _ _ (by simp)]; exact World.cell?_setCell_same _ _ _ (f1.set _ _).cell
  · rw [World.cell?_setCell_other _ _ _ _ (by simp)]; exact World.cell?_setCell_same _ _ _ ((f2.set _ _).set _ _).cell
  · exact World.cell?_setCell_same _ _ _ (((f3.set _ _).set _ _).set _ _).cell
theorem below4 {B : Nat} {w0 w : World} {n : Nat} (h : Below B w0 w) (hn : B ≤ n) (x0 x1 x2 x3 : Value) : Below B w0 ((((w.setCell ⟨n, 0, none⟩ x0).setCell ⟨n, 1, none⟩ x1).setCell ⟨n, 2, none⟩ x2).setCell ⟨n, 3, none⟩ x3) :=
  (((h.setCell hn _).setCell hn _).setCell hn _).setCell hn _
/-- Which of them is the first; -1 if there is none. -/
def idxI (p : Rw → Bool) : Int := match rowsL.findIdx? p with | some k => (k : Int) | none => -1
theorem idx_at (p : Rw → Bool) (k : Nat) (h : k < rowsL.length) (hp : p rowsL[k] = true) (hb : ∀ j (hj : j < rowsL.length), j < k → p rowsL[j] = false) : idxI p = (k : Int) := by
  have : rowsL.findIdx? p = some k := List.findIdx?_eq_some_iff_getElem.2 ⟨h, hp, fun j hj => by rw [hb j (by omega) hj]; decide⟩
  unfold idxI; rw [this]
theorem idx_none (p : Rw → Bool) (hb : ∀ j (hj : j < rowsL.length), p rowsL[j] = false) : idxI p = -1 := by
  have : rowsL.findIdx? p = none := List.findIdx?_eq_none_iff.2 (fun x hx => by obtain ⟨i, hi, rfl⟩ := List.getElem_of_mem hx; exact hb i hi)
  unfold idxI; rw [this]
theorem idx_cases (p : Rw → Bool) : (idxI p = -1 ∧ rowsL.find? p = none) ∨ ∃ k, ∃ h : k < rowsL.length, idxI p = (k : Int) ∧ rowsL.find? p = some rowsL[k] := by
  unfold idxI
  cases h : rowsL.findIdx? p with
  | none =>
    refine .inl ⟨rfl, List.find?_eq_none.2 (fun x hx => ?_)⟩
    have := List.findIdx?_eq_none_iff.1 h x hx
    rw [this]; decide
  | some k =>
    obtain ⟨h1, h2, h3⟩ := List.findIdx?_eq_some_iff_getElem.1 h
    refine .inr ⟨k, h1, rfl, ?_⟩
    rw [List.find?_eq_some_iff_getElem]
    exact ⟨h2, k, h1, rfl, fun j hj => by simpa using h3 j hj⟩
/-- The row that is found. -/
def foundR (p : Rw → Bool) : Rw := (rowsL.find? p).getD zeroR
def isFound (p : Rw → Bool) : Bool := (rowsL.find? p).isSome
set_option maxHeartbeats 1000000 in
theorem index28_17 (p : Rw → Bool) (p0 p1 : Addr) (b : Nat) (w : World) (hr : RowsAt w b) (hc : (∀ r ∈ rowsL, ∀ w', Below w.heap.size w w' → Calls Tryd.prog 59 #[r.val, .pointer (some p0), .pointer (some p1)] w' fun e w'' => e = .returned (.bool (p r)) ∧ Below w'.heap.size w' w'')) :
    Calls Tryd.prog 68 #[.slice (some ⟨b, 0, none⟩) 83 83, .func (.func 59) #[] #[.pointer (some p0), .pointer (some p1)]] w fun e w' => e = .returned (.int .i64 (idxI p)) ∧ Below w.heap.size w w' := by
  have HR : Hid (∀ w', Below w.heap.size w w' → RowsAt w' b) := fun w' h => hr.keep h
  have HC : Hid (∀ r ∈ rowsL, ∀ w', Below w.heap.size w w' → Calls Tryd.prog 59 #[r.val, .pointer (some p0), .pointer (some p1)] w' fun e w'' => e = .returned (.bool (p r)) ∧ Below w'.heap.size w' w'') := hc
  have hl := rows_len
  have HL : Hid (rowsL.length = 83) := hl
  clear hr hc hl
  obtain ⟨z, hz⟩ : ∃ z, z = idxI p := ⟨_, rfl⟩
  rw [← hz]
  have HZ : Hid (z = idxI p) := hz
  clear hz
  go_enter Tryd.func68, Tryd.ntmps68
  go_wp2
  go_loopw [8] (fun i wr => ∃ k : Nat, k ≤ 83 ∧ i = .int .i64 (k : Int) ∧ Below w.heap.size w wr ∧ ∀ j (hj : j < rowsL.length), j < k → p rowsL[j] = false) (fun i _ => 83 - (intOf i).toNat)
  case atStart => exact ⟨0, by decide, rfl, Below.refl _ _, fun j _ h => absurd h (Nat.not_lt_zero _)⟩
  case round =>
    obtain ⟨k, hk, rfl, hbr, hpre⟩ := hrel
    have HB : Hid (Below w.heap.size w wr) := hbr
    have HP : Hid (∀ j (hj : j < rowsL.length), j < k → p rowsL[j] = false) := hpre
    have hk64 : wrap64 ((k : Int) + 1) = (k : Int) + 1 := by unfold wrap64; omega
    by_cases hkl : k < 83
    · have hk' : k < rowsL.length := by rw [HL.out]; exact hkl
      obtain ⟨q0, q1, q2, q3⟩ := HR.out wr hbr k hk'
      have K := HC.out rowsL[k] (List.getElem_mem hk') wr hbr
      unfold Rw.val at K
      have hkI : (k : Int) < 83 := by omega
      have HE : Hid (p rowsL[k] = true → z = (k : Int)) := fun h => by rw [HZ.out]; exact idx_at p k hk' h HP.out
      have HN : Hid (p rowsL[k] = false → ∀ j (hj : j < rowsL.length), j < k + 1 → p rowsL[j] = false) := fun h j hj hjk => by
        by_cases e : j = k
        · subst e; exact h
        · exact HP.out j hj (by omega)
      generalize p rowsL[k] = pb at K HE HN
      generalize rowsL[k] = r at q0 q1 q2 q3 K
      clear hbr hpre hk'
      go_wp2_with fail
      refine K.mono ?_
      rintro e wG ⟨rfl, hbG⟩
      have HBG : Hid (Below w.heap.size w wG) := below_tr HB.out hbG
      clear K hbG q0 q1 q2 q3
      cases pb with
      | true =>
        have HEE : Hid (z = (k : Int)) := HE.out rfl
        go_wp2
        go_ret
        exact ⟨by rw [HEE.out]; rfl, HBG.out⟩
      | false =>
        have HNN : Hid _ := HN.out rfl
        clear HN HE
        go_wp2
        go_roundw
        case rel => exact ⟨k + 1, by omega, by go_num, HBG.out, HNN.out⟩
        case measure => simp [intOf]; omega
    · have he : k = 83 := by omega
      subst he
      have HEE : Hid (z = -1) := by show _ = _; rw [HZ.out]; exact idx_none p (fun j hj => HP.out j hj (by rw [HL.out] at hj; exact hj))
      clear hbr hpre
      go_wp2
      go_ret
      exact ⟨by rw [HEE.out]; rfl, HB.out⟩
set_option maxHeartbeats 1000000 in
theorem found16_17 (p : Rw → Bool) (p0 p1 : Addr) (w : World) (hc : (∀ r ∈ rowsL, ∀ w', Below w.heap.size w w' → Calls Tryd.prog 59 #[r.val, .pointer (some p0), .pointer (some p1)] w' fun e w'' => e = .returned (.bool (p r)) ∧ Below w'.heap.size w' w'')) :
    Calls Tryd.prog 52 #[.func (.func 59) #[] #[.pointer (some p0), .pointer (some p1)]] w fun e w' => e = .returned (.tuple #[(foundR p).val, .bool (isFound p)]) ∧ Below w.heap.size w w' := by
  obtain ⟨W, hW, hb, hz, c0, c1, c2, c3, g0, g1, g2, g3⟩ := box4 w (.string ⟨#[]⟩) (.int .u32 0) (.int .u32 0) (.string ⟨#[]⟩) 69
  have K27 := rows27 W
  have hrn := rowsAt_new W
  have hbn : Below W.heap.size W (W.alloc (.cells rowsA 69)) := (Below.refl _ _).alloc (Nat.le_refl _) _
  have HBW : Hid (Below w.heap.size w W) := hb
  have hsz : w.heap.size + 1 = W.heap.size := hz.symm
  have K28 := index28_17 p p0 p1 W.heap.size (W.alloc (.cells rowsA 69)) hrn (fun r hr w' h => hc r hr w' (below_tr (below_tr hb hbn) h))
  have HRW : Hid (∀ w', Below (W.alloc (.cells rowsA 69)).heap.size (W.alloc (.cells rowsA 69)) w' → RowsAt w' W.heap.size ∧ Below w.heap.size w w' ∧ Free w' ⟨w.heap.size, 0, none⟩ ∧ Free w' ⟨w.heap.size, 1, none⟩ ∧ Free w' ⟨w.heap.size, 2, none⟩ ∧ Free w' ⟨w.heap.size, 3, none⟩) := fun w' h => ⟨hrn.keep h, below_tr hb (below_tr hbn h), (g0.keep hbn).keep h, (g1.keep hbn).keep h, (g2.keep hbn).keep h, (g3.keep hbn).keep h⟩
  have hl := rows_len
  have HL : Hid (rowsL.length = 83) := hl
  clear hl hc hrn hbn hb c0 c1 c2 c3 g0 g1 g2 g3
  rw [hz] at K27 K28 HRW
  obtain ⟨W2, hW2⟩ : ∃ W2, W.alloc (.cells rowsA 69) = W2 := ⟨_, rfl⟩
  rw [hW2] at K27 K28 HRW
  have hcs := idx_cases p
  have HF : Hid (foundR p = (rowsL.find? p).getD zeroR ∧ isFound p = (rowsL.find? p).isSome) := ⟨rfl, rfl⟩
  generalize foundR p = R at HF ⊢
  generalize isFound p = fb at HF ⊢
  rcases hcs with ⟨hi, hf⟩ | ⟨k, hk, hi, hf⟩
  · rw [hf] at HF
    rw [hi] at K28
    obtain ⟨hR, hfb⟩ := HF
    subst hR hfb
    show Calls _ _ _ _ fun e w' => e = .returned (.tuple #[.agg #[.string ⟨#[]⟩, .int .u32 0, .int .u32 0, .string ⟨#[]⟩], .bool false]) ∧ Below w.heap.size w w'
    clear hf hi hW2 hsz hz
    go_enter Tryd.func52, Tryd.ntmps52
    go_wp2_with fail
    refine K27.mono ?_
    rintro e w1 ⟨rfl, rfl⟩
    go_wp2_with fail
    refine K28.mono ?_
    rintro e w3 ⟨rfl, hb3⟩
    obtain ⟨hra, hbw, f0, f1, f2, f3⟩ := HRW.out w3 hb3
    have q0 := f0.cell
    have q1 := f1.cell
    have q2 := f2.cell
    have q3 := f3.cell
    have z0 := f0.frozen
    have z1 := f1.frozen
    have z2 := f2.frozen
    have z3 := f3.frozen
    have hres := res4 w3 w.heap.size (.string ⟨#[]⟩) (.int .u32 0) (.int .u32 0) (.string ⟨#[]⟩) f0 f1 f2 f3
    simp only at hres
    have HBE := below4 (n := w.heap.size) hbw (Nat.le_refl _) (.string ⟨#[]⟩) (.int .u32 0) (.int .u32 0) (.string ⟨#[]⟩)
    obtain ⟨W9, hW9⟩ : ∃ z, (((w3.setCell ⟨w.heap.size, 0, none⟩ (.string ⟨#[]⟩)).setCell ⟨w.heap.size, 1, none⟩ (.int .u32 0)).setCell ⟨w.heap.size, 2, none⟩ (.int .u32 0)).setCell ⟨w.heap.size, 3, none⟩ (.string ⟨#[]⟩) = z := ⟨_, rfl⟩
    rw [hW9] at hres HBE
    have HBE : Hid _ := HBE
    obtain ⟨s0, s1, s2, s3⟩ := hres
    clear K27 K28 hbw hb3 hra
    go_wp2
    refine bodyPost_ret (v := .tuple #[.agg #[.string ⟨#[]⟩, .int .u32 0, .int .u32 0, .string ⟨#[]⟩], .bool false]) ?_ rfl ⟨rfl, HBE.out⟩
    rw [results_cell_tmp rfl]; simp [go_sem, s0, s1, s2, s3]
  · rw [hf] at HF
    rw [hi] at K28
    obtain ⟨hR, hfb⟩ := HF
    simp only [Option.getD_some, Option.isSome_some] at hR hfb
    subst hfb
    have HRk : Hid (∀ w', RowsAt w' (w.heap.size + 1) → w'.cell? ⟨w.heap.size + 1, k * 4, none⟩ = some (.string R.name) ∧ w'.cell? ⟨w.heap.size + 1, k * 4 + 1, none⟩ = some (.int .u32 (R.op : Int)) ∧ w'.cell? ⟨w.heap.size + 1, k * 4 + 2, none⟩ = some (.int .u32 (R.same : Int)) ∧ w'.cell? ⟨w.heap.size + 1, k * 4 + 3, none⟩ = some (.string R.form)) := fun w' h => by rw [hR]; exact h k hk
    have hk83 : (k : Int) < 83 := by rw [HL.out] at hk; omega
    have hk0 : ¬ (k : Int) < 0 := by omega
    obtain ⟨name, op, same, form⟩ := R
    simp only at HRk
    show Calls _ _ _ _ fun e w' => e = .returned (.tuple #[.agg #[.string name, .int .u32 (op : Int), .int .u32 (same : Int), .string form], .bool true]) ∧ Below w.heap.size w w'
    clear hf hi hW2 hsz hz hR hk
    go_enter Tryd.func52, Tryd.ntmps52
    go_wp2_with fail
    refine K27.mono ?_
    rintro e w1 ⟨rfl, rfl⟩
    go_wp2_with fail
    refine K28.mono ?_
    rintro e w3 ⟨rfl, hb3⟩
    obtain ⟨hra, hbw, f0, f1, f2, f3⟩ := HRW.out w3 hb3
    obtain ⟨u0, u1, u2, u3⟩ := HRk.out w3 hra
    have q0 := f0.cell
    have q1 := f1.cell
    have q2 := f2.cell
    have q3 := f3.cell
    have z0 := f0.frozen
    have z1 := f1.frozen
    have z2 := f2.frozen
    have z3 := f3.frozen
    have hres := res4 w3 w.heap.size (.string name) (.int .u32 (op : Int)) (.int .u32 (same : Int)) (.string form) f0 f1 f2 f3
    simp only at hres
    have HBE := below4 (n := w.heap.size) hbw (Nat.le_refl _) (.string name) (.int .u32 (op : Int)) (.int .u32 (same : Int)) (.string form)
    obtain ⟨W9, hW9⟩ : ∃ z, (((w3.setCell ⟨w.heap.size, 0, none⟩ (.string name)).setCell ⟨w.heap.size, 1, none⟩ (.int .u32 (op : Int))).setCell ⟨w.heap.size, 2, none⟩ (.int .u32 (same : Int))).setCell ⟨w.heap.size, 3, none⟩ (.string form) = z := ⟨_, rfl⟩
    rw [hW9] at hres HBE
    have HBE : Hid _ := HBE
    obtain ⟨s0, s1, s2, s3⟩ := hres
    clear K27 K28 hbw hb3 hra HRk
    go_wp2
    refine bodyPost_ret (v := .tuple #[.agg #[.string name, .int .u32 (op : Int), .int .u32 (same : Int), .string form], .bool true]) ?_ rfl ⟨rfl, HBE.out⟩
    rw [results_cell_tmp rfl]; simp [go_sem, s0, s1, s2, s3]
end Go.Proofs.YtglkkeelocdanaaDoor
namespace Go.Proofs.YtglkkeelocdanaaDoor
open Go.RowKit
set_option linter.unusedVariables false
set_option linter.unusedSimpArgs false
set_option maxRecDepth 100000
set_option maxHeartbeats 1000000 in
theorem index28_34 (p : Rw → Bool) (p0 : Addr) (b : Nat) (w : World) (hr : RowsAt w b) (hc : (∀ r ∈ rowsL, ∀ w', Below w.heap.size w w' → Calls Tryd.prog 53 #[r.val, .pointer (some p0)] w' fun e w'' => e = .returned (.bool (p r)) ∧ Below w'.heap.size w' w'')) :
    Calls Tryd.prog 68 #[.slice (some ⟨b, 0, none⟩) 83 83, .func (.func 53) #[] #[.pointer (some p0)]] w fun e w' => e = .returned (.int .i64 (idxI p)) ∧ Below w.heap.size w w' := by
  have HR : Hid (∀ w', Below w.heap.size w w' → RowsAt w' b) := fun w' h => hr.keep h
  have HC : Hid (∀ r ∈ rowsL, ∀ w', Below w.heap.size w w' → Calls Tryd.prog 53 #[r.val, .pointer (some p0)] w' fun e w'' => e = .returned (.bool (p r)) ∧ Below w'.heap.size w' w'') := hc
  have hl := rows_len
  have HL : Hid (rowsL.length = 83) := hl
  clear hr hc hl
  obtain ⟨z, hz⟩ : ∃ z, z = idxI p := ⟨_, rfl⟩
  rw [← hz]
  have HZ : Hid (z = idxI p) := hz
  clear hz
  go_enter Tryd.func68, Tryd.ntmps68
  go_wp2
  go_loopw [8] (fun i wr => ∃ k : Nat, k ≤ 83 ∧ i = .int .i64 (k : Int) ∧ Below w.heap.size w wr ∧ ∀ j (hj : j < rowsL.length), j < k → p rowsL[j] = false) (fun i _ => 83 - (intOf i).toNat)
  case atStart => exact ⟨0, by decide, rfl, Below.refl _ _, fun j _ h => absurd h (Nat.not_lt_zero _)⟩
  case round =>
    obtain ⟨k, hk, rfl, hbr, hpre⟩ := hrel
    have HB : Hid (Below w.heap.size w wr) := hbr
    have HP : Hid (∀ j (hj : j < rowsL.length), j < k → p rowsL[j] = false) := hpre
    have hk64 : wrap64 ((k : Int) + 1) = (k : Int) + 1 := by unfold wrap64; omega
    by_cases hkl : k < 83
    · have hk' : k < rowsL.length := by rw [HL.out]; exact hkl
      obtain ⟨q0, q1, q2, q3⟩ := HR.out wr hbr k hk'
      have K := HC.out rowsL[k] (List.getElem_mem hk') wr hbr
      unfold Rw.val at K
      have hkI : (k : Int) < 83 := by omega
      have HE : Hid (p rowsL[k] = true → z = (k : Int)) := fun h => by rw [HZ.out]; exact idx_at p k hk' h HP.out
      have HN : Hid (p rowsL[k] = false → ∀ j (hj : j < rowsL.length), j < k + 1 → p rowsL[j] = false) := fun h j hj hjk => by
        by_cases e : j = k
        · subst e; exact h
        · exact HP.out j hj (by omega)
      generalize p rowsL[k] = pb at K HE HN
      generalize rowsL[k] = r at q0 q1 q2 q3 K
      clear hbr hpre hk'
      go_wp2_with fail
      refine K.mono ?_
      rintro e wG ⟨rfl, hbG⟩
      have HBG : Hid (Below w.heap.size w wG) := below_tr HB.out hbG
      clear K hbG q0 q1 q2 q3
      cases pb with
      | true =>
        have HEE : Hid (z = (k : Int)) := HE.out rfl
        go_wp2
        go_ret
        exact ⟨by rw [HEE.out]; rfl, HBG.out⟩
      | false =>
        have HNN : Hid _ := HN.out rfl
        clear HN HE
        go_wp2
        go_roundw
        case rel => exact ⟨k + 1, by omega, by go_num, HBG.out, HNN.out⟩
        case measure => simp [intOf]; omega
    · have he : k = 83 := by omega
      subst he
      have HEE : Hid (z = -1) := by show _ = _; rw [HZ.out]; exact idx_none p (fun j hj => HP.out j hj (by rw [HL.out] at hj; exact hj))
      clear hbr hpre
      go_wp2
      go_ret
      exact ⟨by rw [HEE.out]; rfl, HB.out⟩
set_option maxHeartbeats 1000000 in
theorem found16_34 (p : Rw → Bool) (p0 : Addr) (w : World) (hc : (∀ r ∈ rowsL, ∀ w', Below w.heap.size w w' → Calls Tryd.prog 53 #[r.val, .pointer (some p0)] w' fun e w'' => e = .returned (.bool (p r)) ∧ Below w'.heap.size w' w'')) :
    Calls Tryd.prog 52 #[.func (.func 53) #[] #[.pointer (some p0)]] w fun e w' => e = .returned (.tuple #[(foundR p).val, .bool (isFound p)]) ∧ Below w.heap.size w w' := by
  obtain ⟨W, hW, hb, hz, c0, c1, c2, c3, g0, g1, g2, g3⟩ := box4 w (.string ⟨#[]⟩) (.int .u32 0) (.int .u32 0) (.string ⟨#[]⟩) 69
  have K27 := rows27 W
  have hrn := rowsAt_new W
  have hbn : Below W.heap.size W (W.alloc (.cells rowsA 69)) := (Below.refl _ _).alloc (Nat.le_refl _) _
  have HBW : Hid (Below w.heap.size w W) := hb
  have hsz : w.heap.size + 1 = W.heap.size := hz.symm
  have K28 := index28_34 p p0 W.heap.size (W.alloc (.cells rowsA 69)) hrn (fun r hr w' h => hc r hr w' (below_tr (below_tr hb hbn) h))
  have HRW : Hid (∀ w', Below (W.alloc (.cells rowsA 69)).heap.size (W.alloc (.cells rowsA 69)) w' → RowsAt w' W.heap.size ∧ Below w.heap.size w w' ∧ Free w' ⟨w.heap.size, 0, none⟩ ∧ Free w' ⟨w.heap.size, 1, none⟩ ∧ Free w' ⟨w.heap.size, 2, none⟩ ∧ Free w' ⟨w.heap.size, 3, none⟩) := fun w' h => ⟨hrn.keep h, below_tr hb (below_tr hbn h), (g0.keep hbn).keep h, (g1.keep hbn).keep h, (g2.keep hbn).keep h, (g3.keep hbn).keep h⟩
  have hl := rows_len
  have HL : Hid (rowsL.length = 83) := hl
  clear hl hc hrn hbn hb c0 c1 c2 c3 g0 g1 g2 g3
  rw [hz] at K27 K28 HRW
  obtain ⟨W2, hW2⟩ : ∃ W2, W.alloc (.cells rowsA 69) = W2 := ⟨_, rfl⟩
  rw [hW2] at K27 K28 HRW
  have hcs := idx_cases p
  have HF : Hid (foundR p = (rowsL.find? p).getD zeroR ∧ isFound p = (rowsL.find? p).isSome) := ⟨rfl, rfl⟩
  generalize foundR p = R at HF ⊢
  generalize isFound p = fb at HF ⊢
  rcases hcs with ⟨hi, hf⟩ | ⟨k, hk, hi, hf⟩
  · rw [hf] at HF
    rw [hi] at K28
    obtain ⟨hR, hfb⟩ := HF
    subst hR hfb
    show Calls _ _ _ _ fun e w' => e = .returned (.tuple #[.agg #[.string ⟨#[]⟩, .int .u32 0, .int .u32 0, .string ⟨#[]⟩], .bool false]) ∧ Below w.heap.size w w'
    clear hf hi hW2 hsz hz
    go_enter Tryd.func52, Tryd.ntmps52
    go_wp2_with fail
    refine K27.mono ?_
    rintro e w1 ⟨rfl, rfl⟩
    go_wp2_with fail
    refine K28.mono ?_
    rintro e w3 ⟨rfl, hb3⟩
    obtain ⟨hra, hbw, f0, f1, f2, f3⟩ := HRW.out w3 hb3
    have q0 := f0.cell
    have q1 := f1.cell
    have q2 := f2.cell
    have q3 := f3.cell
    have z0 := f0.frozen
    have z1 := f1.frozen
    have z2 := f2.frozen
    have z3 := f3.frozen
    have hres := res4 w3 w.heap.size (.string ⟨#[]⟩) (.int .u32 0) (.int .u32 0) (.string ⟨#[]⟩) f0 f1 f2 f3
    simp only at hres
    have HBE := below4 (n := w.heap.size) hbw (Nat.le_refl _) (.string ⟨#[]⟩) (.int .u32 0) (.int .u32 0) (.string ⟨#[]⟩)
    obtain ⟨W9, hW9⟩ : ∃ z, (((w3.setCell ⟨w.heap.size, 0, none⟩ (.string ⟨#[]⟩)).setCell ⟨w.heap.size, 1, none⟩ (.int .u32 0)).setCell ⟨w.heap.size, 2, none⟩ (.int .u32 0)).setCell ⟨w.heap.size, 3, none⟩ (.string ⟨#[]⟩) = z := ⟨_, rfl⟩
    rw [hW9] at hres HBE
    have HBE : Hid _ := HBE
    obtain ⟨s0, s1, s2, s3⟩ := hres
    clear K27 K28 hbw hb3 hra
    go_wp2
    refine bodyPost_ret (v := .tuple #[.agg #[.string ⟨#[]⟩, .int .u32 0, .int .u32 0, .string ⟨#[]⟩], .bool false]) ?_ rfl ⟨rfl, HBE.out⟩
    rw [results_cell_tmp rfl]; simp [go_sem, s0, s1, s2, s3]
  · rw [hf] at HF
    rw [hi] at K28
    obtain ⟨hR, hfb⟩ := HF
    simp only [Option.getD_some, Option.isSome_some] at hR hfb
    subst hfb
    have HRk : Hid (∀ w', RowsAt w' (w.heap.size + 1) → w'.cell? ⟨w.heap.size + 1, k * 4, none⟩ = some (.string R.name) ∧ w'.cell? ⟨w.heap.size + 1, k * 4 + 1, none⟩ = some (.int .u32 (R.op : Int)) ∧ w'.cell? ⟨w.heap.size + 1, k * 4 + 2, none⟩ = some (.int .u32 (R.same : Int)) ∧ w'.cell? ⟨w.heap.size + 1, k * 4 + 3, none⟩ = some (.string R.form)) := fun w' h => by rw [hR]; exact h k hk
    have hk83 : (k : Int) < 83 := by rw [HL.out] at hk; omega
    have hk0 : ¬ (k : Int) < 0 := by omega
    obtain ⟨name, op, same, form⟩ := R
    simp only at HRk
    show Calls _ _ _ _ fun e w' => e = .returned (.tuple #[.agg #[.string name, .int .u32 (op : Int), .int .u32 (same : Int), .string form], .bool true]) ∧ Below w.heap.size w w'
    clear hf hi hW2 hsz hz hR hk
    go_enter Tryd.func52, Tryd.ntmps52
    go_wp2_with fail
    refine K27.mono ?_
    rintro e w1 ⟨rfl, rfl⟩
    go_wp2_with fail
    refine K28.mono ?_
    rintro e w3 ⟨rfl, hb3⟩
    obtain ⟨hra, hbw, f0, f1, f2, f3⟩ := HRW.out w3 hb3
    obtain ⟨u0, u1, u2, u3⟩ := HRk.out w3 hra
    have q0 := f0.cell
    have q1 := f1.cell
    have q2 := f2.cell
    have q3 := f3.cell
    have z0 := f0.frozen
    have z1 := f1.frozen
    have z2 := f2.frozen
    have z3 := f3.frozen
    have hres := res4 w3 w.heap.size (.string name) (.int .u32 (op : Int)) (.int .u32 (same : Int)) (.string form) f0 f1 f2 f3
    simp only at hres
    have HBE := below4 (n := w.heap.size) hbw (Nat.le_refl _) (.string name) (.int .u32 (op : Int)) (.int .u32 (same : Int)) (.string form)
    obtain ⟨W9, hW9⟩ : ∃ z, (((w3.setCell ⟨w.heap.size, 0, none⟩ (.string name)).setCell ⟨w.heap.size, 1, none⟩ (.int .u32 (op : Int))).setCell ⟨w.heap.size, 2, none⟩ (.int .u32 (same : Int))).setCell ⟨w.heap.size, 3, none⟩ (.string form) = z := ⟨_, rfl⟩
    rw [hW9] at hres HBE
    have HBE : Hid _ := HBE
    obtain ⟨s0, s1, s2, s3⟩ := hres
    clear K27 K28 hbw hb3 hra HRk
    go_wp2
    refine bodyPost_ret (v := .tuple #[.agg #[.string name, .int .u32 (op : Int), .int .u32 (same : Int), .string form], .bool true]) ?_ rfl ⟨rfl, HBE.out⟩
    rw [results_cell_tmp rfl]; simp [go_sem, s0, s1, s2, s3]
end Go.Proofs.YtglkkeelocdanaaDoor
