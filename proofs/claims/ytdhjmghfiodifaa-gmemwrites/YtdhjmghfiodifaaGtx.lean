/- What is proved here: texts up to a byte 0 are told. -/
import Derived.Test.YtdhjmghfiodifaaGtd
import Derived.Test.YtdhjmghfiodifaaGpt
import Derived.Test.YtdhjmghfiodifaaGpu
import Derived.Test.YtdhjmghfiodifaaGby
import Derived.Laws.Externs
import Derived.WalkLawsBesides
namespace Go.Proofs.Ytdhjmghfiodifaa
open Go.RowKit
set_option linter.unusedVariables false
set_option linter.unusedSimpArgs false
set_option maxRecDepth 100000
theorem results_tct {fn : Func} {p u v : Tmp} {ty : TypeId} (h : fn.results = #[.tmp u, .cell p ty, .tmp v]) (tmps : Array Value) (P : Program) (w : World) :
    (results fn tmps).run P w = ((asAddr (tmps.getD p undef)).run P w).andThen fun a w₁ => ((loadVar ty a).run P w₁).andThen fun x w₂ => .ok (.tuple #[tmps.getD u undef, x, tmps.getD v undef]) w₂ := by
  simp only [results, h]
  simp [Sem.run_bind, Result.andThen]
theorem x_index (s : ByteArray) (w : World) : (callFunc 85 #[.string s, .int .u8 0]).run Try.prog w = .ok (.value (.int .i64 (firstIdx s 0))) w := by
  rw [run_callFunc_extern Try.func85 (by kernel_rfl) (by kernel_rfl) (by kernel_rfl) (e := Extern.BytealgIndexByte.indexByte) (by kernel_rfl), run_indexByte_string]
  rfl
theorem index66 (s : ByteArray) (w : World) : Calls Try.prog 66 #[.string s, .int .u8 0] w fun e w' => e = .returned (.int .i64 (firstIdx s 0)) ∧ w' = w := by
  have h := x_index s
  go_enter Try.func66, Try.ntmps66
  go_wp2
  go_ret
  exact ⟨rfl, rfl⟩
theorem index40 (s : ByteArray) (w : World) : Calls Try.prog 40 #[.string s, .int .u8 0] w fun e w' => e = .returned (.int .i64 (firstIdx s 0)) ∧ w' = w := by
  go_enter Try.func40, Try.ntmps40
  go_wp2_with fail
  refine (index66 s w).mono ?_
  rintro e wz ⟨rfl, rfl⟩
  go_wp2
  go_ret
  exact ⟨rfl, rfl⟩
/-- How many bytes at most. -/
def txN (most : Int) : Nat := (min (max most 0) 255).toNat + 1
def txM (ps : List (Nat × Int)) (a : Nat) (n : Nat) : Nat := if (ffN ps a n 1).1 = 0 then n else (ffN ps a n 1).2 - a
def txS (ms cs ps : List (Nat × Int)) (bs a : Nat) (n : Nat) : ByteArray := ⟨(rdL ms cs (pcM a (bs + a) (txM ps a n) (txM ps a n))).toArray⟩
/-- What Text tells. -/
def txR (ms cs ps : List (Nat × Int)) (bs a : Nat) (n : Nat) : ByteArray × (Int × Nat) × Int :=
  if 0 ≤ firstIdx (txS ms cs ps bs a n) 0 then ((txS ms cs ps bs a n).extract 0 (firstIdx (txS ms cs ps bs a n) 0).toNat, (0, 0), 0)
  else if (ffN ps a n 1).1 = 0 then (⟨#[]⟩, (0, 0), 36) else (⟨#[]⟩, ffN ps a n 1, 0)
theorem ffL_in (ps : List (Nat × Int)) (asked : Int) (a n : Nat) : ∀ xs : List P3, (∀ x ∈ xs, ∃ j, offP a n j < n ∧ x = pcOf a 0 n (offP a n j)) → (ffL ps asked xs).1 ≠ 0 → a ≤ (ffL ps asked xs).2 ∧ (ffL ps asked xs).2 < a + n
  | [], _, h => by simp [ffL] at h
  | x :: t, hx, h => by
    rw [ffL] at h ⊢
    split
    · rename_i c
      rw [if_pos c] at h
      exact ffL_in ps asked a n t (fun y hy => hx y (by simp [hy])) h
    · obtain ⟨j, h1, h2⟩ := hx x (by simp)
      rw [h2]
      simp only [pcOf]
      omega
theorem ffN_in {ps : List (Nat × Int)} {asked : Int} {a n : Nat} (hn : n ≤ 65536) (h : (ffN ps a n asked).1 ≠ 0) : a ≤ (ffN ps a n asked).2 ∧ (ffN ps a n asked).2 < a + n := by
  unfold ffN at h ⊢
  rw [if_neg (by omega)] at h ⊢
  exact ffL_in ps asked a n _ (fun x hx => pcM_is _ _ _ _ _ hx) h
theorem txM_le {ps : List (Nat × Int)} {a n : Nat} (hn : n ≤ 65536) : txM ps a n ≤ n := by
  unfold txM
  split
  · exact Nat.le_refl _
  · rename_i h
    have := ffN_in hn h
    omega
theorem firstIdx_lt (s : ByteArray) (c : UInt8) : firstIdx s c < (s.size : Int) ∧ -1 ≤ firstIdx s c := by
  unfold firstIdx
  split
  · rename_i i hi
    have := List.mem_of_find?_eq_some hi
    simp at this
    omega
  · omega
set_option maxHeartbeats 8000000 in
theorem gtext16 (vm vc vp : Value) (bs a : Nat) (most : Int) (ms cs ps : List (Nat × Int)) (w : World) (hg : GdM w vm vc vp ms cs ps bs) (ha : a < 4294967296) :
    Calls Try.prog 16 #[.agg #[vm, vc, .int .u64 (bs : Int), vp], .int .u32 (a : Int), .int .i64 most] w fun e w' => e = .returned (.tuple #[.string (txR ms cs ps bs a (txN most)).1, .agg #[.int .i64 (txR ms cs ps bs a (txN most)).2.1.1, .int .u64 ((txR ms cs ps bs a (txN most)).2.1.2 : Int)], .int .i64 (txR ms cs ps bs a (txN most)).2.2]) ∧ Below w.heap.size w w' := by
  obtain ⟨⟨am, nm, pm, rfl⟩, ⟨ac, nc, pc, rfl⟩, ⟨ap, np, pp, rfl⟩⟩ := hg.shapes
  obtain ⟨X, hX, hb, hsz, c0, c1, c2, c3, g0, g1⟩ := box42 w (.slice am nm pm) (.slice ac nc pc) (.int .u64 (bs : Int)) (.slice ap np pp) (.int .i64 0) (.int .u64 0)
  obtain ⟨n, hn⟩ : ∃ n, n = txN most := ⟨_, rfl⟩
  have hn1 : n ≤ 256 := by rw [hn]; unfold txN; omega
  obtain ⟨n1, hnn⟩ : ∃ n1, n = n1 + 1 := ⟨n - 1, by rw [hn]; unfold txN; omega⟩
  have w0 : IntKind.u64.wrap (min (max most 0) 255) = (n1 : Int) := by rw [IntKind.wrap_u64]; rw [hn] at hnn; unfold txN at hnn; omega
  have w1 : (n1 : Int) + 1 = (n : Int) := by omega
  have w2 : IntKind.u64.wrap ((n1 : Int) + 1) = (n : Int) := by rw [IntKind.wrap_u64]; omega
  have w3 : min (max most 0) 255 = (n1 : Int) := by rw [hn] at hnn; unfold txN at hnn; omega
  rw [← hn]
  have hgX := hg.keep hb
  have K38 := gff38 (.slice am nm pm) (.slice ac nc pc) (.slice ap np pp) bs a n 1 ps X ⟨_, _, _, rfl⟩ ⟨_, _, _, rfl⟩ hgX.p hgX.sp hgX.lp hgX.hb ha (by omega)
  have K39 : Hid (∀ (m : Nat) w', Below X.heap.size X w' → m ≤ 65536 → Calls Try.prog 39 #[.agg #[.slice am nm pm, .slice ac nc pc, .int .u64 (bs : Int), .slice ap np pp], .int .u32 (a : Int), .int .u64 (m : Int)] w' fun e w'' => e = .returned (.string ⟨(rdL ms cs (pcM a (bs + a) m m)).toArray⟩) ∧ Below w'.heap.size w' w'') := fun m w' hb' hm' => by
    have h := hg.keep (below_tr hb hb')
    exact gread39 _ _ _ bs a m ms cs w' h.m h.c ⟨_, _, _, rfl⟩ h.sm h.sc h.lm h.lc h.hw h.hb ha hm'
  have hz := ffN_zero ps a n 1
  have hin := ffN_in (ps := ps) (asked := 1) (a := a) (n := n) (by omega)
  have hml := txM_le (ps := ps) (a := a) (n := n) (by omega)
  obtain ⟨m, hm⟩ : ∃ m, m = txM ps a n := ⟨_, rfl⟩
  obtain ⟨S, hS⟩ : ∃ S : ByteArray, S = txS ms cs ps bs a n := ⟨_, rfl⟩
  have hS2 : S = ⟨(rdL ms cs (pcM a (bs + a) m m)).toArray⟩ := by rw [hS, txS, ← hm]
  have K39 := K39.out m
  rw [← hS2] at K39
  obtain ⟨F, hF⟩ : ∃ F, F = ffN ps a n 1 := ⟨_, rfl⟩
  obtain ⟨R, hR⟩ : ∃ R, R = txR ms cs ps bs a n := ⟨_, rfl⟩
  have hmF : m = if F.1 = 0 then n else F.2 - a := by rw [hm, txM, ← hF]
  have HR : Hid (R = if 0 ≤ firstIdx S 0 then (S.extract 0 (firstIdx S 0).toNat, (0, 0), 0) else if F.1 = 0 then (⟨#[]⟩, (0, 0), 36) else (⟨#[]⟩, F, 0)) := by show _ = _; rw [hR, txR, ← hS, ← hF]
  have hfl := firstIdx_lt S 0
  have HI : Hid (∀ w', Calls Try.prog 40 #[.string S, .int .u8 0] w' fun e w'' => e = .returned (.int .i64 (firstIdx S 0)) ∧ w'' = w') := fun w' => index40 S w'
  obtain ⟨ix, hix⟩ : ∃ ix, ix = firstIdx S 0 := ⟨_, rfl⟩
  rw [← hF] at K38 hz hin
  rw [← hR]
  rw [← hix] at HR HI hfl
  rw [← hm] at hml
  obtain ⟨kd, fa⟩ := F
  simp only at K38 hz hin hmF HR ⊢
  have HZ : Hid (kd = 0 → (kd, fa) = ((0, 0) : Int × Nat) ∧ n ≤ 65536) := hz
  have hK39 : Hid _ := K39
  clear hg hgX hF hR hS hS2 hm hz hix K39 hn hnn
  go_enter Try.func16, Try.ntmps16
  go_wp2_with fail
  refine K38.mono ?_
  rintro e wy ⟨rfl, hby⟩
  clear K38
  obtain ⟨Wa6, W6, hWa6, hW6, ⟨qa6, qb6, qc6, qd6⟩, G6, hb6⟩ := newF wy (.int .i64 kd) (.int .u64 (fa : Int))
  have k0 := G6.c0
  have k1 := G6.c1
  have hb7 := below_tr hby hb6
  have c0 := keep_cell hb7 c0
  have c1 := keep_cell hb7 c1
  have c2 := keep_cell hb7 c2
  have c3 := keep_cell hb7 c3
  have g0 : Free W6 ⟨w.heap.size + 1, 0, none⟩ := ⟨⟨_, keep_cell hb7 g0.cell⟩, keep_frozen hb7 (by simp; omega) g0.frozen⟩
  have g1 : Free W6 ⟨w.heap.size + 1, 1, none⟩ := ⟨⟨_, keep_cell hb7 g1.cell⟩, keep_frozen hb7 (by simp; omega) g1.frozen⟩
  have HB6 : Hid (Below X.heap.size X W6 ∧ Below w.heap.size w W6 ∧ w.heap.size + 2 ≤ W6.heap.size) := ⟨hb7, below_tr hb hb7, by have := hb7.size; omega⟩
  have FIN : Hid (∀ wq x y, Below W6.heap.size W6 wq → Below w.heap.size w ((wq.setCell ⟨w.heap.size + 1, 0, none⟩ x).setCell ⟨w.heap.size + 1, 1, none⟩ y) ∧ ((wq.setCell ⟨w.heap.size + 1, 0, none⟩ x).setCell ⟨w.heap.size + 1, 1, none⟩ y).cell? ⟨w.heap.size + 1, 0, none⟩ = some x ∧ ((wq.setCell ⟨w.heap.size + 1, 0, none⟩ x).setCell ⟨w.heap.size + 1, 1, none⟩ y).cell? ⟨w.heap.size + 1, 1, none⟩ = some y) := fun wq x y hbq => by
    have hl := HB6.out.2.2
    have F0 : Free wq ⟨w.heap.size + 1, 0, none⟩ := ⟨⟨_, keep_cell hbq g0.cell⟩, keep_frozen hbq (by simp; omega) g0.frozen⟩
    have F1 : Free wq ⟨w.heap.size + 1, 1, none⟩ := ⟨⟨_, keep_cell hbq g1.cell⟩, keep_frozen hbq (by simp; omega) g1.frozen⟩
    obtain ⟨s0, s1⟩ := res2 wq (w.heap.size + 1) x y F0 F1
    exact ⟨((below_tr HB6.out.2.1 hbq).setCell (by simp) _).setCell (by simp) _, s0, s1⟩
  have HFR : Hid (∀ wq, Below W6.heap.size W6 wq → Free wq ⟨w.heap.size + 1, 0, none⟩ ∧ Free wq ⟨w.heap.size + 1, 1, none⟩) := fun wq hbq => by
    have hl := HB6.out.2.2
    exact ⟨⟨⟨_, keep_cell hbq g0.cell⟩, keep_frozen hbq (by simp; omega) g0.frozen⟩, ⟨⟨_, keep_cell hbq g1.cell⟩, keep_frozen hbq (by simp; omega) g1.frozen⟩⟩
  clear hb6 hb7 hsz hb g0 g1 G6
  by_cases h0 : kd = 0
  · rw [if_pos h0] at hmF
    subst hmF
    have K39' := hK39.out W6 HB6.out.1 (by omega)
    have hb0 : (kd != 0) = false := by simp [h0]
    have HR : Hid (R = if 0 ≤ ix then (S.extract 0 ix.toNat, (0, 0), 0) else (⟨#[]⟩, (0, 0), 36)) := by
      have := HR.out
      rw [if_pos h0] at this
      exact this
    clear h0
    go_wp2_with fail
    refine K39'.mono ?_
    rintro e wz ⟨rfl, hbz⟩
    have k0 := keep_cell hbz k0
    have k1 := keep_cell hbz k1
    obtain ⟨F0, F1⟩ := HFR.out wz hbz
    have q0 := F0.cell
    have q1 := F1.cell
    have q2 := F0.frozen
    have q3 := F1.frozen
    have HEND0 : Hid _ := FIN.out wz (.int .i64 0) (.int .u64 0) hbz
    have HEND1 : Hid _ := FIN.out wz (.int .i64 0) (.int .u64 0) hbz
    clear K39' hbz F0 F1 hK39 FIN HFR
    go_wp2_with fail
    refine (HI.out wz).mono ?_
    rintro e wq ⟨rfl, rfl⟩
    by_cases hx : 0 ≤ ix
    · obtain ⟨i, rfl⟩ := Int.eq_ofNat_of_zero_le hx
      have HRR : Hid (R = (S.extract 0 i, (0, 0), 0)) := by have := HR.out; rw [if_pos hx, Int.toNat_natCast] at this; exact this
      have hil : i ≤ S.size := by omega
      clear hx HR HEND1
      go_wp2
      obtain ⟨u0, u1, u2⟩ := HEND0.out
      refine bodyPost_ret (v := .tuple #[.string (S.extract 0 i), .agg #[.int .i64 0, .int .u64 0], .int .i64 0]) ?_ rfl ⟨by rw [HRR.out]; rfl, u0⟩
      rw [results_tct rfl]; simp [go_sem, u1, u2]
    · have hx2 : decide ((0 : Int) ≤ ix) = false := by simpa using hx
      have HRR : Hid (R = (⟨#[]⟩, (0, 0), 36)) := by have := HR.out; rw [if_neg hx] at this; exact this
      clear HR HEND1
      have hx3 : (0 ≤ ix) = False := by simpa using hx
      go_wp2
      obtain ⟨u0, u1, u2⟩ := HEND0.out
      refine bodyPost_ret (v := .tuple #[.string ⟨#[]⟩, .agg #[.int .i64 0, .int .u64 0], .int .i64 36]) ?_ rfl ⟨by rw [HRR.out]; rfl, u0⟩
      rw [results_tct rfl]; simp [go_sem, u1, u2]
  · rw [if_neg h0] at hmF
    have hin := hin h0
    have wm : IntKind.u64.wrap ((fa : Int) - (a : Int)) = (m : Int) := by rw [IntKind.wrap_u64]; omega
    have wa : IntKind.u64.wrap (a : Int) = (a : Int) := by rw [IntKind.wrap_u64]; omega
    have K39' := hK39.out W6 HB6.out.1 (by omega)
    have hb0 : (kd != 0) = true := by simp [h0]
    have hb1 : (kd = 0) = False := by simp [h0]
    have hfa : fa < 18446744073709551616 := by omega
    have HR : Hid (R = if 0 ≤ ix then (S.extract 0 ix.toNat, (0, 0), 0) else (⟨#[]⟩, (kd, fa), 0)) := by
      have := HR.out
      rw [if_neg h0] at this
      exact this
    clear h0 hmF
    go_wp2_with fail
    refine K39'.mono ?_
    rintro e wz ⟨rfl, hbz⟩
    have k0 := keep_cell hbz k0
    have k1 := keep_cell hbz k1
    obtain ⟨F0, F1⟩ := HFR.out wz hbz
    have q0 := F0.cell
    have q1 := F1.cell
    have q2 := F0.frozen
    have q3 := F1.frozen
    have HEND0 : Hid _ := FIN.out wz (.int .i64 0) (.int .u64 0) hbz
    have HEND1 : Hid _ := FIN.out wz (.int .i64 kd) (.int .u64 (fa : Int)) hbz
    clear K39' hbz F0 F1 hK39 FIN HFR
    go_wp2_with fail
    refine (HI.out wz).mono ?_
    rintro e wq ⟨rfl, rfl⟩
    by_cases hx : 0 ≤ ix
    · obtain ⟨i, rfl⟩ := Int.eq_ofNat_of_zero_le hx
      have HRR : Hid (R = (S.extract 0 i, (0, 0), 0)) := by have := HR.out; rw [if_pos hx, Int.toNat_natCast] at this; exact this
      have hil : i ≤ S.size := by omega
      clear hx HR HEND1
      go_wp2
      obtain ⟨u0, u1, u2⟩ := HEND0.out
      refine bodyPost_ret (v := .tuple #[.string (S.extract 0 i), .agg #[.int .i64 0, .int .u64 0], .int .i64 0]) ?_ rfl ⟨by rw [HRR.out]; rfl, u0⟩
      rw [results_tct rfl]; simp [go_sem, u1, u2]
    · have hx2 : decide ((0 : Int) ≤ ix) = false := by simpa using hx
      have HRR : Hid (R = (⟨#[]⟩, (kd, fa), 0)) := by have := HR.out; rw [if_neg hx] at this; exact this
      clear HR HEND0
      have hx3 : (0 ≤ ix) = False := by simpa using hx
      go_wp2
      go_region
      all_goals go_wp2
      all_goals obtain ⟨u0, u1, u2⟩ := HEND1.out
      all_goals refine bodyPost_ret (v := .tuple #[.string ⟨#[]⟩, .agg #[.int .i64 kd, .int .u64 (fa : Int)], .int .i64 0]) ?_ rfl ⟨by rw [HRR.out], u0.drew⟩
      all_goals (rw [results_tct rfl]; simp [go_sem, u1, u2])
end Go.Proofs.Ytdhjmghfiodifaa
