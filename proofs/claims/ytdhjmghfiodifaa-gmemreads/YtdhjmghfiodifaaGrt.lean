/- What is proved here: the document's texts. -/
import Derived.Test.YtdhjmghfiodifaaGrq
import Derived.Lib.Bytealg
import Derived.Lib.IndexLaws
namespace Go.Proofs.Ytdhjmghfiodifaa
open Go.RowKit
set_option linter.unusedVariables false
set_option linter.unusedSimpArgs false
set_option maxRecDepth 100000
theorem idx_none (c : UInt8) : ∀ l : List UInt8, (∀ x ∈ l, x ≠ c) → Lib.indexByte l c = -1
  | [], _ => rfl
  | b :: t, h => by
    have h0 : (b == c) = false := by simpa using h b (by simp)
    rw [Lib.indexByte, h0, idx_none c t (fun x hx => h x (by simp [hx]))]
    rfl
theorem idx_first (c : UInt8) (r : List UInt8) : ∀ l : List UInt8, (∀ x ∈ l, x ≠ c) → Lib.indexByte (l ++ c :: r) c = (l.length : Int)
  | [], _ => by simp [Lib.indexByte]
  | b :: t, h => by
    have h0 : (b == c) = false := by simpa using h b (by simp)
    have h1 := idx_first c r t (fun x hx => h x (by simp [hx]))
    rw [List.cons_append, Lib.indexByte, h0, h1]
    have h2 : (((t.length : Nat) : Int) == -1) = false := by simp only [beq_eq_false_iff_ne, ne_eq]; omega
    rw [h2]
    simp
theorem txS_by {ms cs ps : List (Nat × Int)} {bs a n : Nat} (hf : FitG ms cs ps bs) (hw : Words cs) (ha : a < 4294967296) (hn : n ≤ 65536) : (txS ms cs ps bs a n).data.toList = byL cs (bs + a) (txM ps a n) := by
  have hm := txM_le (ps := ps) (a := a) (n := n) hn
  have h2 : (ffN ps a (txM ps a n) 1).1 = 0 := by
    refine (ffN_bytes ps a _ 1).2 ⟨by omega, fun i hi => ?_⟩
    by_cases h : (ffN ps a n 1).1 = 0
    · exact ((ffN_bytes ps a n 1).1 h).2 i (by omega)
    · have e : ffN ps a n 1 = ffL ps 1 (pcM a 0 n n) := by unfold ffN; rw [if_neg (by omega)]
      unfold txM at hi
      rw [if_neg h] at hi
      rw [e] at h hi
      exact ffL_before ps 1 a n n h i (by omega)
  unfold txS
  show (rdL ms cs (pcM a (bs + a) (txM ps a n) (txM ps a n))).toArray.toList = _
  rw [rdL_by ms cs hw bs a _ (fit_host hf ha (Or.inl rfl) h2) _ (Nat.le_refl _), offP_full]
def Nz (cs : List (Nat × Int)) (p i : Nat) : Prop := ∀ x ∈ byL cs p i, x ≠ 0
theorem tx_fault {ms cs ps : List (Nat × Int)} {bs a n i : Nat} (hf : FitG ms cs ps bs) (hw : Words cs) (ha : a < 4294967296) (hn : n ≤ 65536) (hi : i < n) (hz : Nz cs (bs + a) i) (hg : ∀ j, j < i → gk ps 1 (a + j) = 0) (h : gk ps 1 (a + i) ≠ 0) : txR ms cs ps bs a n = (⟨#[]⟩, (gk ps 1 (a + i), a + i), 0) := by
  have e := ask_at hn hi h hg
  have e2 := txS_by (n := n) hf hw ha hn
  have e3 : txM ps a n = i := by unfold txM; rw [e]; rw [if_neg h]; show a + i - a = i; omega
  have e4 : firstIdx (txS ms cs ps bs a n) 0 = -1 := by rw [Lib.firstIdx_eq, e2, e3]; exact idx_none 0 _ hz
  unfold txR
  rw [e4, if_neg (by decide), e, if_neg h]
theorem tx_long {ms cs ps : List (Nat × Int)} {bs a n : Nat} (hf : FitG ms cs ps bs) (hw : Words cs) (ha : a < 4294967296) (hn : n ≤ 65536) (hz : Nz cs (bs + a) n) (hg : ∀ j, j < n → gk ps 1 (a + j) = 0) : txR ms cs ps bs a n = (⟨#[]⟩, (0, 0), 36) := by
  have e := ask_no hn hg
  have e2 := txS_by (n := n) hf hw ha hn
  have e3 : txM ps a n = n := by unfold txM; rw [e]; rfl
  have e4 : firstIdx (txS ms cs ps bs a n) 0 = -1 := by rw [Lib.firstIdx_eq, e2, e3]; exact idx_none 0 _ hz
  unfold txR
  rw [e4, if_neg (by decide), e]
  rfl
theorem tx_found {ms cs ps : List (Nat × Int)} {bs a n i : Nat} (hf : FitG ms cs ps bs) (hw : Words cs) (ha : a < 4294967296) (hn : n ≤ 65536) (hi : i < n) (hz : Nz cs (bs + a) i) (hg : ∀ j, j < i + 1 → gk ps 1 (a + j) = 0) (h : UInt8.ofNat (peekN cs (bs + a + i)) = 0) : txR ms cs ps bs a n = (⟨(byL cs (bs + a) i).toArray⟩, (0, 0), 0) := by
  have e2 := txS_by (n := n) hf hw ha hn
  have hm : i + 1 ≤ txM ps a n := by
    unfold txM
    split
    · omega
    · rename_i hne
      have hin := ffN_in hn hne
      have hgk := ffL_gk' ps 1 (pcM a 0 n n) (by have e : ffN ps a n 1 = ffL ps 1 (pcM a 0 n n) := by (unfold ffN; rw [if_neg (by omega)])
                                                 rw [← e]; exact hne)
      rw [show ffL ps 1 (pcM a 0 n n) = ffN ps a n 1 by unfold ffN; rw [if_neg (by omega)]] at hgk
      rcases Nat.lt_or_ge ((ffN ps a n 1).2 - a) (i + 1) with c | c
      · have := hg ((ffN ps a n 1).2 - a) c
        rw [show a + ((ffN ps a n 1).2 - a) = (ffN ps a n 1).2 by omega, hgk] at this
        exact absurd this hne
      · exact c
  obtain ⟨r, hr⟩ : ∃ r, txM ps a n = i + (1 + r) := ⟨txM ps a n - i - 1, by omega⟩
  have e5 : byL cs (bs + a) (txM ps a n) = byL cs (bs + a) i ++ 0 :: byL cs (bs + a + i + 1) r := by
    rw [hr, byL_add, byL_add]
    congr 1
    rw [show byL cs (bs + a + i) 1 = [UInt8.ofNat (peekN cs (bs + a + i))] from rfl, h]
    rfl
  have e4 : firstIdx (txS ms cs ps bs a n) 0 = (i : Int) := by rw [Lib.firstIdx_eq, e2, e5, idx_first 0 _ _ hz, byL_length]
  unfold txR
  rw [e4, if_pos (by omega), Int.toNat_natCast]
  have e6 : (txS ms cs ps bs a n).extract 0 i = ⟨(byL cs (bs + a) i).toArray⟩ := by
    apply ByteArray.ext
    apply Array.toList_inj.1
    rw [ByteArray.data_extract, Array.toList_extract, e2, e5]
    simp [List.extract, byL_length]
  rw [e6]
theorem nz_snoc {cs : List (Nat × Int)} {p i : Nat} (h : Nz cs p i) (h2 : UInt8.ofNat (peekN cs (p + i)) ≠ 0) : Nz cs p (i + 1) := by
  intro x hx
  rw [byL_snoc] at hx
  rcases List.mem_append.1 hx with e | e
  · exact h x e
  · simp at e; rw [e]; exact h2
theorem ret_text {T : ByteArray} {kd E : Int} {fa : Nat} {R : ByteArray × (Int × Nat) × Int} (h : R = (T, (kd, fa), E)) : Ending.returned (.tuple #[.string T, .agg #[.int .i64 kd, .int .u64 (fa : Int)], .int .i64 E]) = .returned (.tuple #[.string R.1, .agg #[.int .i64 R.2.1.1, .int .u64 (R.2.1.2 : Int)], .int .i64 R.2.2]) := by rw [h]
set_option maxHeartbeats 4000000 in
theorem rtext17 (vm vc vp : Value) (bs a : Nat) (most : Int) (ms cs ps : List (Nat × Int)) (w : World) (hsl : SlG w vm vc vp ms cs ps) (hf : FitG ms cs ps bs) (hw : Words cs) (ha : a < 4294967296) :
    Calls Try.prog 17 #[.agg #[vm, vc, .int .u64 (bs : Int), vp], .int .u32 (a : Int), .int .i64 most] w fun e w' => e = .returned (.tuple #[.string (txR ms cs ps bs a (txN most)).1, .agg #[.int .i64 (txR ms cs ps bs a (txN most)).2.1.1, .int .u64 ((txR ms cs ps bs a (txN most)).2.1.2 : Int)], .int .i64 (txR ms cs ps bs a (txN most)).2.2]) ∧ Below w.heap.size w w' := by
  obtain ⟨am, pm, rfl, _⟩ := id hsl.1
  obtain ⟨ac, pc, rfl, _⟩ := id hsl.2.1
  obtain ⟨ap, pp, rfl, _⟩ := id hsl.2.2
  obtain ⟨nm, hnm⟩ : ∃ z, z = ms.length := ⟨_, rfl⟩
  obtain ⟨nc, hnc⟩ : ∃ z, z = cs.length := ⟨_, rfl⟩
  obtain ⟨np, hnp⟩ : ∃ z, z = ps.length := ⟨_, rfl⟩
  rw [← hnm, ← hnc, ← hnp] at hsl ⊢
  clear hnm hnc hnp
  obtain ⟨X, hX, hb, hsz, c0, c1, c2, c3, g0, g1⟩ := box42 w (.slice am nm pm) (.slice ac nc pc) (.int .u64 (bs : Int)) (.slice ap np pp) (.int .i64 0) (.int .u64 0)
  have HFIN : Hid (∀ wq x y, Below X.heap.size X wq → (Free wq ⟨w.heap.size + 1, 0, none⟩ ∧ Free wq ⟨w.heap.size + 1, 1, none⟩) ∧ Below w.heap.size w ((wq.setCell ⟨w.heap.size + 1, 0, none⟩ x).setCell ⟨w.heap.size + 1, 1, none⟩ y) ∧ ((wq.setCell ⟨w.heap.size + 1, 0, none⟩ x).setCell ⟨w.heap.size + 1, 1, none⟩ y).cell? ⟨w.heap.size + 1, 0, none⟩ = some x ∧ ((wq.setCell ⟨w.heap.size + 1, 0, none⟩ x).setCell ⟨w.heap.size + 1, 1, none⟩ y).cell? ⟨w.heap.size + 1, 1, none⟩ = some y) := fun wq x y hbq => by
    have F0 : Free wq ⟨w.heap.size + 1, 0, none⟩ := ⟨⟨_, keep_cell hbq g0.cell⟩, keep_frozen hbq (by simp; omega) g0.frozen⟩
    have F1 : Free wq ⟨w.heap.size + 1, 1, none⟩ := ⟨⟨_, keep_cell hbq g1.cell⟩, keep_frozen hbq (by simp; omega) g1.frozen⟩
    obtain ⟨s0, s1⟩ := res2 wq (w.heap.size + 1) x y F0 F1
    exact ⟨⟨F0, F1⟩, ((below_tr hb hbq).setCell (by simp) _).setCell (by simp) _, s0, s1⟩
  obtain ⟨n, hn⟩ : ∃ n, n = txN most := ⟨_, rfl⟩
  have hn1 : n ≤ 256 := by rw [hn]; unfold txN; omega
  obtain ⟨n1, hnn⟩ : ∃ n1, n = n1 + 1 := ⟨n - 1, by rw [hn]; unfold txN; omega⟩
  have w3 : min (max most 0) 255 = (n1 : Int) := by rw [hn] at hnn; unfold txN at hnn; omega
  rw [← hn]
  have K41 : Hid (∀ (q : Nat) w', Below X.heap.size X w' → q < 18446744073709551616 → Calls Try.prog 41 #[.agg #[.slice am nm pm, .slice ac nc pc, .int .u64 (bs : Int), .slice ap np pp], .int .u64 (q : Int), .int .i64 1] w' fun e w'' => e = .returned (.int .i64 (gk ps 1 q)) ∧ Below w'.heap.size w' w'') := fun q w' hb' hq => rkind41 _ _ _ bs q 1 ps w' ⟨_, _, _, rfl⟩ ⟨_, _, _, rfl⟩ ((hsl.keep hb).keep hb').2.2 (fun x hx => (hf.pg x hx).1) (fun x hx => (hf.pg x hx).2.2.1) hq (Or.inr (Or.inl rfl))
  have K33 : Hid (∀ (q : Nat) w', Below X.heap.size X w' → q < 4294967296 → Calls Try.prog 33 #[.agg #[.slice am nm pm, .slice ac nc pc, .int .u64 (bs : Int), .slice ap np pp], .int .u32 (q : Int), .int .i64 1] w' fun e w'' => e = .returned (.string ⟨#[UInt8.ofNat (peekN cs (bs + q))]⟩) ∧ Below w'.heap.size w' w'') := fun q w' hb' hq => rpeek33 _ _ _ bs q 1 cs w' ⟨_, _, _, rfl⟩ ((hsl.keep hb).keep hb').2.1 ⟨_, _, _, rfl⟩ hw hf.le hq (by omega)
  have HHI : Hid (∀ q, gk ps 1 q = 0 → q < 4294967296) := fun q h => by
    obtain ⟨x, hx, e⟩ := gk_page h
    have := (hf.pg x hx).1
    omega
  have HF1 : Hid (∀ i, i < n → Nz cs (bs + a) i → (∀ j, j < i → gk ps 1 (a + j) = 0) → gk ps 1 (a + i) ≠ 0 → txR ms cs ps bs a n = (⟨#[]⟩, (gk ps 1 (a + i), a + i), 0)) := fun i hi hz hg h => tx_fault hf hw ha (by omega) hi hz hg h
  have HF2 : Hid (∀ i, i < n → Nz cs (bs + a) i → (∀ j, j < i + 1 → gk ps 1 (a + j) = 0) → UInt8.ofNat (peekN cs (bs + a + i)) = 0 → txR ms cs ps bs a n = (⟨(byL cs (bs + a) i).toArray⟩, (0, 0), 0)) := fun i hi hz hg h => tx_found hf hw ha (by omega) hi hz hg h
  have HF3 : Hid (Nz cs (bs + a) n → (∀ j, j < n → gk ps 1 (a + j) = 0) → txR ms cs ps bs a n = (⟨#[]⟩, (0, 0), 36)) := fun hz hg => tx_long hf hw ha (by omega) hz hg
  obtain ⟨R, hR⟩ : ∃ z, z = txR ms cs ps bs a n := ⟨_, rfl⟩
  rw [← hR] at HF1 HF2 HF3 ⊢
  have wa : IntKind.u64.wrap (a : Int) = (a : Int) := by rw [IntKind.wrap_u64]; omega
  have HNN : Hid (n = n1 + 1) := hnn
  have hn2 : n1 ≤ 255 := by omega
  clear hn hR hnn hsl hf hw g0 g1 hn1
  go_enter Try.func17, Try.ntmps17
  go_wp2
  go_loopw [10, 11] (fun x i wr => ∃ (k : Nat) (S : ByteArray), k ≤ n1 + 1 ∧ i = .int .i64 (k : Int) ∧ x = .string S ∧ S = ⟨(byL cs (bs + a) k).toArray⟩ ∧ Nz cs (bs + a) k ∧ (∀ j, j < k → gk ps 1 (a + j) = 0) ∧ Below X.heap.size X wr) (fun _ i _ => n1 + 1 - (intOf i).toNat)
  case atStart => exact ⟨0, ⟨#[]⟩, Nat.zero_le _, rfl, rfl, rfl, fun x hx => by simp [byL] at hx, fun j hj => by omega, Below.refl _ _⟩
  case round =>
    obtain ⟨k, S, hk, rfl, rfl, hS, hz, hal, hbr⟩ := hrel
    have HS : Hid (S = ⟨(byL cs (bs + a) k).toArray⟩ ∧ S.size = k) := ⟨hS, by rw [hS]; show (byL cs (bs + a) k).toArray.size = k; rw [List.size_toArray, byL_length]⟩
    have HZ : Hid (Nz cs (bs + a) k) := hz
    have HA : Hid (∀ j, j < k → gk ps 1 (a + j) = 0) := hal
    clear hS hz hal
    have c0 := keep_cell hbr c0
    have c1 := keep_cell hbr c1
    have c2 := keep_cell hbr c2
    have c3 := keep_cell hbr c3
    by_cases hkl : k ≤ n1
    · obtain ⟨at_, hat⟩ : ∃ z, z = a + k := ⟨_, rfl⟩
      have wk : IntKind.u64.wrap (k : Int) = (k : Int) := by rw [IntKind.wrap_u64]; omega
      have ws : IntKind.u64.wrap ((a : Int) + (k : Int)) = (at_ : Int) := by rw [IntKind.wrap_u64]; omega
      have ws2 : (a : Int) + (k : Int) = (at_ : Int) := by omega
      have R41 := K41.out at_ wr hbr (by omega)
      obtain ⟨g, hg⟩ : ∃ z, z = gk ps 1 at_ := ⟨_, rfl⟩
      rw [← hg] at R41
      have HG : Hid (g = gk ps 1 at_ ∧ at_ = a + k) := ⟨hg, hat⟩
      clear hg hat
      by_cases hz : g = 0
      · have hhi : at_ < 4294967296 := HHI.out at_ (by rw [← HG.out.1]; exact hz)
        subst hz
        go_wp2_with fail
        refine R41.mono ?_
        rintro e w4 ⟨rfl, hb4⟩
        clear R41
        have hb5 := below_tr hbr hb4
        have c0 := keep_cell hb4 c0
        have c1 := keep_cell hb4 c1
        have c2 := keep_cell hb4 c2
        have c3 := keep_cell hb4 c3
        have R33 := K33.out at_ w4 hb5 hhi
        obtain ⟨b, hbt⟩ : ∃ z, z = UInt8.ofNat (peekN cs (bs + at_)) := ⟨_, rfl⟩
        rw [← hbt] at R33
        have HBT : Hid (b = UInt8.ofNat (peekN cs (bs + a + k))) := by rw [hbt, HG.out.2, Nat.add_assoc]; rfl
        have wx : IntKind.u32.wrap (at_ : Int) = (at_ : Int) := by rw [IntKind.wrap_u32]; omega
        have wx2 : (at_ : Int) % 4294967296 = (at_ : Int) := by omega
        have HAL : Hid (∀ j, j < k + 1 → gk ps 1 (a + j) = 0) := fun j hj => by
          by_cases e : j = k
          · subst e; rw [← HG.out.2]; exact HG.out.1.symm
          · exact HA.out j (by omega)
        clear hbt
        go_wp2_with fail
        refine R33.mono ?_
        rintro e w6 ⟨rfl, hb6⟩
        clear R33
        have hb7 := below_tr hb5 hb6
        by_cases hb0 : b = 0
        · subst hb0
          have HE : Hid (R = (S, (0, 0), 0)) := by
            have h := HF2.out k (by have := HNN.out; omega) HZ.out HAL.out HBT.out.symm
            rw [← HS.out.1] at h
            exact h
          clear HF1 HF2 HF3 K41 K33
          obtain ⟨⟨F0, F1⟩, u0, u1, u2⟩ := HFIN.out w6 (.int .i64 0) (.int .u64 0) hb7
          have q0 := F0.cell
          have q1 := F1.cell
          have q2 := F0.frozen
          have q3 := F1.frozen
          have HU : Hid _ := u0
          have HU1 : Hid _ := u1
          have HU2 : Hid _ := u2
          clear F0 F1 u0 u1 u2
          go_wp2
          have u1 := HU1.out
          have u2 := HU2.out
          refine bodyPost_ret (v := .tuple #[.string S, .agg #[.int .i64 0, .int .u64 0], .int .i64 0]) ?_ rfl ⟨ret_text HE.out, HU.out⟩
          rw [results_tct rfl]; simp [go_sem, u1, u2]
        · have hc0 : ([b] == [0]) = false := by simpa using hb0
          have hc1 : (b == 0) = false := by simpa using hb0
          have hc2 : (b = 0) = False := by simpa using hb0
          obtain ⟨S', hS'⟩ : ∃ z : ByteArray, z = S ++ ⟨#[b]⟩ := ⟨_, rfl⟩
          have hcat : ∀ w' : World, (Op.stringOp .add S ⟨#[b]⟩).run Try.prog w' = .ok (.string S') w' := fun w' => by
            rw [hS']
            refine run_string_add_sum w' _ _ ?_
            show S.size + 1 ≤ _
            have := HS.out.2
            omega
          have HE : Hid (S' = ⟨(byL cs (bs + a) (k + 1)).toArray⟩ ∧ Nz cs (bs + a) (k + 1)) := by
            refine ⟨?_, nz_snoc HZ.out (by rw [← HBT.out]; exact hb0)⟩
            rw [hS', HS.out.1, byL_snoc, ← HBT.out]
            apply ByteArray.ext
            apply Array.toList_inj.1
            simp
          clear hS' hb0
          go_wp2
          go_roundw
          case rel => exact ⟨k + 1, S', by omega, by go_num, rfl, HE.out.1, HE.out.2, HAL.out, hb7⟩
          case measure => simp [intOf]; omega
      · have hz1 : (g != 0) = true := by simp [hz]
        have HE : Hid (R = (⟨#[]⟩, (g, at_), 0)) := by
          have h := HF1.out k (by have := HNN.out; omega) HZ.out HA.out (by rw [← HG.out.2, ← HG.out.1]; exact hz)
          rw [← HG.out.2, ← HG.out.1] at h
          exact h
        clear hz HF1 HF2 HF3 K33 K41
        go_wp2_with fail
        refine R41.mono ?_
        rintro e w4 ⟨rfl, hb4⟩
        have hb5 := below_tr hbr hb4
        obtain ⟨⟨F0, F1⟩, u0, u1, u2⟩ := HFIN.out w4 (.int .i64 g) (.int .u64 (at_ : Int)) hb5
        have q0 := F0.cell
        have q1 := F1.cell
        have q2 := F0.frozen
        have q3 := F1.frozen
        have HU : Hid _ := u0
        have HU1 : Hid _ := u1
        have HU2 : Hid _ := u2
        clear F0 F1 u0 u1 u2
        go_wp2
        have u1 := HU1.out
        have u2 := HU2.out
        refine bodyPost_ret (v := .tuple #[.string ⟨#[]⟩, .agg #[.int .i64 g, .int .u64 (at_ : Int)], .int .i64 0]) ?_ rfl ⟨ret_text HE.out, HU.out⟩
        rw [results_tct rfl]; simp [go_sem, u1, u2]
    · have hkn : k = n1 + 1 := by omega
      have HE : Hid (R = (⟨#[]⟩, (0, 0), 36)) := by
        have hh := HNN.out
        refine HF3.out ?_ ?_
        · rw [hh, ← hkn]; exact HZ.out
        · rw [hh, ← hkn]; exact HA.out
      have hk2 : decide ((k : Int) ≤ (n1 : Int)) = false := by simp; omega
      have hk3 : (k ≤ n1) = False := by simp; omega
      clear hkn HF1 HF2 HF3 K33 K41
      obtain ⟨⟨F0, F1⟩, u0, u1, u2⟩ := HFIN.out wr (.int .i64 0) (.int .u64 0) hbr
      have q0 := F0.cell
      have q1 := F1.cell
      have q2 := F0.frozen
      have q3 := F1.frozen
      have HU : Hid _ := u0
      have HU1 : Hid _ := u1
      have HU2 : Hid _ := u2
      clear F0 F1 u0 u1 u2
      go_wp2
      have u1 := HU1.out
      have u2 := HU2.out
      refine bodyPost_ret (v := .tuple #[.string ⟨#[]⟩, .agg #[.int .i64 0, .int .u64 0], .int .i64 36]) ?_ rfl ⟨ret_text HE.out, HU.out⟩
      rw [results_tct rfl]; simp [go_sem, u1, u2]
end Go.Proofs.Ytdhjmghfiodifaa
