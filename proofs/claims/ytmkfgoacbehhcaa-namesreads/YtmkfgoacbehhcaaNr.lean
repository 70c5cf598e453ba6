/- What is proved here: where a name's symbol is: the program's Find. -/
import Derived.Test.YtmkfgoacbehhcaaNp
import Derived.Test.YtmkfgoacbehhcaaNo
import Derived.WalkMore
import Derived.WalkKit
namespace Go.Proofs.Ytmkfgoacbehhcaa
open Go.RowKit
set_option linter.unusedVariables false
set_option linter.unusedSimpArgs false
set_option maxRecDepth 100000
attribute [local go_sem] Oper.semAt_some
/-- What the iterator's function holds. -/
def Wy3 (b : Nat) (s : ByteArray) (nm cn : Nat) (w : World) : Prop := w.cell? ⟨b, 0, none⟩ = some (.string s) ∧ w.cell? ⟨b + 1, 0, none⟩ = some (.int .u32 (nm : Int)) ∧ w.cell? ⟨b + 2, 0, none⟩ = some (.int .i64 (cn : Int))
theorem Wy3.keep {b : Nat} {s : ByteArray} {nm cn : Nat} {w w' : World} (h : Wy3 b s nm cn w) (hb : Below w.heap.size w w') : Wy3 b s nm cn w' := ⟨keep_cell hb h.1, keep_cell hb h.2.1, keep_cell hb h.2.2⟩
theorem Wy3.new (s : ByteArray) (nm cn : Nat) (w : World) : Wy3 w.heap.size s nm cn (((w.alloc (.cells #[.string s] 9)).alloc (.cells #[.int .u32 (nm : Int)] 35)).alloc (.cells #[.int .i64 (cn : Int)] 3)) := by
  refine ⟨?_, ?_, ?_⟩
  · exact cell_old (cell_old (cell_newA w _ 9 _ 0 _ rfl rfl) _) _
  · exact cell_old (cell_newA _ _ 35 _ 0 _ (by simp) rfl) _
  · exact cell_newA _ _ 3 _ 0 _ (by simp) rfl
theorem KeepsOthers.of_below {W W' : World} (h : Below W.heap.size W W') : KeepsOthers W W' := ⟨h.size, fun k o hk _ => (h.block k (Array.getElem?_eq_some_iff.1 hk).1).trans hk⟩
def fdA (n : Nat) : Int := if n = 0 then 0 else (n : Int) - 1
theorem isIt_at (l : List Sy) (name : L8) (x : Nat) (h0 : 0 < x) (h : x - 1 < l.length) : isIt l name x = ((l[x - 1].name == name) && (l[x - 1].part != 0 && l[x - 1].bind != 0)) := by
  unfold isIt
  rw [List.getElem?_eq_getElem h]
theorem errN_is (T : Tb) : errN T = if readE T = true then 0 else 103 := rfl
set_option maxHeartbeats 8000000 in
theorem find11 (T : Tb) (name : L8) (hl1 : T.syms.length ≤ 1000000) (hl2 : T.strs.length ≤ 1000000) (hl3 : T.hash.length ≤ 1000000) (hl4 : name.length ≤ 1000000) (w : World) :
    Calls Try.prog 11 #[T.val, .string ⟨name.toArray⟩] w fun e w' => e = .returned (.tuple #[.int .i64 (fdA (findN T name)), .bool (decide (findN T name ≠ 0))]) ∧ Below w.heap.size w w' := by
  obtain ⟨W1, hW1, hb1, hz1, h31⟩ := box3 w T
  obtain ⟨NM, hNM⟩ : ∃ z : ByteArray, z = ⟨name.toArray⟩ := ⟨_, rfl⟩
  obtain ⟨W2, hW2⟩ : ∃ z, W1.alloc (.cells #[.string NM] 9) = z := ⟨_, rfl⟩
  have hb2 : Below W1.heap.size W1 W2 := by rw [← hW2]; exact (Below.refl _ _).alloc (Nat.le_refl _) _
  have hz2 : W2.heap.size = w.heap.size + 2 := by rw [← hW2]; simp; omega
  have n2 : W2.cell? ⟨W1.heap.size, 0, none⟩ = some (.string NM) := by rw [← hW2]; exact cell_newA W1 _ 9 _ 0 _ rfl rfl
  have K9 := read9 T hl1 hl2 W2
  have H2 : Hid (Below w.heap.size w W2 ∧ T3 T w.heap.size W2 ∧ W2.heap.size = w.heap.size + 2 ∧ W2.cell? ⟨W1.heap.size, 0, none⟩ = some (.string NM) ∧ W1.heap.size = w.heap.size + 1) := ⟨below_tr hb1 hb2, h31.keep hb2, hz2, n2, hz1⟩
  obtain ⟨u0, u1, u2⟩ := (h31.keep hb2).cells
  have HNM : Hid (NM.toList = name ∧ name.length ≤ 1000000 ∧ T.hash.length ≤ 1000000) := ⟨by rw [hNM]; exact bal _, hl4, hl3⟩
  rw [← hNM]
  obtain ⟨FN, hFN⟩ : ∃ z, z = findN T name := ⟨_, rfl⟩
  have HFN : Hid (FN = if readE T = true then findIn T.hash (readL T) name else 0) := hFN
  rw [← hFN]
  unfold Tb.val at K9 ⊢
  obtain ⟨HS, hHS⟩ : ∃ z : ByteArray, z = ⟨T.hash.toArray⟩ := ⟨_, rfl⟩
  have HHS : Hid (HS = ⟨T.hash.toArray⟩) := hHS
  rw [← hHS] at K9 u2 hW1 ⊢
  generalize (⟨T.syms.toArray⟩ : ByteArray) = SS at K9 u0 hW1 ⊢
  generalize (⟨T.strs.toArray⟩ : ByteArray) = QS at K9 u1 hW1 ⊢
  clear hb1 hz1 h31 hNM hb2 hz2 hl1 hl2 hl3 hl4 hHS hFN
  refine callsIn_wide.1 (callsIn_of_wp_marks (F := Fence.wide) (n := 3) Try.func11 rfl trivial ?_ rfl)
  simp only [Try.ntmps11, List.size_toArray, List.length_cons, List.length_nil, Nat.reduceAdd, Nat.reduceSub, Array.replicate_succ, Array.replicate_zero, List.push_toArray, List.append_toArray, List.nil_append, List.cons_append]
  refine wpIn_wide.2 ?_
  go_wp2
  go_step3
  go_wp2_with fail
  refine K9.mono ?_
  rintro e w3 ⟨⟨sv, rfl, hO⟩, hb3⟩
  clear K9 hW1 hW2 n2
  have h3z := hb3.size
  have u0 := keep_cell hb3 u0
  have u1 := keep_cell hb3 u1
  have u2 := keep_cell hb3 u2
  obtain ⟨sa, sc, rfl⟩ := hO.shape
  obtain ⟨W4, hW4⟩ : ∃ z, w3.alloc (.cells #[.slice sa (readL T).length sc] 26) = z := ⟨_, rfl⟩
  have hb4 : Below w3.heap.size w3 W4 := by rw [← hW4]; exact (Below.refl _ _).alloc (Nat.le_refl _) _
  have H4 : Hid (Below w.heap.size w W4 ∧ OwnY W2.heap.size W4 (.slice sa (readL T).length sc) (readL T) ∧ W4.cell? ⟨w3.heap.size, 0, none⟩ = some (.slice sa (readL T).length sc) ∧ W4.cell? ⟨W1.heap.size, 0, none⟩ = some (.string NM) ∧ W1.heap.size < w3.heap.size ∧ W4.heap.size = w3.heap.size + 1 ∧ W1.heap.size = w.heap.size + 1) := by
    refine ⟨H2.out.1.trans ((below_tr hb3 hb4).mono H2.out.1.size), hO.keep hb4, ?_, keep_cell (below_tr hb3 hb4) H2.out.2.2.2.1, ?_, ?_, H2.out.2.2.2.2⟩
    · rw [← hW4]; exact cell_newA w3 _ 26 _ 0 _ rfl rfl
    · have := H2.out.2.2.1; have := H2.out.2.2.2.2; omega
    · rw [← hW4]; simp
  have u0 := keep_cell hb4 u0
  have u1 := keep_cell hb4 u1
  have u2 := keep_cell hb4 u2
  clear hO hb3 hb4 h3z
  cases hre : readE T with
  | false =>
    have HE : Hid (FN = 0) := by show _ = _; rw [HFN.out, if_neg (by rw [hre]; decide)]
    rw [err_no hre]
    clear hre
    have hbw4 := H4.out.1
    clear u0 u1 u2
    go_wp2
    rw [Exit.noGoto_ret]
    refine ⟨.tuple #[.int .i64 0, .bool false], ?_, by rw [HE.out]; rfl, hbw4⟩
    rw [results_tmp2 rfl]; rfl
  | true =>
    have HL : Hid (FN = findIn T.hash (readL T) name ∧ (readL T).length ≤ 200) := by
      refine ⟨by rw [HFN.out, if_pos hre], ?_⟩
      rw [readL_yes hre, symsAt_len]
      have h1 : lenOk T = true := by
        cases h : lenOk T with
        | true => rfl
        | false => rw [read_no1 h] at hre; cases hre
      exact (len_parts h1).2
    rw [err_yes hre]
    clear hre
    obtain ⟨LS, hLS⟩ : ∃ z, z = readL T := ⟨_, rfl⟩
    rw [← hLS] at HL H4 hW4 ⊢
    obtain ⟨LN, hLN⟩ : ∃ z, z = LS.length := ⟨_, rfl⟩
    rw [← hLN] at HL H4 hW4 ⊢
    have HLN : Hid (LN = LS.length) := hLN
    obtain ⟨CN, hCN⟩ : ∃ z, z = LN + 1 := ⟨_, rfl⟩
    have HCN : Hid (CN = LN + 1) := hCN
    have eCN : (LN : Int) + 1 = (CN : Int) := by omega
    have eCN2 := wrapI_n CN (by have := HL.out.2; omega)
    have HEC : Hid (IntKind.i64.wrap (CN : Int) = (CN : Int)) := eCN2
    clear eCN2
    obtain ⟨W5, hW5⟩ : ∃ z, W4.alloc (.cells #[.int .i64 0] 3) = z := ⟨_, rfl⟩
    have hb5 : Below W4.heap.size W4 W5 := by rw [← hW5]; exact (Below.refl _ _).alloc (Nat.le_refl _) _
    have fz0 : W5.cell? ⟨W4.heap.size, 0, none⟩ = some (.int .i64 0) := by rw [← hW5]; exact cell_newA W4 _ 3 _ 0 _ rfl rfl
    have ff0 : W5.frozen? ⟨W4.heap.size, 0, none⟩ = false := by rw [← hW5, World.frozen?_alloc_at _ _ _ _ rfl]
    obtain ⟨W6, hW6⟩ : ∃ z, W5.setCell ⟨W4.heap.size, 0, none⟩ (.int .i64 0) = z := ⟨_, rfl⟩
    have g6 : W5.grownBy W6 (some W4.heap.size) := by rw [← hW6]; exact grown_setk _ _ _ _
    have s6 : W6.heap.size = W4.heap.size + 1 := by rw [← hW6, ← hW5]; simp
    have H5 : Hid (Below w.heap.size w W6 ∧ OwnY W2.heap.size W6 (.slice sa LN sc) LS ∧ W6.cell? ⟨w3.heap.size, 0, none⟩ = some (.slice sa LN sc) ∧ W6.cell? ⟨W1.heap.size, 0, none⟩ = some (.string NM) ∧ W1.heap.size < w3.heap.size ∧ w3.heap.size < W4.heap.size ∧ W6.cell? ⟨W4.heap.size, 0, none⟩ = some (.int .i64 0) ∧ W6.frozen? ⟨W4.heap.size, 0, none⟩ = false ∧ W1.heap.size = w.heap.size + 1 ∧ (Value.slice sa LN sc).ownBlock ≠ some W4.heap.size) := by
      obtain ⟨a1, a2, a3, a4, a5, a6, a7⟩ := H4.out
      have a2 : OwnY W2.heap.size W4 (.slice sa LN sc) LS := by rw [hLN, hLS]; rw [hLN, hLS] at a2; exact a2
      have k6 : ∀ {p : Addr} {v : Value}, p.block ≠ W4.heap.size → W5.cell? p = some v → W6.cell? p = some v := fun hp hv => by
        rw [← hW6, World.cell?_setCell_other _ _ _ _ (by intro e; exact hp (by rw [← e]))]; exact hv
      refine ⟨?_, ?_, k6 (by simp; omega) (keep_cell hb5 a3), k6 (by simp; omega) (keep_cell hb5 a4), a5, by omega, ?_, ?_, a7, ?_⟩
      · exact (a1.trans (hb5.mono a1.size)).grown g6 (by have := a1.size; have := hb5.size; omega) (fun r e => by injection e with e; have := a1.size; omega)
      · obtain ⟨h0, h1 | ⟨g, c, cur, h1, h2, h3, h4⟩⟩ := a2.keep hb5
        · exact ⟨h0, Or.inl h1⟩
        · refine ⟨h0, Or.inr ⟨g, c, cur, h1, h2, (g6.block g (Array.getElem?_eq_some_iff.1 h3).1 ?_).trans h3, h4⟩⟩
          intro e
          injection e with e
          have h5 := World.alloc_heap_new W4 (.cells #[.int .i64 0] 3)
          rw [hW5, ← e, h3] at h5
          injection h5 with h5
          injection h5 with _ h5
          cases h5
      · rw [← hW6]; exact World.cell?_setCell_same _ _ _ fz0
      · rw [← hW6, World.frozen?_setCell]; exact ff0
      · intro e
        obtain ⟨h0, h1 | ⟨g, c, cur, h1, h2, h3, h4⟩⟩ := a2.keep hb5
        · rw [h1.1] at e; cases e
        · rw [h1] at e
          have e : g = W4.heap.size := by simpa [Value.ownBlock] using e
          have h5 := World.alloc_heap_new W4 (.cells #[.int .i64 0] 3)
          rw [hW5, ← e, h3] at h5
          injection h5 with h5
          injection h5 with _ h5
          cases h5
    have HBF : Hid (W4.heap.size < W6.heap.size) := by show _ < _; omega
    have v0 : W6.cell? ⟨w.heap.size, 2, none⟩ = some (.string HS) := by
      rw [← hW6, World.cell?_setCell_other _ _ _ _ (by intro e; injection e with e; have := H4.out.2.2.2.2; omega)]
      exact keep_cell hb5 u2
    have K14 : Hid (∀ w', Calls Try.prog 14 #[.string NM] w' fun e w'' => e = .returned (.int .u32 (hashL name : Int)) ∧ w'' = w') := fun w' => by
      have := hash14 NM (by rw [← bt_len, HNM.out.1]; exact HNM.out.2.1) w'
      rw [HNM.out.1] at this
      exact this
    obtain ⟨H, hH⟩ : ∃ z, z = hashL name := ⟨_, rfl⟩
    rw [← hH] at K14
    have HHL : Hid (H = hashL name ∧ H < 4294967296) := ⟨hH, by rw [hH]; have := hashL_lt name; omega⟩
    clear hb5 hLS hLN hCN hH g6 s6
    go_wp2
    clear fz0 ff0 hW5 hW6 hW4 u0 u1 u2
    have u0 := v0
    have u1 := H5.out.2.2.2.1
    have u2 := H5.out.2.2.1
    generalize w3.heap.size = BL at H5 u2 ⊢
    generalize W4.heap.size = BF at H5 HBF ⊢
    generalize W1.heap.size = BN at H5 u1 ⊢
    go_step3
    go_wp2
    have eCN2 := HEC.out
    refine wp_region_slots (R := Ext) [⟨18, fun v _ => v = .pointer (some ⟨w.heap.size, 2, none⟩), fun _ _ _ _ h => h⟩, ⟨19, fun v _ => v = .string HS, fun _ _ _ _ h => h⟩, ⟨20, fun v _ => v = .string NM, fun _ _ _ _ h => h⟩, ⟨21, fun v _ => v = .int .u32 (H : Int), fun _ _ _ _ h => h⟩, ⟨22, fun v _ => v = .slice sa LN sc, fun _ _ _ _ h => h⟩, ⟨23, fun v _ => v = .int .i64 (LN : Int), fun _ _ _ _ h => h⟩, ⟨24, fun v _ => v = .int .i64 (CN : Int), fun _ _ _ _ h => h⟩, ⟨25, fun v W => ∃ b, v = .func (.func 38) #[] #[.pointer (some ⟨b, 0, none⟩), .pointer (some ⟨b + 1, 0, none⟩), .pointer (some ⟨b + 2, 0, none⟩)] ∧ Wy3 b HS H CN W ∧ BF < b, fun v A C hb h => by obtain ⟨b, h1, h2, h3⟩ := h; exact ⟨b, h1, h2.keep hb, h3⟩⟩] _ (by kernel_rfl) rfl (by kernel_rfl) (Below.drew (Below.refl _ _)) (fun _ _ _ h1 h2 => below_tr h1 h2) (fun QQ => ⟨?_, ?_, ?_, ?_, ?_, ?_, ?_, ?_, trivial⟩) (fun f wy hR hf => ?_)
    · intro A wx hR hout hdep K hK
      have h2 : A.tmps[2]?.getD undef = .pointer (some ⟨w.heap.size, 0, none⟩) := hout 2 (by kernel_rfl)
      refine if_yes (by kernel_rfl) ?_
      simp [go_sem, h2, eCN, eCN2]
      exact hK.out _ _ (Below.refl _ _) rfl
    · intro A wx hR hout hdep K hK
      have h18 : A.tmps[18]?.getD undef = .pointer (some ⟨w.heap.size, 2, none⟩) := hdep 18 (by kernel_rfl)
      refine if_yes (by kernel_rfl) ?_
      have u0 := keep_cell hR u0
      have u1 := keep_cell hR u1
      have u2 := keep_cell hR u2
      simp [go_sem, h18, u0, u1, u2, eCN, eCN2]
      exact hK.out _ _ (Below.refl _ _) rfl
    · intro A wx hR hout hdep K hK
      have h3 : A.tmps[3]?.getD undef = .pointer (some ⟨BN, 0, none⟩) := hout 3 (by kernel_rfl)
      refine if_yes (by kernel_rfl) ?_
      have u0 := keep_cell hR u0
      have u1 := keep_cell hR u1
      have u2 := keep_cell hR u2
      simp [go_sem, h3, u0, u1, u2, eCN, eCN2]
      exact hK.out _ _ (Below.refl _ _) rfl
    · intro A wx hR hout hdep K hK
      have h20 : A.tmps[20]?.getD undef = .string NM := hdep 20 (by kernel_rfl)
      refine if_yes (by kernel_rfl) ?_
      simp [go_sem, h20, eCN, eCN2]
      refine (K14.out wx).mono ?_
      rintro e wG ⟨rfl, rfl⟩
      exact hK.out _ _ (Below.refl _ _) rfl
    · intro A wx hR hout hdep K hK
      have h6 : A.tmps[6]?.getD undef = .pointer (some ⟨BL, 0, none⟩) := hout 6 (by kernel_rfl)
      refine if_yes (by kernel_rfl) ?_
      have u0 := keep_cell hR u0
      have u1 := keep_cell hR u1
      have u2 := keep_cell hR u2
      simp [go_sem, h6, u0, u1, u2, eCN, eCN2]
      exact hK.out _ _ (Below.refl _ _) rfl
    · intro A wx hR hout hdep K hK
      have h22 : A.tmps[22]?.getD undef = .slice sa LN sc := hdep 22 (by kernel_rfl)
      refine if_yes (by kernel_rfl) ?_
      simp [go_sem, h22, eCN, eCN2]
      exact hK.out _ _ (Below.refl _ _) rfl
    · intro A wx hR hout hdep K hK
      have h23 : A.tmps[23]?.getD undef = .int .i64 (LN : Int) := hdep 23 (by kernel_rfl)
      refine if_yes (by kernel_rfl) ?_
      simp [go_sem, h23, eCN, eCN2]
      exact hK.out _ _ (Below.refl _ _) rfl
    · intro A wx hR hout hdep K hK
      have h19 : A.tmps[19]?.getD undef = .string HS := hdep 19 (by kernel_rfl)
      have h21 : A.tmps[21]?.getD undef = .int .u32 (H : Int) := hdep 21 (by kernel_rfl)
      have h24 : A.tmps[24]?.getD undef = .int .i64 (CN : Int) := hdep 24 (by kernel_rfl)
      refine if_yes (by kernel_rfl) ?_
      simp [go_sem, h19, h21, h24, eCN, eCN2]
      refine (way25 HS H (CN : Int) wx).mono ?_
      rintro e wG ⟨rfl, rfl⟩
      exact hK.out _ _ (((Below.refl _ _).alloc (Nat.le_refl _) _).alloc (by simp) _ |>.alloc (by simp; omega) _) ⟨_, rfl, Wy3.new _ _ _ _, Nat.lt_of_lt_of_le HBF.out hR.size⟩
    have h18 : f 18 = .pointer (some ⟨w.heap.size, 2, none⟩) := hf 18 (by kernel_rfl)
    have h19 : f 19 = .string HS := hf 19 (by kernel_rfl)
    have h20 : f 20 = .string NM := hf 20 (by kernel_rfl)
    have h21 : f 21 = .int .u32 (H : Int) := hf 21 (by kernel_rfl)
    have h22 : f 22 = .slice sa LN sc := hf 22 (by kernel_rfl)
    have h23 : f 23 = .int .i64 (LN : Int) := hf 23 (by kernel_rfl)
    have h24 : f 24 = .int .i64 (CN : Int) := hf 24 (by kernel_rfl)
    obtain ⟨bw, h25, hw3, hbw⟩ : ∃ b, f 25 = .func (.func 38) #[] #[.pointer (some ⟨b, 0, none⟩), .pointer (some ⟨b + 1, 0, none⟩), .pointer (some ⟨b + 2, 0, none⟩)] ∧ Wy3 b HS H CN wy ∧ BF < b := hf 25 (by kernel_rfl)
    simp only [putSl, Act.put, List.setIfInBounds_toArray, List.set_cons_zero, List.set_cons_succ, h18, h19, h20, h21, h22, h23, h24, h25]
    have H7 : Hid (Below w.heap.size w wy ∧ OwnY W2.heap.size wy (.slice sa LN sc) LS ∧ wy.cell? ⟨BL, 0, none⟩ = some (.slice sa LN sc) ∧ wy.cell? ⟨BN, 0, none⟩ = some (.string NM) ∧ BN < BL ∧ BL < BF ∧ wy.cell? ⟨BF, 0, none⟩ = some (.int .i64 0) ∧ wy.frozen? ⟨BF, 0, none⟩ = false ∧ BN = w.heap.size + 1 ∧ (Value.slice sa LN sc).ownBlock ≠ some BF ∧ BF < wy.heap.size) := by
      obtain ⟨a1, a2, a3, a4, a5, a6, a7, a8, a9, a10⟩ := H5.out
      refine ⟨a1.trans (hR.mono a1.size), a2.keep hR, keep_cell hR a3, keep_cell hR a4, a5, a6, keep_cell hR a7, keep_frozen hR HBF.out a8, a9, a10, ?_⟩
      have := HBF.out
      have := hR.size
      omega
    obtain ⟨n0, hn0⟩ : ∃ z, z = wy.heap.size := ⟨_, rfl⟩
    have hbw2 : bw + 2 < n0 := by rw [hn0]; exact World.block_lt_of_cell? _ _ hw3.2.2
    have hseq := way_next (3 - 1) (by omega) bw BF n0 T.hash HNM.out.2.2 H CN HHL.out.2 (by have := HCN.out; have := HL.out.2; omega) hbw2 hbw wy (Nat.le_of_eq hn0) (by rw [← HHS.out]; exact hw3.1) hw3.2.1 hw3.2.2
    clear hf h18 h19 h20 h21 h22 h23 h24 h25 hR u0 u1 u2 v0 H5 HBF K14 eCN2
    go_wp2
    obtain ⟨V, hV⟩ : ∃ z, z = wayL T.hash H CN := ⟨_, rfl⟩
    rw [← hV] at hseq
    have HV : Hid (V = wayL T.hash (hashL name) (LS.length + 1) ∧ ∀ x ∈ V, 0 < x ∧ x < CN) := ⟨by rw [hV, HHL.out.1, HCN.out, HLN.out], by rw [hV]; exact way_lt _ _ _⟩
    have HN0 : Hid (n0 = wy.heap.size ∧ BF < n0 ∧ bw + 2 < n0) := ⟨hn0, by rw [hn0]; exact H7.out.2.2.2.2.2.2.2.2.2.2, hbw2⟩
    refine wpIn_wide.1 (wpIn_range_next (n := 3) (by omega) (gf := 38) rfl (enters_of Try.func38 (by kernel_rfl) rfl)
      hseq (fun {A B C} k1 k2 => k1.trans k2) (fun W l o o' hl h1 h2 h3 => butK_b (by rw [HN0.out.1]; exact Nat.le_refl _) W l o o' hl h1 h2 h3) (Below.refl _ _) (fun _ => rfl)
      (fun pre Wx => But n0 BF wy Wx ∧ Wx.cell? ⟨BF, 0, none⟩ = some (.int .i64 0) ∧ Wx.frozen? ⟨BF, 0, none⟩ = false ∧ ∀ y ∈ pre, isIt LS name y = false)
      (fun c pre Wx => c = .exit 0 ∧ ∃ init x, (∃ suf, init ++ x :: suf = V) ∧ (∀ y ∈ init, isIt LS name y = false) ∧ isIt LS name x = true ∧ But n0 BF wy Wx ∧ Wx.cell? ⟨BF, 0, none⟩ = some (.int .i64 (x : Int)))
      (fun pre A C row hh hgr hrr => ⟨hh.1.row hgr (by have := hh.1.size; rw [HN0.out.1]; exact this) (fun r e => by rw [HN0.out.1]; exact (hrr r e).1), hgr.cell hh.2.1 (fun e => by have := (hrr _ e.symm).1; have := HN0.out; simp at *; omega), (World.frozen?_of_block (hgr.block BF (by have := hh.1.size; have := HN0.out; omega) (fun e => by have := (hrr _ e.symm).1; have := HN0.out; omega))).trans hh.2.2.1, hh.2.2.2⟩)
      (fun c pre A C row hh hgr hrr => ?hIx)
      ⟨But.refl _ _ _, H7.out.2.2.2.2.2.2.1, H7.out.2.2.2.2.2.2.2.1, by simp⟩
      (fun x a' Wx => a' = { tmps := #[.agg #[.string SS, .string QS, .string HS], .string NM, .pointer (some ⟨w.heap.size, 0, none⟩), .pointer (some ⟨BN, 0, none⟩), .int .i64 0, .bool false, .pointer (some ⟨BL, 0, none⟩), .int .i64 0, .pointer (some ⟨BF, 0, none⟩), .int .i64 (x : Int), undef, .tuple #[.slice sa LN sc, .int .i64 0], .agg #[.string SS, .string QS, .string HS], .tuple #[.slice sa LN sc, .int .i64 0], .slice sa LN sc, .int .i64 0, .int .i64 0, .bool false, .pointer (some ⟨w.heap.size, 2, none⟩), .string HS, .string NM, .int .u32 (H : Int), .slice sa LN sc, .int .i64 (LN : Int), .int .i64 (CN : Int), .func (.func 38) #[] #[.pointer (some ⟨bw, 0, none⟩), .pointer (some ⟨bw + 1, 0, none⟩), .pointer (some ⟨bw + 2, 0, none⟩)], .int .i64 (x : Int), undef, undef, undef, undef, undef, undef, undef, undef, undef, undef, undef, undef, undef, undef, undef, undef, undef, undef, undef, undef, undef, undef, undef, undef], defers := [] })
      (fun x a' s A C row hh hgr hrr => hh) ?assign ?body ?done ?stop)
    case hIx =>
      obtain ⟨e1, init, x, e2, e3, e4, e5, e6⟩ := hh
      exact ⟨e1, init, x, e2, e3, e4, e5.row hgr (by have := e5.size; rw [HN0.out.1]; exact this) (fun r e => by rw [HN0.out.1]; exact (hrr r e).1), hgr.cell e6 (fun e => by have := (hrr _ e.symm).1; have := HN0.out; simp at *; omega)⟩
    case assign =>
      intro l pre x Wx K hnx hi hK
      simp only [encW]
      gi_wp2
      exact hK _ _ ((KeepsOthers.of_below (Below.refl _ _)).from _) (But.refl _ _ _) hi rfl
    case body =>
      rintro l pre x a' Wx ⟨suf, hpre⟩ ⟨i1, i2, i3, i4⟩ rfl
      have hx := HV.out.2 x (by rw [← hpre]; simp)
      obtain ⟨j, hj⟩ : ∃ j, x = j + 1 := ⟨x - 1, by omega⟩
      have hjl : j < LS.length := by have := HCN.out; have := HLN.out; omega
      have hWx := i1.size
      have hN := HN0.out
      obtain ⟨a1, a2, a3, a4, a5, a6, a7, a8, a9, a10, a11⟩ := H7.out
      have hOx : OwnY W2.heap.size Wx (.slice sa LN sc) LS := by
        obtain ⟨h0, h1 | ⟨g, c, cur, h1, h2, h3, h4⟩⟩ := a2
        · exact ⟨h0, Or.inl h1⟩
        · exact ⟨h0, Or.inr ⟨g, c, cur, h1, h2, (i1.block g (by have := (Array.getElem?_eq_some_iff.1 h3).1; omega) (fun e => a10 (by rw [h1, e]; rfl))).trans h3, h4⟩⟩
      obtain ⟨ao', cap', he, _, _, _, h4⟩ := hOx.sl
      injection he with he1 he2 he3
      obtain ⟨bb, oo, hbo, h5⟩ := h4 j hjl
      rw [← he1] at hbo
      obtain ⟨g, hg⟩ : ∃ g, g = LS[j] := ⟨_, rfl⟩
      rw [← hg] at h5
      have l0 := i1.cell (p := ⟨BL, 0, none⟩) (by simp; omega) (by simp; omega) a3
      have m0 := i1.cell (p := ⟨BN, 0, none⟩) (by simp; omega) (by simp; omega) a4
      have hit := isIt_at LS name x (by omega) (by omega)
      have hjx : LS[x - 1]'(by omega) = g := by rw [hg]; congr 1; omega
      rw [hjx] at hit
      have exj : (x : Int) - 1 = (j : Int) := by omega
      have hjN : j < LN := by have := HLN.out; omega
      have hjNi : (j : Int) < (LN : Int) := by omega
      obtain ⟨W7, hW7, hb7, hz7, q0, q1, q2, q3, q4⟩ := box5 Wx g
      obtain ⟨W8, hW8⟩ : ∃ z, W7.setCell ⟨BF, 0, none⟩ (.int .i64 (x : Int)) = z := ⟨_, rfl⟩
      have k0 := keep_cell hb7 i2
      have k1 := keep_frozen hb7 (show BF < Wx.heap.size by omega) i3
      have m1 := keep_cell hb7 m0
      have b7 : But n0 BF Wx W7 := ⟨hb7.os, hb7.tape, hb7.output, hb7.size, fun k hk _ => hb7.block k (by omega)⟩
      have HGO : Hid (isIt LS name x = false → KeepsFrom wy.heap.size Wx W7 ∧ But n0 BF Wx W7 ∧ (But n0 BF wy W7 ∧ W7.cell? ⟨BF, 0, none⟩ = some (.int .i64 0) ∧ W7.frozen? ⟨BF, 0, none⟩ = false ∧ ∀ y ∈ pre ++ [x], isIt LS name y = false)) := fun h =>
        ⟨(KeepsOthers.of_below hb7).from _, b7, i1.trans b7, k0, k1, fun y hy => by
          rcases List.mem_append.1 hy with h' | h'
          · exact i4 y h'
          · rw [List.mem_singleton.1 h']; exact h⟩
      have HST : Hid (isIt LS name x = true → KeepsFrom wy.heap.size Wx W8 ∧ ∃ init x', (∃ suf, init ++ x' :: suf = V) ∧ (∀ y ∈ init, isIt LS name y = false) ∧ isIt LS name x' = true ∧ But n0 BF wy W8 ∧ W8.cell? ⟨BF, 0, none⟩ = some (.int .i64 (x' : Int))) := fun h => by
        refine ⟨?_, pre, x, ⟨suf, hpre⟩, i4, h, ?_, ?_⟩
        · rw [← hW8]; exact ((KeepsOthers.of_below hb7).trans (KeepsOthers.setCell _ _ _)).from _
        · exact i1.trans (b7.trans (But.grown (by rw [← hW8]; exact grown_setk _ _ _ _) (by omega)))
        · rw [← hW8]; exact World.cell?_setCell_same _ _ _ k0
      obtain ⟨r0, r1, r2, r3, r4⟩ := h5
      have hq : ((⟨g.name.toArray⟩ : ByteArray).toList == NM.toList) = (g.name == name) := by rw [bal, HNM.out.1]
      obtain ⟨GN, hGN⟩ : ∃ z : ByteArray, z = ⟨g.name.toArray⟩ := ⟨_, rfl⟩
      rw [← hGN] at hq hW7 q0 r0
      obtain ⟨GP, hGP⟩ : ∃ z, z = g.part := ⟨_, rfl⟩
      obtain ⟨GB, hGB⟩ : ∃ z, z = g.bind := ⟨_, rfl⟩
      rw [← hGP, ← hGB] at hit hW7
      rw [← hGB] at q3 r3
      rw [← hGP] at q4 r4
      subst hbo
      clear hpre hx hj i1 i2 i3 i4 hWx a1 a2 a3 a4 a5 a6 a7 a8 a9 a10 a11 hOx h4 he1 he2 he3 hg hjx b7 hb7 hz7 hGN hGP hGB hseq hN
      cases hnm : (g.name == name) with
      | false =>
        rw [hnm] at hq hit
        have hq2 : (GN.toList != NM.toList) = true := by rw [bne, hq]; rfl
        have HH : Hid (isIt LS name x = false) := by rw [Hid, hit]; rfl
        clear hnm hit
        gi_wp2
        exact HGO.out HH.out
      | true =>
        rw [hnm] at hq hit
        have hq2 : (GN.toList != NM.toList) = false := by rw [bne, hq]; rfl
        by_cases hp : GP = 0
        · have HH : Hid (isIt LS name x = false) := by rw [Hid, hit, hp]; rfl
          have hpb : (GP == 0) = true := by simpa using hp
          have hpn : (GP != 0) = false := by simpa using hp
          clear hnm hit hp
          gi_wp2
          exact HGO.out HH.out
        · have hpb : (GP == 0) = false := by simpa using hp
          have hpn : (GP != 0) = true := by simpa using hp
          by_cases hbd : GB = 0
          · have HH : Hid (isIt LS name x = false) := by rw [Hid, hit, hpn, hbd]; rfl
            have hbb : (GB == 0) = true := by simpa using hbd
            have hbn : (GB != 0) = false := by simpa using hbd
            clear hnm hit hp hbd
            gi_wp2
            exact HGO.out HH.out
          · have hbb : (GB == 0) = false := by simpa using hbd
            have hbn : (GB != 0) = true := by simpa using hbd
            have HH : Hid (isIt LS name x = true) := by rw [Hid, hit, hpn, hbn]; rfl
            clear hnm hit hp hbd
            gi_wp2
            exact ⟨(HST.out HH.out).1, rfl, (HST.out HH.out).2⟩
    case done =>
      rintro D ys Wx hD rfl ⟨i1, i2, i3, i4⟩ hKD
      have HF0 : Hid (FN = 0) := by
        show _ = _
        rw [HL.out.1, findIn_is, ← HV.out.1, List.find?_eq_none.2 (fun y hy => by rw [i4 y hy]; decide)]
        rfl
      have HBX : Hid (Below w.heap.size w (Wx.putObj D (.deferred none))) := by
        have h1 := H7.out.1
        have hN := HN0.out
        have h2 : Below w.heap.size w Wx := h1.trans ⟨i1.os, i1.tape, i1.output, i1.size, fun k hk => i1.block k (by have := h1.size; omega) (by have := H7.out; omega)⟩
        exact h2.grown (grownBy_putObj' Wx D _) h2.size (fun r e => by cases e; have := h1.size; omega)
      have HKD : Hid (Wx.heap[D]? = some (.deferred (some []))) := hKD
      clear hKD i1 i3 i4 hseq
      go_wp2
      rw [Exit.noGoto_ret]
      refine ⟨by simp, .inl ⟨_, _, rfl, run_takeDeferred HKD.out, ?_⟩⟩
      refine ⟨.tuple #[.int .i64 0, .bool false], ?_, by rw [HF0.out]; rfl, HBX.out⟩
      rw [results_tmp2 rfl]; rfl
    case stop =>
      rintro D c pre Wx hD _ ⟨rfl, init, x, ⟨suf, hpx⟩, hcl, hit, i1, i2⟩ hKD
      have hx := HV.out.2 x (by rw [← hpx]; simp)
      have hxl : x ≤ 201 := by have := HCN.out; have := HL.out.2; omega
      have HF0 : Hid (FN = x) := by
        show _ = _
        have hn : init.find? (isIt LS name) = none := List.find?_eq_none.2 (fun y hy => by rw [hcl y hy]; decide)
        rw [HL.out.1, findIn_is, ← HV.out.1, ← hpx, List.find?_append, hn, List.find?_cons, hit]
        rfl
      have HFA : Hid ((fdA FN = (x : Int) - 1) ∧ decide (FN ≠ 0) = true) := by
        rw [HF0.out]
        refine ⟨if_neg (by omega), by simp; omega⟩
      have HBX : Hid (Below w.heap.size w (Wx.putObj D (.deferred none))) := by
        have h1 := H7.out.1
        have hN := HN0.out
        have h2 : Below w.heap.size w Wx := h1.trans ⟨i1.os, i1.tape, i1.output, i1.size, fun k hk => i1.block k (by have := h1.size; omega) (by have := H7.out; omega)⟩
        exact h2.grown (grownBy_putObj' Wx D _) h2.size (fun r e => by cases e; have := h1.size; omega)
      have HKD : Hid (Wx.heap[D]? = some (.deferred (some []))) := hKD
      obtain ⟨j, hj⟩ : ∃ j, x = j + 1 := ⟨x - 1, by omega⟩
      have exj : (x : Int) - 1 = (j : Int) := by omega
      rw [exj] at HFA
      have ewj := wrap64_nat j (by omega)
      have ewi := wrapI_n j (by omega)
      clear hKD i1 hseq hx hxl hpx hcl hit hj HF0
      refine wpIn_wide.2 ?_
      go_wp2
      rw [Exit.noGoto_ret]
      refine ⟨by simp, .inl ⟨_, _, rfl, run_takeDeferred HKD.out, ?_⟩⟩
      refine ⟨.tuple #[.int .i64 (j : Int), .bool true], ?_, by rw [HFA.out.1, HFA.out.2], HBX.out⟩
      rw [results_tmp2 rfl]; rfl
end Go.Proofs.Ytmkfgoacbehhcaa
