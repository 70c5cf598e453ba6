/- What is proved here: the program's Encode and Form. -/
import Derived.Test.YtglkkeelocdanaaDoorDd
import Derived.Test.YtglkkeelocdanaaDoorFn
namespace Go.Proofs.YtglkkeelocdanaaDoor
open Go.RowKit
set_option linter.unusedVariables false
set_option linter.unusedSimpArgs false
set_option maxRecDepth 100000
/-- Is a row of that name? -/
def nameB (n : ByteArray) (r : Rw) : Bool := r.name.toList == n.toList
theorem clo34 (r : Rw) (n : ByteArray) (pn : Addr) (w : World) (hc : w.cell? pn = some (.string n)) : Calls Tryd.prog 53 #[r.val, .pointer (some pn)] w fun e w' => e = .returned (.bool (nameB n r)) ∧ Below w.heap.size w w' := by
  obtain ⟨W, hW, hb, hz, c0, c1, c2, c3, _⟩ := box4 w (.string r.name) (.int .u32 (r.op : Int)) (.int .u32 (r.same : Int)) (.string r.form) 69
  have hc := keep_cell hb hc
  have HB : Hid (Below w.heap.size w W) := hb
  unfold nameB Rw.val
  clear hb hz
  go_enter Tryd.func53, Tryd.ntmps53
  go_wp2
  go_ret
  exact ⟨rfl, HB.out⟩
theorem box14 (w : World) (x a b c d : Value) (s t : Nat) : ∃ W, (w.alloc (.cells #[x] s)).alloc (.cells #[a, b, c, d] t) = W ∧ Below w.heap.size w W ∧ W.heap.size = w.heap.size + 2 ∧ W.cell? ⟨w.heap.size, 0, none⟩ = some x ∧
    Free W ⟨w.heap.size + 1, 0, none⟩ ∧ Free W ⟨w.heap.size + 1, 1, none⟩ ∧ Free W ⟨w.heap.size + 1, 2, none⟩ ∧ Free W ⟨w.heap.size + 1, 3, none⟩ := by
  have hz : w.heap.size + 1 = (w.alloc (.cells #[x] s)).heap.size := by simp
  refine ⟨_, rfl, ((Below.refl _ _).alloc (Nat.le_refl _) _).alloc (by simp) _, by simp, ?_, ⟨⟨a, ?_⟩, ?_⟩, ⟨⟨b, ?_⟩, ?_⟩, ⟨⟨c, ?_⟩, ?_⟩, ⟨⟨d, ?_⟩, ?_⟩⟩
  all_goals first | exact cell_old (cell_newA w _ _ _ _ _ rfl rfl) _ | exact cell_newA _ _ _ _ _ _ hz rfl | (rw [World.frozen?_alloc_at _ _ _ _ hz])
set_option maxHeartbeats 1000000 in
theorem named24 (n : ByteArray) (w : World) : Calls Tryd.prog 33 #[.string n] w fun e w' => e = .returned (.tuple #[(foundR (nameB n)).val, .bool (isFound (nameB n))]) ∧ Below w.heap.size w w' := by
  obtain ⟨W, hW, hb, hz, cn, f0, f1, f2, f3⟩ := box14 w (.string n) (.string ⟨#[]⟩) (.int .u32 0) (.int .u32 0) (.string ⟨#[]⟩) 9 69
  have K16 := found16_34 (nameB n) ⟨w.heap.size, 0, none⟩ W (fun r hr w' h => clo34 r n _ w' (keep_cell h cn))
  generalize foundR (nameB n) = R at K16 ⊢
  generalize isFound (nameB n) = fb at K16 ⊢
  obtain ⟨name, op, same, form⟩ := R
  unfold Rw.val at K16 ⊢
  simp only at K16 ⊢
  have HB : Hid (Below w.heap.size w W) := hb
  have HF : Hid (∀ w', Below W.heap.size W w' → Free w' ⟨w.heap.size + 1, 0, none⟩ ∧ Free w' ⟨w.heap.size + 1, 1, none⟩ ∧ Free w' ⟨w.heap.size + 1, 2, none⟩ ∧ Free w' ⟨w.heap.size + 1, 3, none⟩) := fun w' h => ⟨f0.keep h, f1.keep h, f2.keep h, f3.keep h⟩
  clear hb hz f0 f1 f2 f3
  go_enter Tryd.func33, Tryd.ntmps33
  go_wp2_with fail
  refine K16.mono ?_
  rintro e w3 ⟨rfl, hb3⟩
  obtain ⟨f0, f1, f2, f3⟩ := HF.out w3 hb3
  have q0 := f0.cell
  have q1 := f1.cell
  have q2 := f2.cell
  have q3 := f3.cell
  have z0 := f0.frozen
  have z1 := f1.frozen
  have z2 := f2.frozen
  have z3 := f3.frozen
  have hres := res4 w3 (w.heap.size + 1) (.string name) (.int .u32 (op : Int)) (.int .u32 (same : Int)) (.string form) f0 f1 f2 f3
  simp only at hres
  have HBE := below4 (n := w.heap.size + 1) (below_tr HB.out hb3) (by omega) (.string name) (.int .u32 (op : Int)) (.int .u32 (same : Int)) (.string form)
  obtain ⟨W9, hW9⟩ : ∃ z, (((w3.setCell ⟨w.heap.size + 1, 0, none⟩ (.string name)).setCell ⟨w.heap.size + 1, 1, none⟩ (.int .u32 (op : Int))).setCell ⟨w.heap.size + 1, 2, none⟩ (.int .u32 (same : Int))).setCell ⟨w.heap.size + 1, 3, none⟩ (.string form) = z := ⟨_, rfl⟩
  rw [hW9] at hres HBE
  have HBE : Hid _ := HBE
  obtain ⟨s0, s1, s2, s3⟩ := hres
  clear K16 hb3 f0 f1 f2 f3
  go_wp2
  refine bodyPost_ret (v := .tuple #[.agg #[.string name, .int .u32 (op : Int), .int .u32 (same : Int), .string form], .bool fb]) ?_ rfl ⟨rfl, HBE.out⟩
  rw [results_cell_tmp rfl]; simp [go_sem, s0, s1, s2, s3]
theorem form13 (n : ByteArray) (w : World) : Calls Tryd.prog 40 #[.string n] w fun e w' => e = .returned (.string (foundR (nameB n)).form) ∧ Below w.heap.size w w' := by
  have K24 := named24 n w
  generalize foundR (nameB n) = R at K24 ⊢
  generalize isFound (nameB n) = fb at K24
  obtain ⟨name, op, same, form⟩ := R
  unfold Rw.val at K24
  simp only at K24 ⊢
  go_enter Tryd.func40, Tryd.ntmps40
  go_wp2_with fail
  refine K24.mono ?_
  rintro e w3 ⟨rfl, hb3⟩
  obtain ⟨w4, hw4, hb4, hz4, k0, k1, k2, k3, _⟩ := box4 w3 (.string name) (.int .u32 (op : Int)) (.int .u32 (same : Int)) (.string form) 69
  have HB : Hid (Below w.heap.size w w4) := below_tr hb3 hb4
  clear hb3 hb4 hz4 K24
  go_wp2
  go_ret
  exact ⟨rfl, HB.out⟩
/-- The shape of an instruction's name. -/
def shOf (i : In) : Sh := (foundR (nameB i.name)).shape
def isIns (i : In) : Bool := isFound (nameB i.name) && belongB (shOf i) i (wordN (shOf i) i)
def encN (i : In) : Nat := if isIns i then wordN (shOf i) i else 0
theorem word_lt (s : Sh) (i : In) (hs : s.same < 4294967296) : wordN s i < 4294967296 := by
  have m : ∀ a : Nat, a % 4294967296 < 4294967296 := fun a => by omega
  have h0 := m (s.op * 67108864)
  have h1 := m (i.imm * 2 ^ tzN s.great)
  have h2 : (if isDsd s then shN i.rd 65536 else 0) < 4294967296 := by
    split
    · exact shN_lt _ _
    · omega
  have h3 := shN_lt i.rs 2097152
  have h4 := shN_lt i.rt 65536
  have h5 := shN_lt i.rd 2048
  have h6 := shN_lt i.sa 64
  rw [wordN, bareN]
  generalize s.op * 67108864 % 4294967296 = a0 at h0 ⊢
  generalize i.imm * 2 ^ tzN s.great % 4294967296 = a1 at h1 ⊢
  generalize (if isDsd s then shN i.rd 65536 else 0) = a2 at h2 ⊢
  exact or_lt _ _ (or_lt _ _ (or_lt _ _ (or_lt _ _ h0 hs) (or_lt _ _ (or_lt _ _ (or_lt _ _ h3 h4) h5) h6)) h2) h1
theorem enc_is (i : In) : isIns i = (isFound (nameB i.name) && belongB (foundR (nameB i.name)).shape i (wordN (foundR (nameB i.name)).shape i)) ∧ encN i = if isIns i then wordN (foundR (nameB i.name)).shape i else 0 := by
  refine ⟨by rw [isIns, shOf], by rw [encN, shOf]⟩
/-- A new variable of six cells. -/
theorem new6 (w : World) : ∃ W, w.alloc (.cells #[.string ⟨#[]⟩, .int .u32 0, .int .u32 0, .string ⟨#[]⟩, .int .u32 0, .int .u32 0] 75) = W ∧ Below w.heap.size w W ∧ F6 W w.heap.size := by
  refine ⟨_, rfl, (Below.refl _ _).alloc (Nat.le_refl _) _, ⟨⟨.string ⟨#[]⟩, ?_⟩, ?_⟩, ⟨⟨.int .u32 0, ?_⟩, ?_⟩, ⟨⟨.int .u32 0, ?_⟩, ?_⟩, ⟨⟨.string ⟨#[]⟩, ?_⟩, ?_⟩, ⟨⟨.int .u32 0, ?_⟩, ?_⟩, ⟨⟨.int .u32 0, ?_⟩, ?_⟩⟩
  all_goals first | exact cell_newA w _ _ _ _ _ rfl rfl | (rw [World.frozen?_alloc_at _ _ _ _ rfl])
set_option maxHeartbeats 1000000 in
theorem encode11 (i : In) (hi : i.imm < 4294967296) (w : World) (ht : Tab w) : Calls Tryd.prog 15 #[i.val] w fun e w' => e = .returned (.tuple #[.int .u32 (encN i : Int), .bool (isIns i)]) ∧ Below w.heap.size w w' := by
  obtain ⟨W, hW, hb, hz, d0, d1, d2, d3, d4, d5⟩ := box6 w (.string i.name) (.int .i64 i.rs) (.int .i64 i.rt) (.int .i64 i.rd) (.int .i64 i.sa) (.int .u32 (i.imm : Int)) 29
  have K24 := named24 i.name W
  have HT : Hid (∀ w', Below W.heap.size W w' → Tab w') := fun w' h => ht.keep (below_tr hb h)
  have hok := found_ok (nameB i.name)
  have HE : Hid (isIns i = (isFound (nameB i.name) && belongB (foundR (nameB i.name)).shape i (wordN (foundR (nameB i.name)).shape i)) ∧ encN i = if isIns i then wordN (foundR (nameB i.name)).shape i else 0) := enc_is i
  generalize encN i = E at HE ⊢
  generalize isIns i = ib at HE ⊢
  generalize isFound (nameB i.name) = fb at K24 HE
  generalize foundR (nameB i.name) = R at hok HE K24
  have hsa : R.shape.same < 4294967296 := by have := hok.same; show R.same < _; omega
  have hfw : R.shape.few < 4294967296 := by have := hok.few; omega
  have K18 : Hid (∀ w' bl, LetM w' bl → Calls Tryd.prog 35 #[.map (some bl), R.val] w' fun e w'' => e = .returned R.shape.val ∧ Below w'.heap.size w' w'') := fun w' bl h => shape18 _ bl w' hok.fm h
  have hgr := hok.great
  generalize R.shape = S at hsa hfw K18 HE hgr
  have hwl := word_lt S i hsa
  have K25 : Hid (∀ w', Below W.heap.size W w' → Calls Tryd.prog 36 #[S.val, i.val] w' fun e w'' => e = .returned (.int .u32 (wordN S i : Int)) ∧ Below w'.heap.size w' w'') := fun w' h => word25 _ i w' hi hsa hgr (HT.out w' h)
  generalize wordN S i = WN at hwl K25 HE
  have K19 : Hid (∀ w', Below W.heap.size W w' → Calls Tryd.prog 37 #[S.val, i.val, .int .u32 (WN : Int)] w' fun e w'' => e = .returned (.bool (belongB S i WN)) ∧ Below w'.heap.size w' w'') := fun w' h => belong19 _ i _ w' hwl hi hfw hsa hgr (HT.out w' h)
  generalize belongB S i WN = bb at HE K19
  have HB : Hid (Below w.heap.size w W) := hb
  clear hwl hfw hgr
  clear ht hi hok hsa hb hz
  obtain ⟨name, op, same, form⟩ := R
  obtain ⟨sn, so, ss, sf, sfw, sg⟩ := S
  obtain ⟨nm, rs, rt, rd, sa, imm⟩ := i
  simp only [Rw.val, In.val, Sh.val] at K18 K25 K19 K24 d0 d1 d2 d3 d4 d5 hW ⊢
  go_enter Tryd.func15, Tryd.ntmps15
  go_wp2_with fail
  refine K24.mono ?_
  rintro e w3 ⟨rfl, hb3⟩
  obtain ⟨w4, hw4, hb4, hz4, k0, k1, k2, k3, _⟩ := box4 w3 (.string name) (.int .u32 (op : Int)) (.int .u32 (same : Int)) (.string form) 69
  have HB4 : Hid (Below W.heap.size W w4) := below_tr hb3 hb4
  clear K24 hb3 hb4 hz4
  go_wp2
  refine wp_region_slots_last (R := Ext) [⟨14, fun v w' => ∃ bl, v = .map (some bl) ∧ LetM w' bl, fun v w' w'' hb ⟨bl, e, h⟩ => ⟨bl, e, h.keep hb⟩⟩, ⟨15, fun v _ => v = .agg #[.string name, .int .u32 (op : Int), .int .u32 (same : Int), .string form], fun _ _ _ _ h => h⟩, ⟨16, fun v _ => v = .agg #[.string sn, .int .u32 (so : Int), .int .u32 (ss : Int), .string sf, .int .u32 (sfw : Int), .int .u32 (sg : Int)], fun _ _ _ _ h => h⟩, ⟨6, fun v w' => ∃ b, v = .pointer (some ⟨b, 0, none⟩) ∧ F6 w' b ∧ w4.heap.size ≤ b, fun v w' w'' hb ⟨b, e, h, h'⟩ => ⟨b, e, h.keep hb, h'⟩⟩] _ 4 _ (by kernel_rfl) rfl (by kernel_rfl) rfl rfl rfl rfl (by kernel_rfl) (Below.drew (Below.refl _ _)) (fun _ _ _ h1 h2 => below_tr h1 h2) (fun QQ => ⟨?_, ?_, ?_, ?_, trivial⟩) (fun f wy hR hf A hA K hK => ?_)
  · intro A wx hR hout hdep K hK
    refine if_yes (by kernel_rfl) ?_
    simp [go_sem]
    refine (letters15 wx).mono ?_
    rintro e wG ⟨rfl, hbG, hlG⟩
    exact hK.out _ _ hbG ⟨_, rfl, hlG⟩
  · intro A wx hR hout hdep K hK
    have h4 : A.tmps[4]?.getD undef = .pointer (some ⟨w3.heap.size, 0, none⟩) := hout 4 (by kernel_rfl)
    refine if_yes (by kernel_rfl) ?_
    have k0 := keep_cell hR k0
    have k1 := keep_cell hR k1
    have k2 := keep_cell hR k2
    have k3 := keep_cell hR k3
    simp [go_sem, h4, k0, k1, k2, k3]
    exact hK.out _ _ (Below.refl _ _) rfl
  · intro A wx hR hout hdep K hK
    have h14 := hdep 14 (by kernel_rfl)
    have h15 : A.tmps[15]?.getD undef = .agg #[.string name, .int .u32 (op : Int), .int .u32 (same : Int), .string form] := hdep 15 (by kernel_rfl)
    refine if_yes (by kernel_rfl) ?_
    obtain ⟨bl, e14, hlm⟩ := h14
    simp [go_sem, e14, h15]
    refine (K18.out wx bl hlm).mono ?_
    rintro e wG ⟨rfl, hbG⟩
    exact hK.out _ _ hbG rfl
  · intro A wx hR hout hdep K hK
    refine if_yes (by kernel_rfl) ?_
    simp [go_sem]
    obtain ⟨wN, hwN, hbN, hF6⟩ := new6 wx
    rw [hwN]
    exact hK.out _ _ hbN ⟨_, rfl, hF6, hR.size⟩
  obtain ⟨b, hv6, hF6, hbl⟩ : ∃ b, f 6 = .pointer (some ⟨b, 0, none⟩) ∧ F6 wy b ∧ w4.heap.size ≤ b := hf 6 (by kernel_rfl)
  have hv16 : f 16 = .agg #[.string sn, .int .u32 (so : Int), .int .u32 (ss : Int), .string sf, .int .u32 (sfw : Int), .int .u32 (sg : Int)] := hf 16 (by kernel_rfl)
  simp only [putSl, List.take_succ_cons, List.take_zero, Act.put, List.setIfInBounds_toArray, List.set_cons_zero, List.set_cons_succ, hv6, hv16] at hA
  subst hA
  have q0 := hF6.1.cell
  have q1 := hF6.2.1.cell
  have q2 := hF6.2.2.1.cell
  have q3 := hF6.2.2.2.1.cell
  have q4 := hF6.2.2.2.2.1.cell
  have q5 := hF6.2.2.2.2.2.cell
  have z0 := hF6.1.frozen
  have z1 := hF6.2.1.frozen
  have z2 := hF6.2.2.1.frozen
  have z3 := hF6.2.2.2.1.frozen
  have z4 := hF6.2.2.2.2.1.frozen
  have z5 := hF6.2.2.2.2.2.frozen
  have hres := res6 wy b (.string sn) (.int .u32 (so : Int)) (.int .u32 (ss : Int)) (.string sf) (.int .u32 (sfw : Int)) (.int .u32 (sg : Int)) hF6
  simp only at hres
  have hb5 : Below w4.heap.size w4 _ := below6 (n := b) hR hbl (.string sn) (.int .u32 (so : Int)) (.int .u32 (ss : Int)) (.string sf) (.int .u32 (sfw : Int)) (.int .u32 (sg : Int))
  obtain ⟨w5, hw5⟩ : ∃ z, (((((wy.setCell ⟨b, 0, none⟩ (.string sn)).setCell ⟨b, 1, none⟩ (.int .u32 (so : Int))).setCell ⟨b, 2, none⟩ (.int .u32 (ss : Int))).setCell ⟨b, 3, none⟩ (.string sf)).setCell ⟨b, 4, none⟩ (.int .u32 (sfw : Int))).setCell ⟨b, 5, none⟩ (.int .u32 (sg : Int)) = z := ⟨_, rfl⟩
  rw [hw5] at hres hb5
  obtain ⟨s0, s1, s2, s3, s4, s5⟩ := hres
  simp [go_sem, q0, q1, q2, q3, q4, q5, z0, z1, z2, z3, z4, z5, hw5]
  refine hK.out _ _ ?_
  have HB5 : Hid (Below W.heap.size W w5) := below_tr HB4.out hb5
  have d0 := keep_cell HB5.out d0
  have d1 := keep_cell HB5.out d1
  have d2 := keep_cell HB5.out d2
  have d3 := keep_cell HB5.out d3
  have d4 := keep_cell HB5.out d4
  have d5 := keep_cell HB5.out d5
  have KW := K25.out w5 HB5.out
  clear hf hv6 hv16 hF6 q0 q1 q2 q3 q4 q5 z0 z1 z2 z3 z4 z5 hw5 hb5 hR hbl k0 k1 k2 k3 K18 hK K25
  go_wp2_with fail
  refine KW.mono ?_
  rintro e w6 ⟨rfl, hb6⟩
  have HB6 : Hid (Below W.heap.size W w6) := below_tr HB5.out hb6
  have d0 := keep_cell hb6 d0
  have d1 := keep_cell hb6 d1
  have d2 := keep_cell hb6 d2
  have d3 := keep_cell hb6 d3
  have d4 := keep_cell hb6 d4
  have d5 := keep_cell hb6 d5
  have s0 := keep_cell hb6 s0
  have s1 := keep_cell hb6 s1
  have s2 := keep_cell hb6 s2
  have s3 := keep_cell hb6 s3
  have s4 := keep_cell hb6 s4
  have s5 := keep_cell hb6 s5
  have KB := K19.out w6 HB6.out
  clear hb6 KW K19
  cases fb with
  | false =>
    have HEE : Hid (ib = false ∧ E = 0) := by
      obtain ⟨h1, h2⟩ := HE.out
      simp only [Bool.false_and] at h1
      subst h1
      exact ⟨rfl, by rw [h2]; rfl⟩
    have HBE : Hid (Below w.heap.size w w6) := below_tr HB.out HB6.out
    clear HE KB
    go_wp2
    go_ret2
    exact ⟨by rw [HEE.out.1, HEE.out.2]; rfl, HBE.out⟩
  | true =>
    go_wp2_with fail
    refine KB.mono ?_
    rintro e w7 ⟨rfl, hb7⟩
    have HBE : Hid (Below w.heap.size w w7) := below_tr HB.out (below_tr HB6.out hb7)
    cases bb with
    | false =>
      have HEE : Hid (ib = false ∧ E = 0) := by
        obtain ⟨h1, h2⟩ := HE.out
        simp only [Bool.true_and] at h1
        subst h1
        exact ⟨rfl, by rw [h2]; rfl⟩
      clear HE KB hb7
      go_wp2
      go_ret2
      exact ⟨by rw [HEE.out.1, HEE.out.2]; rfl, HBE.out⟩
    | true =>
      have HEE : Hid (ib = true ∧ E = WN) := by
        obtain ⟨h1, h2⟩ := HE.out
        simp only [Bool.true_and] at h1
        subst h1
        exact ⟨rfl, h2.trans (if_pos rfl)⟩
      clear HE KB hb7
      go_wp2
      go_ret2
      exact ⟨by rw [HEE.out.1, HEE.out.2]; rfl, HBE.out⟩
end Go.Proofs.YtglkkeelocdanaaDoor
