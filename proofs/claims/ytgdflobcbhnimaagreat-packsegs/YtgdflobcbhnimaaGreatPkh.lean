/- What is proved here: numbers as bytes, the highest first. -/
import Derived.Test.YtgdflobcbhnimaaGreatPkb
import Derived.Test.YtgdflobcbhnimaaGreatNg
import Derived.Test.YtgdflobcbhnimaaGreatBd
import Derived.Test.YtgdflobcbhnimaaGreatNl
import Derived.Test.YtgdflobcbhnimaaGreatPkd
import Derived.Test.YtgdflobcbhnimaaGreatEach
namespace Go.Proofs.YtgdflobcbhnimaaGreat
open Go.RowKit 
set_option linter.unusedVariables false
set_option linter.unusedSimpArgs false
set_option maxRecDepth 100000
set_option maxHeartbeats 1000000 in
theorem words92 (xs : List Nat) (hx : xs.length ≤ 1000) (v : Value) (w : World) (hb : ∀ x ∈ xs, x < 4294967296) (hs : SlN w v xs) :
    Calls Tryz.prog 92 #[v] w fun e w' => e = .returned (.string ⟨(wds xs).toArray⟩) ∧ Below w.heap.size w w' := by
  obtain ⟨ao, cap, rfl, s1, s2, s3, s4⟩ := hs
  have HS : Hid (∀ i (h : i < xs.length), ∃ b o, ao = some ⟨b, o, none⟩ ∧ w.cell? ⟨b, o + i, none⟩ = some (.int .u32 (xs[i] : Int))) := s4
  have HP : Hid (∀ (x : Nat) w', Calls Tryz.prog 116 #[.int .u64 (x : Int), .int .i64 4] w' fun e w'' => e = .returned (.string ⟨(bN 4 x).toArray⟩) ∧ Below w'.heap.size w' w'') := fun x w' => put48 x 4 (by decide) w'
  have HBD : Hid (∀ x ∈ xs, x < 4294967296) := hb
  clear s4 hb
  unfold wds
  obtain ⟨W0, hW0⟩ : ∃ W0, w.alloc (.cells #[.pointer none, .slice none 0 0] 63) = W0 := ⟨_, rfl⟩
  have HI : Hid (IsB w.heap.size w.heap.size [] W0 ∧ Below w.heap.size w W0 ∧ w.heap.size ≤ W0.heap.size) := by
    refine ⟨?_, ?_, ?_⟩
    · rw [← hW0]
      exact Or.inl ⟨Nat.le_refl _, _, World.alloc_heap_new w _, ⟨rfl, Or.inl ⟨rfl, rfl⟩⟩, by simp [Value.ownBlock]⟩
    · rw [← hW0]; exact (Below.refl _ _).alloc (Nat.le_refl _) _
    · rw [← hW0]; simp
  go_enter Tryz.func92, Tryz.ntmps92
  go_wp2
  go_loopw [8] (fun x wr => ∃ k : Nat, x = .int .i64 (k : Int) ∧ k ≤ xs.length ∧ IsB w.heap.size w.heap.size ((xs.take k).flatMap (bN 4)) wr ∧ Below w.heap.size w wr) (fun x _ => xs.length - (intOf x).toNat)
  case atStart => exact ⟨0, rfl, Nat.zero_le _, HI.out.1, HI.out.2.1⟩
  case round =>
    obtain ⟨k, rfl, hk, hI, hbr⟩ := hrel
    by_cases hlt : k < xs.length
    · obtain ⟨b, o, hao, c0⟩ := HS.out k hlt
      have c0 := keep_cell hbr c0
      obtain ⟨x, hxx⟩ : ∃ x, x = xs[k] := ⟨_, rfl⟩
      have HT : Hid ((xs.take (k + 1)).flatMap (bN 4) = (xs.take k).flatMap (bN 4) ++ bN 4 x) := by
        show _ = _
        rw [List.take_succ_eq_append_getElem hlt, List.flatMap_append, hxx]
        simp
      have hm := HBD.out x (by rw [hxx]; exact List.getElem_mem hlt)
      have hw : (x : Int) % 18446744073709551616 = (x : Int) := by omega
      rw [← hxx] at c0
      have HII : Hid (IsB w.heap.size w.heap.size ((xs.take k).flatMap (bN 4)) wr) := hI
      have hxi : (x : Int) < 4294967296 := by omega
      have hki : (k : Int) < (xs.length : Int) := by omega
      subst hao
      clear hxx hm hI
      go_wp2_with fail
      refine (HP.out x wr).mono ?_
      rintro e w1 ⟨rfl, hb1⟩
      clear c0 hw hxi hki
      have hszw : w.heap.size ≤ wr.heap.size := hbr.size
      have hI1 := isB_keep HII.out hb1
      have KW := write41 w.heap.size w.heap.size ((xs.take k).flatMap (bN 4)) ⟨(bN 4 x).toArray⟩ w1 hI1 (by
        have h0 := wds_len (xs.take k)
        unfold wds at h0
        rw [h0]
        have h1 : (⟨(bN 4 x).toArray⟩ : ByteArray).size = 4 := by show (bN 4 x).toArray.size = 4; simp [bN_len]
        have h2 : (xs.take k).length ≤ 1000 := by simp; omega
        rw [h1]; omega) (Nat.le_trans hszw hb1.size)
      rw [bal, ← HT.out] at KW
      clear hI1
      go_wp2_with fail
      refine KW.mono ?_
      rintro e w2 ⟨rfl, hI2, hb2⟩
      clear KW
      have HE : Hid (IsB w.heap.size w.heap.size ((xs.take (k + 1)).flatMap (bN 4)) w2 ∧ Below w.heap.size w w2) := ⟨hI2, (hbr.trans (hb1.mono hszw)).trans hb2⟩
      clear hI2 hb2 hb1 hbr
      go_wp2
      go_roundw
      case rel => exact ⟨k + 1, by go_num, by omega, HE.out.1, HE.out.2⟩
      case measure => simp [intOf]; omega
    · have KS := string43 w.heap.size w.heap.size _ wr hI hbr.size
      rw [List.take_of_length_le (by omega)] at KS
      have hki : ¬ (k : Int) < (xs.length : Int) := by omega
      go_wp2_with fail
      refine KS.mono ?_
      rintro e w1 ⟨rfl, hb1⟩
      go_wp2
      go_ret
      exact ⟨rfl, hbr.trans hb1⟩
theorem SlN.new (w : World) (xs : List Nat) (cs : Array Value) (hc : cs = (xs.map fun (x : Nat) => Value.int .u32 (x : Int)).toArray) (n : Nat) (hn : n = xs.length) (hx : xs.length ≤ 1000) : SlN (w.alloc (.cells cs 22)) (.slice (some ⟨w.heap.size, 0, none⟩) n n) xs := by
  subst hc hn
  refine ⟨_, _, rfl, Nat.le_refl _, by omega, (by intro h; cases h), fun i hi => ⟨w.heap.size, 0, rfl, ?_⟩⟩
  exact cell_newA _ _ _ _ _ _ rfl (by simp [hi])
end Go.Proofs.YtgdflobcbhnimaaGreat
namespace Go.Proofs.YtgdflobcbhnimaaGreat
open Go.RowKit 
set_option linter.unusedVariables false
set_option linter.unusedSimpArgs false
set_option maxRecDepth 100000
theorem wrap64_nat (n : Nat) (h : n < 4294967296) : wrap64 (n : Int) = (n : Int) := by unfold wrap64; omega
/-- A new variable of three cells: a relocation. -/
theorem boxR (w : World) (r : Rl) : ∃ W, w.alloc (.cells #[.int .u32 (r.at_ : Int), .int .i64 r.kind, .int .i64 r.sym] 51) = W ∧ Below w.heap.size w W ∧ (W.cell? ⟨w.heap.size, 0, none⟩ = some (.int .u32 (r.at_ : Int)) ∧ W.cell? ⟨w.heap.size, 1, none⟩ = some (.int .i64 r.kind) ∧ W.cell? ⟨w.heap.size, 2, none⟩ = some (.int .i64 r.sym)) := by
  refine ⟨_, rfl, (Below.refl _ _).alloc (Nat.le_refl _) _, ?_, ?_, ?_⟩ <;> exact cell_newA _ _ _ _ _ _ rfl rfl
theorem rel_snoc (y : Ly) (k : Nat) (h : k < y.lib.rels.length) : wds ((y.lib.rels.take (k + 1)).flatMap y.relW) = wds ((y.lib.rels.take k).flatMap y.relW) ++ wds (y.relW y.lib.rels[k]) := by
  rw [List.take_succ_eq_append_getElem h, List.flatMap_append, wds_app]
  simp
theorem rel_len (y : Ly) (l : List Rl) : (wds (l.flatMap y.relW)).length = 8 * l.length := by
  rw [wds_len]
  induction l with
  | nil => rfl
  | cons a r ih => rw [List.flatMap_cons, List.length_append]; show 4 * (2 + _) = _; rw [List.length_cons]; omega
set_option maxHeartbeats 4000000 in
theorem relocations65 (y : Ly) (q : Lv) (b : Nat) (w : World) (h : BY y q b w) (ok : y.Ok) (hs : SlR w q.vr y.lib.rels) (hbd : ∀ r ∈ y.lib.rels, r.Bd) :
    Calls Tryz.prog 65 #[.pointer (some ⟨b, 0, none⟩)] w fun e w' => e = .returned (.string ⟨y.relB.toArray⟩) ∧ Below w.heap.size w w' := by
  have HY : Hid (BY y q b w) := h
  have HF : Hid (y.lib.rels.length ≤ 60 ∧ (∀ r ∈ y.lib.rels, relP y.lib r) ∧ y.lib.syms.length ≤ 60) := ⟨ok.fit.r0, ok.fit.r1, ok.fit.y0⟩
  have HBD : Hid (∀ r ∈ y.lib.rels, r.Bd) := hbd
  have HA9 : Hid (y.ad 9 ≤ 1073811456 ∧ y.lib.data.length ≤ 4096) := ⟨ok.ad_le 9, ok.fit.da⟩
  have K25 : Hid (∀ w', Below w.heap.size w w' → Calls Tryz.prog 25 #[.pointer (some ⟨b, 0, none⟩), .int .i64 9] w' fun e w'' => e = .returned (.int .u32 (y.ad 9 : Int)) ∧ Below w'.heap.size w' w'') := fun w' hw => address25 y q b 9 w' (HY.out.keep hw) ok (by decide)
  have d10 : w.cell? ⟨b, 10, none⟩ = some q.vr := h.lib 10 rfl
  obtain ⟨A9, hA9⟩ : ∃ z, z = y.ad 9 := ⟨_, rfl⟩
  rw [← hA9] at K25 HA9
  have HRW : Hid (∀ r : Rl, y.relW r = [A9 + r.at_, r.sym.toNat * 256 + r.kind.toNat]) := fun r => by rw [hA9]; rfl
  obtain ⟨RS, hRS⟩ : ∃ z, z = y.lib.rels := ⟨_, rfl⟩
  have HRS : Hid (RS = y.lib.rels) := hRS
  obtain ⟨ao, cap, hv, s1, s2, s3, s4⟩ := hs
  have HS : Hid (∀ i (h : i < y.lib.rels.length), ∃ b o, ao = some ⟨b, o, none⟩ ∧ At3 w b (o + i * 3) y.lib.rels[i]) := s4
  rw [hv] at d10
  obtain ⟨N, hN⟩ : ∃ z, z = y.lib.rels.length := ⟨_, rfl⟩
  rw [← hN] at d10 HF
  have HN : Hid (N = y.lib.rels.length) := hN
  unfold Ly.relB
  obtain ⟨W0, hW0⟩ : ∃ W0, w.alloc (.cells #[.pointer none, .slice none 0 0] 63) = W0 := ⟨_, rfl⟩
  have HI : Hid (IsB w.heap.size w.heap.size [] W0 ∧ Below w.heap.size w W0 ∧ w.heap.size ≤ W0.heap.size) := by
    refine ⟨?_, ?_, ?_⟩
    · rw [← hW0]
      exact Or.inl ⟨Nat.le_refl _, _, World.alloc_heap_new w _, ⟨rfl, Or.inl ⟨rfl, rfl⟩⟩, by simp [Value.ownBlock]⟩
    · rw [← hW0]; exact (Below.refl _ _).alloc (Nat.le_refl _) _
    · rw [← hW0]; simp
  have d10 := keep_cell HI.out.2.1 d10
  clear h ok hbd hA9 hv s1 s2 s3 s4 hRS hN
  go_enter Tryz.func65, Tryz.ntmps65
  go_wp2
  go_loopw [12] (fun x wr => ∃ k : Nat, x = .int .i64 (k : Int) ∧ k ≤ N ∧ IsB w.heap.size w.heap.size (wds ((y.lib.rels.take k).flatMap y.relW)) wr ∧ Below w.heap.size w wr) (fun x _ => N - (intOf x).toNat)
  case atStart => exact ⟨0, rfl, Nat.zero_le _, HI.out.1, HI.out.2.1⟩
  case round =>
    obtain ⟨k, rfl, hk, hI, hbr⟩ := hrel
    clear d10 hW0
    by_cases hlt : k < N
    · have hlr : k < y.lib.rels.length := by rw [← HN.out]; exact hlt
      obtain ⟨rb, o, hao, c0, c1, c2⟩ := HS.out k hlr
      replace c0 := keep_cell hbr c0
      replace c1 := keep_cell hbr c1
      replace c2 := keep_cell hbr c2
      have HT : Hid (wds ((y.lib.rels.take (k + 1)).flatMap y.relW) = wds ((y.lib.rels.take k).flatMap y.relW) ++ wds (y.relW y.lib.rels[k])) := rel_snoc y k hlr
      have hrl := rel_len y (y.lib.rels.take k)
      have hrb := HBD.out _ (List.getElem_mem hlr)
      have hrp := HF.out.2.1 _ (List.getElem_mem hlr)
      have hy60 := HF.out.2.2
      obtain ⟨r, hr⟩ : ∃ r, r = y.lib.rels[k] := ⟨_, rfl⟩
      rw [← hr] at c0 c1 c2 HT hrb hrp
      rw [HRW.out r] at HT
      obtain ⟨LP, hLP⟩ : ∃ z, z = wds ((y.lib.rels.take k).flatMap y.relW) := ⟨_, rfl⟩
      rw [← hLP] at hI HT hrl
      obtain ⟨AT, hAT⟩ : ∃ z, z = r.at_ := ⟨_, rfl⟩
      obtain ⟨KD, hKD⟩ : ∃ z, z = r.kind.toNat := ⟨_, rfl⟩
      obtain ⟨SY, hSY⟩ : ∃ z, z = r.sym.toNat := ⟨_, rfl⟩
      obtain ⟨q1, q2, q3, q4⟩ := hrp
      have hKi : r.kind = (KD : Int) := by omega
      have hSi : r.sym = (SY : Int) := by omega
      have HA9o := HA9.out
      have hKb : KD ≤ 3 := by omega
      have hSb : SY ≤ 60 := by omega
      have hAb : AT ≤ 4096 := by omega
      obtain ⟨X0, hX0⟩ : ∃ z, z = A9 + AT := ⟨_, rfl⟩
      obtain ⟨X1, hX1⟩ : ∃ z, z = SY * 256 := ⟨_, rfl⟩
      obtain ⟨X2, hX2⟩ : ∃ z, z = X1 + KD := ⟨_, rfl⟩
      have e0 : (A9 : Int) + (AT : Int) = (X0 : Int) := by omega
      have e0w : (X0 : Int) % 4294967296 = (X0 : Int) := by omega
      have e0w' : IntKind.u32.wrap (X0 : Int) = (X0 : Int) := by rw [IntKind.wrap_u32]; exact e0w
      have e1 : (SY : Int) * 256 = (X1 : Int) := by omega
      have e1w : IntKind.i64.wrap (X1 : Int) = (X1 : Int) := by rw [IntKind.wrap_i64]; omega
      have e2 : (X1 : Int) + (KD : Int) = (X2 : Int) := by omega
      have e2w : IntKind.i64.wrap (X2 : Int) = (X2 : Int) := by rw [IntKind.wrap_i64]; omega
      have e2u : (X2 : Int) % 4294967296 = (X2 : Int) := by omega
      have e2u' : IntKind.u32.wrap (X2 : Int) = (X2 : Int) := by rw [IntKind.wrap_u32]; exact e2u
      rw [show A9 + r.at_ = X0 by omega, show r.sym.toNat * 256 + r.kind.toNat = X2 by omega] at HT
      rw [hKi] at c1
      rw [hSi] at c2
      rw [← hAT] at c0
      have hki : (k : Int) < (N : Int) := by omega
      obtain ⟨W1, hW1, hb1, m0, m1, m2⟩ := boxR wr ⟨AT, (KD : Int), (SY : Int)⟩
      dsimp only at hW1 m0 m1 m2
      have H1 : Hid (IsB w.heap.size w.heap.size LP wr ∧ Below w.heap.size w wr ∧ Below wr.heap.size wr W1 ∧ LP.length = 8 * ((y.lib.rels.take k)).length ∧ N ≤ 60 ∧ X0 < 4294967296 ∧ X2 < 4294967296) := ⟨hI, hbr, hb1, hrl, HF.out.1, by omega, by omega⟩
      have K92 : Hid (∀ v w', SlN w' v [X0, X2] → Calls Tryz.prog 92 #[v] w' fun e w'' => e = .returned (.string ⟨(wds [X0, X2]).toArray⟩) ∧ Below w'.heap.size w' w'') := fun v w' hv => words92 [X0, X2] (by simp) v w' (fun x hx => by
        have h6 := H1.out.2.2.2.2.2
        simp at hx
        omega) hv
      have nb1 := wrap64_nat X1 (by omega)
      have nb2 := wrap64_nat X2 (by omega)
      subst hao
      have HLT : Hid (k < N) := hlt
      clear hr hrb q1 q2 q3 q4 hKi hSi hKb hSb hAb hX0 hX1 hX2 hAT hKD hSY hLP hrl hI hbr hb1 HA9o hlr hy60 hk hlt
      go_wp2
      refine wp_region_cut (R := Ext) [⟨16, fun v _ => v = .pointer (some ⟨b, 0, none⟩), fun _ _ _ _ h => h⟩, ⟨17, fun v _ => v = .int .u32 (A9 : Int), fun _ _ _ _ h => h⟩, ⟨18, fun v _ => v = .pointer (some ⟨wr.heap.size, 0, none⟩), fun _ _ _ _ h => h⟩, ⟨19, fun v _ => v = .int .u32 (AT : Int), fun _ _ _ _ h => h⟩, ⟨20, fun v _ => v = .int .u32 (X0 : Int), fun _ _ _ _ h => h⟩, ⟨21, fun v _ => v = .pointer (some ⟨wr.heap.size, 2, none⟩), fun _ _ _ _ h => h⟩, ⟨22, fun v _ => v = .int .i64 (SY : Int), fun _ _ _ _ h => h⟩, ⟨23, fun v _ => v = .int .i64 (X1 : Int), fun _ _ _ _ h => h⟩, ⟨24, fun v _ => v = .pointer (some ⟨wr.heap.size, 1, none⟩), fun _ _ _ _ h => h⟩, ⟨25, fun v _ => v = .int .i64 (KD : Int), fun _ _ _ _ h => h⟩, ⟨26, fun v _ => v = .int .i64 (X2 : Int), fun _ _ _ _ h => h⟩, ⟨27, fun v _ => v = .int .u32 (X2 : Int), fun _ _ _ _ h => h⟩, ⟨28, fun v W => SlN W v [X0, X2], fun v A C hb h => h.keep hb⟩, ⟨29, fun v _ => v = .string ⟨(wds [X0, X2]).toArray⟩, fun _ _ _ _ h => h⟩] _ 14 (by kernel_rfl) rfl (by kernel_rfl) (by decide) (by kernel_rfl) (Below.drew (Below.refl _ _)) (fun _ _ _ h1 h2 => below_tr h1 h2) (fun QQ => ⟨?_, ?_, ?_, ?_, ?_, ?_, ?_, ?_, ?_, ?_, ?_, ?_, ?_, ?_, trivial⟩) (fun f wy hR hf A hA => ?_)
      · intro A wx hR hout hdep K hK
        have h0 : A.tmps[0]?.getD undef = .pointer (some ⟨b, 0, none⟩) := hout 0 (by kernel_rfl)
        refine if_yes (by kernel_rfl) ?_
        simp [go_sem, h0, e0, e0w, e0w', e1, e1w, e2, e2w, e2u, e2u', nb1, nb2]
        exact hK.out _ _ (Below.refl _ _) rfl
      · intro A wx hR hout hdep K hK
        have h16 : A.tmps[16]?.getD undef = .pointer (some ⟨b, 0, none⟩) := hdep 16 (by kernel_rfl)
        refine if_yes (by kernel_rfl) ?_
        simp [go_sem, h16, e0, e0w, e0w', e1, e1w, e2, e2w, e2u, e2u', nb1, nb2]
        refine (K25.out _ (below_tr (below_tr H1.out.2.1 H1.out.2.2.1) hR)).mono ?_
        rintro e w6 ⟨rfl, hb6⟩
        exact hK.out _ _ hb6 rfl
      · intro A wx hR hout hdep K hK
        have h5 : A.tmps[5]?.getD undef = .pointer (some ⟨wr.heap.size, 0, none⟩) := hout 5 (by kernel_rfl)
        refine if_yes (by kernel_rfl) ?_
        simp [go_sem, h5, e0, e0w, e0w', e1, e1w, e2, e2w, e2u, e2u', nb1, nb2]
        exact hK.out _ _ (Below.refl _ _) rfl
      · intro A wx hR hout hdep K hK
        have h18 : A.tmps[18]?.getD undef = .pointer (some ⟨wr.heap.size, 0, none⟩) := hdep 18 (by kernel_rfl)
        refine if_yes (by kernel_rfl) ?_
        have m0 := keep_cell hR m0
        have m1 := keep_cell hR m1
        have m2 := keep_cell hR m2
        simp [go_sem, h18, m0, m1, m2, e0, e0w, e0w', e1, e1w, e2, e2w, e2u, e2u', nb1, nb2]
        exact hK.out _ _ (Below.refl _ _) rfl
      · intro A wx hR hout hdep K hK
        have h17 : A.tmps[17]?.getD undef = .int .u32 (A9 : Int) := hdep 17 (by kernel_rfl)
        have h19 : A.tmps[19]?.getD undef = .int .u32 (AT : Int) := hdep 19 (by kernel_rfl)
        refine if_yes (by kernel_rfl) ?_
        simp [go_sem, h17, h19, e0, e0w, e0w', e1, e1w, e2, e2w, e2u, e2u', nb1, nb2]
        exact hK.out _ _ (Below.refl _ _) rfl
      · intro A wx hR hout hdep K hK
        have h5 : A.tmps[5]?.getD undef = .pointer (some ⟨wr.heap.size, 0, none⟩) := hout 5 (by kernel_rfl)
        refine if_yes (by kernel_rfl) ?_
        simp [go_sem, h5, e0, e0w, e0w', e1, e1w, e2, e2w, e2u, e2u', nb1, nb2]
        exact hK.out _ _ (Below.refl _ _) rfl
      · intro A wx hR hout hdep K hK
        have h21 : A.tmps[21]?.getD undef = .pointer (some ⟨wr.heap.size, 2, none⟩) := hdep 21 (by kernel_rfl)
        refine if_yes (by kernel_rfl) ?_
        have m0 := keep_cell hR m0
        have m1 := keep_cell hR m1
        have m2 := keep_cell hR m2
        simp [go_sem, h21, m0, m1, m2, e0, e0w, e0w', e1, e1w, e2, e2w, e2u, e2u', nb1, nb2]
        exact hK.out _ _ (Below.refl _ _) rfl
      · intro A wx hR hout hdep K hK
        have h22 : A.tmps[22]?.getD undef = .int .i64 (SY : Int) := hdep 22 (by kernel_rfl)
        refine if_yes (by kernel_rfl) ?_
        simp [go_sem, h22, e0, e0w, e0w', e1, e1w, e2, e2w, e2u, e2u', nb1, nb2]
        exact hK.out _ _ (Below.refl _ _) rfl
      · intro A wx hR hout hdep K hK
        have h5 : A.tmps[5]?.getD undef = .pointer (some ⟨wr.heap.size, 0, none⟩) := hout 5 (by kernel_rfl)
        refine if_yes (by kernel_rfl) ?_
        simp [go_sem, h5, e0, e0w, e0w', e1, e1w, e2, e2w, e2u, e2u', nb1, nb2]
        exact hK.out _ _ (Below.refl _ _) rfl
      · intro A wx hR hout hdep K hK
        have h24 : A.tmps[24]?.getD undef = .pointer (some ⟨wr.heap.size, 1, none⟩) := hdep 24 (by kernel_rfl)
        refine if_yes (by kernel_rfl) ?_
        have m0 := keep_cell hR m0
        have m1 := keep_cell hR m1
        have m2 := keep_cell hR m2
        simp [go_sem, h24, m0, m1, m2, e0, e0w, e0w', e1, e1w, e2, e2w, e2u, e2u', nb1, nb2]
        exact hK.out _ _ (Below.refl _ _) rfl
      · intro A wx hR hout hdep K hK
        have h23 : A.tmps[23]?.getD undef = .int .i64 (X1 : Int) := hdep 23 (by kernel_rfl)
        have h25 : A.tmps[25]?.getD undef = .int .i64 (KD : Int) := hdep 25 (by kernel_rfl)
        refine if_yes (by kernel_rfl) ?_
        simp [go_sem, h23, h25, e0, e0w, e0w', e1, e1w, e2, e2w, e2u, e2u', nb1, nb2]
        exact hK.out _ _ (Below.refl _ _) rfl
      · intro A wx hR hout hdep K hK
        have h26 : A.tmps[26]?.getD undef = .int .i64 (X2 : Int) := hdep 26 (by kernel_rfl)
        refine if_yes (by kernel_rfl) ?_
        simp [go_sem, h26, e0, e0w, e0w', e1, e1w, e2, e2w, e2u, e2u', nb1, nb2]
        exact hK.out _ _ (Below.refl _ _) rfl
      · intro A wx hR hout hdep K hK
        have h20 : A.tmps[20]?.getD undef = .int .u32 (X0 : Int) := hdep 20 (by kernel_rfl)
        have h27 : A.tmps[27]?.getD undef = .int .u32 (X2 : Int) := hdep 27 (by kernel_rfl)
        refine if_yes (by kernel_rfl) ?_
        simp [go_sem, h20, h27, e0, e0w, e0w', e1, e1w, e2, e2w, e2u, e2u', nb1, nb2]
        exact hK.out _ _ ((Below.refl _ _).alloc (Nat.le_refl _) _) (SlN.new _ [X0, X2] _ rfl 2 rfl (by simp))
      · intro A wx hR hout hdep K hK
        have h28 := hdep 28 (by kernel_rfl)
        refine if_yes (by kernel_rfl) ?_
        obtain ⟨v28, hv28⟩ : ∃ v, v = A.tmps[28]?.getD undef := ⟨_, rfl⟩
        rw [← hv28] at h28
        have hv28 := hv28.symm
        simp [go_sem, hv28]
        refine (K92.out v28 _ h28).mono ?_
        rintro e w6 ⟨rfl, hb6⟩
        exact hK.out _ _ hb6 rfl
      have h16 : f 16 = .pointer (some ⟨b, 0, none⟩) := hf 16 (by kernel_rfl)
      have h17 : f 17 = .int .u32 (A9 : Int) := hf 17 (by kernel_rfl)
      have h18 : f 18 = .pointer (some ⟨wr.heap.size, 0, none⟩) := hf 18 (by kernel_rfl)
      have h19 : f 19 = .int .u32 (AT : Int) := hf 19 (by kernel_rfl)
      have h20 : f 20 = .int .u32 (X0 : Int) := hf 20 (by kernel_rfl)
      have h21 : f 21 = .pointer (some ⟨wr.heap.size, 2, none⟩) := hf 21 (by kernel_rfl)
      have h22 : f 22 = .int .i64 (SY : Int) := hf 22 (by kernel_rfl)
      have h23 : f 23 = .int .i64 (X1 : Int) := hf 23 (by kernel_rfl)
      have h24 : f 24 = .pointer (some ⟨wr.heap.size, 1, none⟩) := hf 24 (by kernel_rfl)
      have h25 : f 25 = .int .i64 (KD : Int) := hf 25 (by kernel_rfl)
      have h26 : f 26 = .int .i64 (X2 : Int) := hf 26 (by kernel_rfl)
      have h27 : f 27 = .int .u32 (X2 : Int) := hf 27 (by kernel_rfl)
      have h29 : f 29 = .string ⟨(wds [X0, X2]).toArray⟩ := hf 29 (by kernel_rfl)
      have h28 := hf 28 (by kernel_rfl)
      obtain ⟨v28, hv28⟩ : ∃ v, v = f 28 := ⟨_, rfl⟩
      rw [← hv28] at h28
      have hv28 := hv28.symm
      simp only [putSl, List.take_succ_cons, List.take_zero, Act.put, List.setIfInBounds_toArray, List.set_cons_zero, List.set_cons_succ, h16, h17, h18, h19, h20, h21, h22, h23, h24, h25, h26, h27, h29, hv28] at hA
      subst hA
      have HE6 : Hid (Below wr.heap.size wr wy) := below_tr H1.out.2.2.1 hR
      have hsz : w.heap.size ≤ wr.heap.size := H1.out.2.1.size
      have KW := write41 w.heap.size w.heap.size LP ⟨(wds [X0, X2]).toArray⟩ wy (isB_keep H1.out.1 HE6.out) (by
        have h8 : (⟨(wds [X0, X2]).toArray⟩ : ByteArray).size = 8 := by show (wds [X0, X2]).toArray.size = 8; simp [wds_len]
        have h1 := H1.out.2.2.2.1
        have h2 : (y.lib.rels.take k).length ≤ 60 := by have := H1.out.2.2.2.2.1; have := HN.out; rw [List.length_take]; omega
        rw [h8]; omega) (Nat.le_trans hsz HE6.out.size)
      rw [E.bal, ← HT.out] at KW
      clear h16 h17 h18 h19 h20 h21 h22 h23 h24 h25 h26 h27 h29 h28 hv28 hf hR m0 m1 m2 e0 e0w e0w' e1 e1w e2 e2w e2u e2u' nb1 nb2 hW1 c0 c1 c2 K92
      refine wpAny_ready (rs := [14]) (by kernel_rfl) (by decide) (AllReady.cons rfl ?_ AllReady.nil)
      intro K5 hK5
      refine if_yes (by kernel_rfl) ?_
      simp [go_sem]
      refine (KW).mono ?_
      rintro e w2 ⟨rfl, hI2, hb2⟩
      refine hK5 _ _ ?_
      refine wpAny_done (by kernel_rfl) ?_ _
      clear hK5 K5
      have HE : Hid (IsB w.heap.size w.heap.size (wds ((y.lib.rels.take (k + 1)).flatMap y.relW)) w2 ∧ Below w.heap.size w w2) := ⟨hI2, (below_tr H1.out.2.1 HE6.out).trans (hb2.mono (Nat.le_refl _))⟩
      clear KW hI2 hb2 HE6 H1
      have hlt := HLT.out
      have hNb := HF.out.1
      go_wp2
      go_roundw
      case rel => exact ⟨k + 1, by go_num, HLT.out, HE.out.1, HE.out.2⟩
      case measure => have := HLT.out; simp [intOf]; omega
    · have KS := string43 w.heap.size w.heap.size _ wr hI hbr.size
      rw [List.take_of_length_le (by rw [← HN.out]; omega)] at KS
      have hki : ¬ (k : Int) < (N : Int) := by omega
      go_wp2_with fail
      refine KS.mono ?_
      rintro e w1 ⟨rfl, hb1⟩
      go_wp2
      go_ret
      exact ⟨rfl, hbr.trans hb1⟩
end Go.Proofs.YtgdflobcbhnimaaGreat
