/- What is proved here: the table of places. -/
import Derived.Test.YtgdflobcbhnimaaGreatPkh
import Derived.Test.YtgdflobcbhnimaaGreatPki
namespace Go.Proofs.YtgdflobcbhnimaaGreat
open Go.RowKit 
set_option linter.unusedVariables false
set_option linter.unusedSimpArgs false
set_option maxRecDepth 100000
open E (own_keep)
/-- A row of numbers of one's own. -/
def OwnN (B : Nat) (w : World) (v : Value) (xs : List Nat) : Prop := w.ownsRow B 22 1 v xs.length (xs.map u32C)
theorem OwnN.keep {B : Nat} {w w' : World} {v : Value} {xs : List Nat} (h : OwnN B w v xs) (hb : Below w.heap.size w w') : OwnN B w' v xs := own_keep h hb
theorem OwnN.sl {B : Nat} {w : World} {v : Value} {xs : List Nat} (h : OwnN B w v xs) : SlN w v xs := by
  obtain ⟨h0, h | ⟨g, cap, cur, h1, h2, h3, h4, h5, h6, h7⟩⟩ := h
  · obtain ⟨rfl, h⟩ := h
    have : xs = [] := List.eq_nil_of_length_eq_zero h
    subst this
    exact ⟨none, 0, rfl, Nat.le_refl _, by decide, fun _ => rfl, fun i h => absurd h (Nat.not_lt_zero _)⟩
  · refine ⟨some ⟨g, 0, none⟩, cap, h1, h4, by unfold maxLen at h5; omega, (by simp), fun i hi => ⟨g, 0, rfl, ?_⟩⟩
    have e : (cur.toList.take (xs.length * 1))[i]? = some (.int .u32 (xs[i] : Int)) := by rw [h7, List.getElem?_map, List.getElem?_eq_getElem hi]; rfl
    rw [List.getElem?_take_of_lt (by omega)] at e
    simp only [World.cell?, h3, Nat.zero_add]
    simpa using e
theorem OwnN.shape {B : Nat} {w : World} {v : Value} {xs : List Nat} (h : OwnN B w v xs) : ∃ a c, v = .slice a xs.length c := by
  obtain ⟨_, h | ⟨g, cap, cur, h1, _⟩⟩ := h
  · exact ⟨none, 0, by rw [h.1, h.2]⟩
  · exact ⟨_, _, h1⟩
theorem OwnN.ge {B : Nat} {w : World} {v : Value} {xs : List Nat} (h : OwnN B w v xs) : ∀ r, v.ownBlock = some r → B ≤ r := by
  intro r hr
  obtain ⟨_, h | ⟨g, cap, cur, h1, h2, _⟩⟩ := h
  · rw [h.1] at hr; cases hr
  · rw [h1] at hr
    injection hr with hr
    subst hr
    exact h2
theorem infoN : ∃ i, Tryz.prog.info? 22 = some i ∧ i.zero = some (.int .u32 0) ∧ i.size = 1 ∧ i.bytes = 4 := info_parts (P := Tryz.prog) (e := 22) (by kernel_rfl)
theorem OwnN.two (w : World) (B x0 x1 : Nat) (hB : B ≤ w.heap.size) : OwnN B (w.alloc (.cells #[.int .u32 (x0 : Int), .int .u32 (x1 : Int)] 22)) (.slice (some ⟨w.heap.size, 0, none⟩) 2 2) [x0, x1] :=
  ⟨rfl, Or.inr ⟨w.heap.size, 2, _, rfl, hB, new_heap w _ _, Nat.le_refl _, by unfold maxLen; decide, rfl, rfl⟩⟩
theorem new1 (w : World) (x : Nat) : ∀ j u, ([u32C x])[j]? = some u → (w.alloc (.cells #[.int .u32 (x : Int)] 22)).cell? ((⟨w.heap.size, 0, none⟩ : Addr).add j) = some u := by
  intro j u hj
  match j with
  | 0 =>
    simp at hj
    subst hj
    simp only [Addr.add]
    exact cell_newA _ _ _ _ _ _ rfl rfl
  | j + 1 => simp at hj
/-- What may have become of a number that was put behind a row of one's own. -/
theorem OwnN.next {B : Nat} {w w' : World} {v v' : Value} {xs : List Nat} {x : Nat} (h : OwnN B w v xs) (ho : w'.ownsRow B 22 1 v' (xs.length + 1) (xs.map u32C ++ [u32C x])) (hg : w.grownBy w' v.ownBlock) {w0 : World} (hb : Below w0.heap.size w0 w) (hB : w0.heap.size ≤ B) : OwnN B w' v' (xs ++ [x]) ∧ Below w0.heap.size w0 w' :=
  ⟨by show World.ownsRow _ _ _ _ _ _ _; rw [List.length_append, List.map_append]; exact ho, hb.grown hg hb.size (fun k e => Nat.le_trans hB (h.ge k e))⟩
def Ly.plA (y : Ly) (k : Nat) : List Nat := [0, 2147483648] ++ (y.lib.locals.take k).map y.locW
def Ly.lastS (y : Ly) : List Sy := y.lib.syms.drop (y.lib.syms.length - y.lib.global.toNat)
def Ly.plB (y : Ly) (k : Nat) : List Nat := y.plA y.lib.locals.length ++ (y.lastS.take k).map y.symV
theorem plA_next (y : Ly) (k : Nat) (h : k < y.lib.locals.length) : y.plA (k + 1) = y.plA k ++ [y.locW y.lib.locals[k]] := by
  unfold Ly.plA
  rw [List.take_succ_eq_append_getElem h, List.map_append, ← List.append_assoc]
  rfl
theorem plB_next (y : Ly) (k : Nat) (h : k < y.lastS.length) : y.plB (k + 1) = y.plB k ++ [y.symV y.lastS[k]] := by
  unfold Ly.plB
  rw [List.take_succ_eq_append_getElem h, List.map_append, ← List.append_assoc]
  rfl
theorem plB_all (y : Ly) : y.plB y.lastS.length = y.plW := by
  unfold Ly.plB Ly.plA Ly.plW
  rw [List.take_length, List.take_length, List.append_assoc]
  rfl
theorem plB_zero (y : Ly) : y.plB 0 = y.plA y.lib.locals.length := by unfold Ly.plB; simp
theorem plA_len (y : Ly) (k : Nat) (h : k ≤ y.lib.locals.length) : (y.plA k).length = k + 2 := by unfold Ly.plA; simp; omega
theorem plB_len (y : Ly) (k : Nat) (h : k ≤ y.lastS.length) : (y.plB k).length = y.lib.locals.length + 2 + k := by unfold Ly.plB; simp [plA_len y _ (Nat.le_refl _)]; omega
theorem pl_lt (y : Ly) : ∀ x ∈ y.plW, x < 4294967296 := by
  intro x hx
  unfold Ly.plW at hx
  simp only [List.mem_append, List.mem_map] at hx
  rcases hx with hx | ⟨a, _, rfl⟩ | ⟨a, _, rfl⟩
  · simp at hx; omega
  · exact Nat.mod_lt _ (by decide)
  · exact y.symV_lt a
/-- The last of some symbols, as a part of a slice. -/
theorem SlY.drop {w : World} {ao : Option Addr} {n cap : Nat} {gs : List Sy} (h : SlY w (.slice ao gs.length cap) gs) (k : Nat) (hk : k ≤ gs.length) : ∀ i (hi : i < (gs.drop k).length), ∃ b o, ao = some ⟨b, o, none⟩ ∧ At5 w b (o + (k + i) * 5) (gs.drop k)[i] := by
  obtain ⟨ao', cap', he, _, _, _, h4⟩ := h
  injection he with e1 _ _
  intro i hi
  rw [List.length_drop] at hi
  obtain ⟨b, o, e, c⟩ := h4 (k + i) (by omega)
  refine ⟨b, o, by rw [e1]; exact e, ?_⟩
  rw [List.getElem_drop]
  exact c
set_option maxHeartbeats 4000000 in
theorem places66 (y : Ly) (q : Lv) (b : Nat) (w : World) (h : BY y q b w) (ok : y.Ok) (hs : SlY w q.vs y.lib.syms) (hl : SlN w q.vl y.lib.locals) (hb : ∀ s ∈ y.lib.syms, s.Bd) (hbl : ∀ a ∈ y.lib.locals, a < 4294967296) :
    Calls Tryz.prog 66 #[.pointer (some ⟨b, 0, none⟩)] w fun e w' => e = .returned (.string ⟨(wds y.plW).toArray⟩) ∧ Below w.heap.size w w' := by
  have HY : Hid (BY y q b w ∧ y.Ok) := ⟨h, ok⟩
  have d9 : w.cell? ⟨b, 9, none⟩ = some q.vs := h.lib 9 rfl
  have d11 : w.cell? ⟨b, 11, none⟩ = some q.vl := h.lib 11 rfl
  have d12 : w.cell? ⟨b, 12, none⟩ = some (.int .i64 y.lib.global) := h.lib 12 rfl
  obtain ⟨A7, hA7⟩ : ∃ z, z = y.ad 7 := ⟨_, rfl⟩
  have hA7b := ok.ad_le 7
  rw [← hA7] at hA7b
  have K25 : Hid (∀ w', Below w.heap.size w w' → Calls Tryz.prog 25 #[.pointer (some ⟨b, 0, none⟩), .int .i64 7] w' fun e w'' => e = .returned (.int .u32 (A7 : Int)) ∧ Below w'.heap.size w' w'') := fun w' hw => by rw [hA7]; exact address25 y q b 7 w' (HY.out.1.keep hw) ok (by decide)
  have K87 : Hid (∀ (s : Sy) w', s.Bd → Below w.heap.size w w' → Calls Tryz.prog 87 #[.pointer (some ⟨b, 0, none⟩), .agg #[.string ⟨s.name.toArray⟩, .int .u32 (s.value : Int), .int .u32 (s.size : Int), .int .i64 s.bind, .int .i64 s.part]] w' fun e w'' => e = .returned (.int .u32 (y.symV s : Int)) ∧ Below w'.heap.size w' w'') := fun s w' hs hw => symbol87 y q b s w' (HY.out.1.keep hw) HY.out.2 hs
  have HB : Hid ((∀ s ∈ y.lib.syms, s.Bd) ∧ (∀ a ∈ y.lib.locals, a < 4294967296) ∧ y.lib.syms.length ≤ 60 ∧ y.lib.locals.length ≤ 30 ∧ SlY w q.vs y.lib.syms ∧ SlN w q.vl y.lib.locals ∧ (∀ a, y.locW a = (A7 + a) % 4294967296) ∧ A7 ≤ 1073811456) := ⟨hb, hbl, ok.fit.y0, ok.fit.lo, hs, hl, fun a => by rw [hA7]; rfl, hA7b⟩
  obtain ⟨GL, hGL⟩ : ∃ z, z = y.lib.global.toNat := ⟨_, rfl⟩
  have hg0 := ok.fit.g0; have hg1 := ok.fit.g1
  have hGi : y.lib.global = (GL : Int) := by omega
  obtain ⟨N, hN⟩ : ∃ N, N = y.lib.syms.length := ⟨_, rfl⟩
  obtain ⟨M, hM⟩ : ∃ N, N = y.lib.locals.length := ⟨_, rfl⟩
  obtain ⟨D, hD⟩ : ∃ D, D = N - GL := ⟨_, rfl⟩
  have HN : Hid (N = y.lib.syms.length ∧ M = y.lib.locals.length ∧ D = N - GL ∧ GL ≤ N ∧ N ≤ 60 ∧ M ≤ 30 ∧ y.lastS = y.lib.syms.drop D ∧ y.lastS.length = GL) := by
    have hls : y.lastS = y.lib.syms.drop D := by unfold Ly.lastS; rw [hD, hN, hGL]
    refine ⟨hN, hM, hD, by omega, by have := ok.fit.y0; omega, by have := ok.fit.lo; omega, hls, ?_⟩
    rw [hls, List.length_drop]; omega
  rw [hGi] at d12
  obtain ⟨ao, cap, hv, s1, s2, s3, _⟩ := id hs
  obtain ⟨lo, lcap, hvl, l1, l2, l3, _⟩ := id hl
  rw [hv, ← hN] at d9
  rw [hvl, ← hM] at d11
  have HL : Hid (∀ i (h : i < y.lib.locals.length), ∃ b o, lo = some ⟨b, o, none⟩ ∧ w.cell? ⟨b, o + i, none⟩ = some (.int .u32 (y.lib.locals[i] : Int))) := by
    obtain ⟨lo', lcap', he, _, _, _, h4⟩ := id hl
    rw [hvl] at he
    cases he
    exact h4
  have HSD : Hid (∀ i (h : i < y.lastS.length), ∃ b o, ao = some ⟨b, o, none⟩ ∧ At5 w b (o + (D + i) * 5) y.lastS[i]) := by
    have hs2 := hs
    rw [hv] at hs2
    have := SlY.drop (n := 0) hs2 D (by rw [← hN]; omega)
    rw [HN.out.2.2.2.2.2.2.1]
    exact this
  have HS3 : Hid ((ao = none → cap = 0) ∧ N ≤ cap ∧ cap ≤ 9223372036854775807) := ⟨s3, by rw [hN]; exact s1, s2⟩
  obtain ⟨W1, hW1⟩ : ∃ z, w.alloc (.cells #[.int .u32 0, .int .u32 2147483648] 22) = z := ⟨_, rfl⟩
  have HW1 : Hid (OwnN w.heap.size W1 (.slice (some ⟨w.heap.size, 0, none⟩) 2 2) (y.plA 0) ∧ Below w.heap.size w W1) := by
    rw [← hW1]
    exact ⟨by have := OwnN.two w w.heap.size 0 2147483648 (Nat.le_refl _); unfold Ly.plA; simpa using this, (Below.refl _ _).alloc (Nat.le_refl _) _⟩
  have d11 := keep_cell HW1.out.2 d11
  have d9w := d9
  have d12w := d12
  have HD9 : Hid (w.cell? ⟨b, 9, none⟩ = some (.slice ao N cap) ∧ w.cell? ⟨b, 12, none⟩ = some (.int .i64 (GL : Int))) := ⟨d9, d12⟩
  clear h ok hs hl hb hbl hA7 hA7b hv hvl s1 s2 s3 l1 l2 l3 hg0 hg1 hGi hGL hN hM hD d9 d12 d9w d12w
  go_enter Tryz.func66, Tryz.ntmps66
  go_wp2
  clear d11 hW1
  go_loopw [3, 15] (fun v x wr => ∃ k : Nat, x = .int .i64 (k : Int) ∧ k ≤ M ∧ OwnN w.heap.size wr v (y.plA k) ∧ Below w.heap.size w wr) (fun _ x _ => M - (intOf x).toNat)
  case atStart => exact ⟨0, rfl, Nat.zero_le _, HW1.out.1, HW1.out.2⟩
  case round =>
    obtain ⟨k, rfl, hk, hI, hbr⟩ := hrel
    obtain ⟨va, vc, hvs⟩ := hI.shape
    rw [plA_len y k (by have := HN.out.2.1; omega)] at hvs
    subst hvs
    have hMb := HN.out.2.2.2.2.2.1
    by_cases hlt : k < M
    · have hkl : k < y.lib.locals.length := by rw [← HN.out.2.1]; exact hlt
      obtain ⟨lb, o, hlo, c0⟩ := HL.out k hkl
      replace c0 := keep_cell hbr c0
      have hnx := plA_next y k hkl
      obtain ⟨A, hA⟩ : ∃ A, A = y.lib.locals[k] := ⟨_, rfl⟩
      rw [← hA] at c0 hnx
      obtain ⟨V, hV⟩ : ∃ V, V = y.locW A := ⟨_, rfl⟩
      have eV : V = (A7 + A) % 4294967296 := by rw [hV]; exact HB.out.2.2.2.2.2.2.1 A
      rw [← hV] at hnx
      have w1 : ((A7 : Int) + (A : Int)) % 4294967296 = (V : Int) := by omega
      have w1' : IntKind.u32.wrap ((A7 : Int) + (A : Int)) = (V : Int) := by rw [IntKind.wrap_u32]; exact w1
      have hki : (k : Int) < (M : Int) := by omega
      have HX : Hid (OwnN w.heap.size wr (.slice va (k + 2) vc) (y.plA k) ∧ Below w.heap.size w wr ∧ y.plA (k + 1) = y.plA k ++ [V] ∧ (y.plA k).length = k + 2 ∧ k < M) := ⟨hI, hbr, hnx, plA_len y k (by omega), hlt⟩
      subst hlo
      clear hA hV eV hnx hI hbr hkl hk hlt
      go_wp2_with fail
      refine (K25.out wr HX.out.2.1).mono ?_
      rintro e w2 ⟨rfl, hb2⟩
      obtain ⟨W3, hW3⟩ : ∃ z, w2.alloc (.cells #[.int .u32 (V : Int)] 22) = z := ⟨_, rfl⟩
      have H3 : Hid (OwnN w.heap.size W3 (.slice va (k + 2) vc) (y.plA k) ∧ Below w.heap.size w W3 ∧ ∀ j u, ([u32C V])[j]? = some u → W3.cell? ((⟨w2.heap.size, 0, none⟩ : Addr).add j) = some u) := by
        have h1 := HX.out.1.keep hb2
        have h2 := below_tr HX.out.2.1 hb2
        have hal : Below w2.heap.size w2 W3 := by rw [← hW3]; exact (Below.refl _ _).alloc (Nat.le_refl _) _
        exact ⟨h1.keep hal, below_tr h2 hal, by rw [← hW3]; exact new1 w2 V⟩
      obtain ⟨i0, hi1, hi2, hi3, hi4⟩ := infoN
      have ho3 : W3.ownsRow w.heap.size 22 1 (.slice va (k + 2) vc) (k + 2) ((y.plA k).map u32C) := by have := H3.out.1; unfold OwnN at this; rw [HX.out.2.2.2.1] at this; exact this
      clear hb2 c0
      go_wp2_with (at_builtin; refine wpList_append_own _ rfl _ _ 26 rfl w.heap.size 22 i0 _ 1 4 Tryz.underlying26 hi1 hi2 hi3 hi4 rfl (by decide) _ (k + 2) _ rfl ho3 ⟨w2.heap.size, 0, none⟩ 1 1 [u32C V] rfl rfl H3.out.2.2 ?_ ?_ ?_ H3.out.2.1.size ?_)
      · intro u hu; simp at hu; subst hu; rfl
      · unfold maxLen; omega
      · omega
      intro v' w4 ho4 hg4 _
      have hkM := HX.out.2.2.2.2
      have H4 : Hid (OwnN w.heap.size w4 v' (y.plA (k + 1)) ∧ Below w.heap.size w w4) := by
        rw [HX.out.2.2.1]
        exact H3.out.1.next (by rw [HX.out.2.2.2.1]; exact ho4) hg4 H3.out.2.1 (Nat.le_refl _)
      clear ho4 hg4 ho3 hW3 hi1 hi2 hi3 hi4 w1 w1'
      go_wp2
      go_roundw
      case rel => exact ⟨k + 1, by go_num, hkM, H4.out.1, H4.out.2⟩
      case measure => simp [intOf]; omega
    · have hkM : k = M := by omega
      have hki : ¬ (k : Int) < (M : Int) := by omega
      subst hkM
      have HX : Hid (OwnN w.heap.size wr (.slice va (k + 2) vc) (y.plB 0) ∧ Below w.heap.size w wr) := ⟨by rw [plB_zero, ← HN.out.2.1]; exact hI, hbr⟩
      have d9 := keep_cell hbr HD9.out.1
      have d12 := keep_cell hbr HD9.out.2
      have e1 : (N : Int) - (GL : Int) = (D : Int) := by have := HN.out; omega
      have e1w : wrap64 (D : Int) = (D : Int) := wrap64_nat D (by have := HN.out; omega)
      have e1i : IntKind.i64.wrap (D : Int) = (D : Int) := by rw [IntKind.wrap_i64]; have := HN.out; omega
      have e2 : D ≤ N := by have := HN.out; omega
      have e3 : N - D = GL := by have := HN.out; omega
      have e4 : N ≤ cap := HS3.out.2.1
      have e5 : N ≤ 60 := HN.out.2.2.2.2.1
      clear hI hbr
      go_wp2
      go_quiet (fail)
      obtain ⟨SA, hSA⟩ : ∃ z, z = (if cap = D then ao else Option.map (fun x => x.add (D * 5)) ao) := ⟨_, rfl⟩
      have HSA : Hid (∀ i (h : i < y.lastS.length), ∃ b o, SA = some ⟨b, o, none⟩ ∧ At5 w b (o + i * 5) y.lastS[i]) := fun i hi => by
        have hgl : i < GL := by have := HN.out.2.2.2.2.2.2.2; omega
        obtain ⟨b', o, e, c⟩ := HSD.out i hi
        refine ⟨b', o + D * 5, ?_, by rw [show o + D * 5 + i * 5 = o + (D + i) * 5 by omega]; exact c⟩
        rw [hSA, if_neg (by omega), e]
        simp [Addr.add]
      rw [← hSA]
      have HX2 : Hid (OwnN w.heap.size (wr.drewN nq) (.slice va (k + 2) vc) (y.plB 0) ∧ Below w.heap.size w (wr.drewN nq)) := ⟨HX.out.1, below_dn HX.out.2 nq⟩
      generalize wr.drewN nq = w5 at HX2 ⊢
      have hGb : GL ≤ 60 := by have := HN.out; omega
      clear hSA d9 d12 e1 e1w e1i e2 e3 e4 HX hki
      go_wp2
      go_loopw [3, 46] (fun v x w6 => ∃ j : Nat, x = .int .i64 (j : Int) ∧ j ≤ GL ∧ OwnN w.heap.size w6 v (y.plB j) ∧ Below w.heap.size w w6) (fun _ x _ => GL - (intOf x).toNat)
      case atStart => exact ⟨0, rfl, Nat.zero_le _, HX2.out.1, HX2.out.2⟩
      case round =>
        obtain ⟨j, rfl, hj, hI6, hb6⟩ := hrel
        obtain ⟨va6, vc6, hvs⟩ := hI6.shape
        have hpl := plB_len y j (by have := HN.out.2.2.2.2.2.2.2; omega)
        rw [← HN.out.2.1] at hpl
        rw [hpl] at hvs
        subst hvs
        by_cases hlt : j < GL
        · have hkl : j < y.lastS.length := by have := HN.out.2.2.2.2.2.2.2; omega
          obtain ⟨sb, o, hlo, r0, r1, r2, r3, r4⟩ := HSA.out j hkl
          have hnx := plB_next y j hkl
          obtain ⟨s, hss⟩ : ∃ s, s = y.lastS[j] := ⟨_, rfl⟩
          have hsb : s.Bd := HB.out.1 s (by
            rw [hss]
            exact List.mem_of_mem_drop (by have h2 := List.getElem_mem hkl; simpa [HN.out.2.2.2.2.2.2.1] using h2))
          rw [← hss] at r0 r1 r2 r3 r4 hnx
          replace r0 := keep_cell hb6 r0
          replace r1 := keep_cell hb6 r1
          replace r2 := keep_cell hb6 r2
          replace r3 := keep_cell hb6 r3
          replace r4 := keep_cell hb6 r4
          obtain ⟨W7, hW7, hb8, hz7, q0, q1, q2, q3, q4⟩ := box5 wr s
          have K87s : Hid (∀ w', Below w.heap.size w w' → Calls Tryz.prog 87 #[.pointer (some ⟨b, 0, none⟩), .agg #[.string ⟨s.name.toArray⟩, .int .u32 (s.value : Int), .int .u32 (s.size : Int), .int .i64 s.bind, .int .i64 s.part]] w' fun e w'' => e = .returned (.int .u32 (y.symV s : Int)) ∧ Below w'.heap.size w' w'') := fun w' hw => K87.out s w' hsb hw
          obtain ⟨V, hV⟩ : ∃ V, V = y.symV s := ⟨_, rfl⟩
          rw [← hV] at K87s hnx
          have hki : (j : Int) < (GL : Int) := by omega
          have HX : Hid (OwnN w.heap.size W7 (.slice va6 (k + 2 + j) vc6) (y.plB j) ∧ Below w.heap.size w W7 ∧ y.plB (j + 1) = y.plB j ++ [V] ∧ (y.plB j).length = k + 2 + j ∧ j < GL) := ⟨hI6.keep hb8, below_tr hb6 hb8, hnx, hpl, hlt⟩
          subst hlo
          clear hss hsb hV hnx hI6 hb6 hb8 hz7 hpl hj hlt
          go_wp2_with fail
          refine (K87s.out W7 HX.out.2.1).mono ?_
          rintro e w2 ⟨rfl, hb2⟩
          obtain ⟨W3, hW3⟩ : ∃ z, w2.alloc (.cells #[.int .u32 (V : Int)] 22) = z := ⟨_, rfl⟩
          have H3 : Hid (OwnN w.heap.size W3 (.slice va6 (k + 2 + j) vc6) (y.plB j) ∧ Below w.heap.size w W3 ∧ ∀ j u, ([u32C V])[j]? = some u → W3.cell? ((⟨w2.heap.size, 0, none⟩ : Addr).add j) = some u) := by
            have h1 := HX.out.1.keep hb2
            have h2 := below_tr HX.out.2.1 hb2
            have hal : Below w2.heap.size w2 W3 := by rw [← hW3]; exact (Below.refl _ _).alloc (Nat.le_refl _) _
            exact ⟨h1.keep hal, below_tr h2 hal, by rw [← hW3]; exact new1 w2 V⟩
          obtain ⟨i0, hi1, hi2, hi3, hi4⟩ := infoN
          have ho3 : W3.ownsRow w.heap.size 22 1 (.slice va6 (k + 2 + j) vc6) (k + 2 + j) ((y.plB j).map u32C) := by have := H3.out.1; unfold OwnN at this; rw [HX.out.2.2.2.1] at this; exact this
          have hjG := HX.out.2.2.2.2
          clear hb2 r0 r1 r2 r3 r4 q0 q1 q2 q3 q4 hW7
          go_wp2_with (at_builtin; refine wpList_append_own _ rfl _ _ 26 rfl w.heap.size 22 i0 _ 1 4 Tryz.underlying26 hi1 hi2 hi3 hi4 rfl (by decide) _ (k + 2 + j) _ rfl ho3 ⟨w2.heap.size, 0, none⟩ 1 1 [u32C V] rfl rfl H3.out.2.2 ?_ ?_ ?_ H3.out.2.1.size ?_)
          · intro u hu; simp at hu; subst hu; rfl
          · unfold maxLen; omega
          · omega
          intro v' w4 ho4 hg4 _
          have H4 : Hid (OwnN w.heap.size w4 v' (y.plB (j + 1)) ∧ Below w.heap.size w w4) := by
            rw [HX.out.2.2.1]
            exact H3.out.1.next (by rw [HX.out.2.2.2.1]; exact ho4) hg4 H3.out.2.1 (Nat.le_refl _)
          clear ho4 hg4 ho3 hW3 hi1 hi2 hi3 hi4
          go_wp2
          go_roundw
          case rel => exact ⟨j + 1, by go_num, hjG, H4.out.1, H4.out.2⟩
          case measure => simp [intOf]; omega
        · have hjG : j = GL := by omega
          have hki : ¬ (j : Int) < (GL : Int) := by omega
          subst hjG
          have hall := plB_all y
          rw [HN.out.2.2.2.2.2.2.2] at hall
          have K92 := words92 y.plW (by rw [← hall, hpl]; omega) (.slice va6 (k + 2 + j) vc6) wr (pl_lt y) (by rw [← hall]; exact hI6.sl)
          have HB6 : Hid (Below w.heap.size w wr) := hb6
          clear hI6 hb6 hall hpl
          go_wp2_with fail
          refine K92.mono ?_
          rintro e w7 ⟨rfl, hb7⟩
          go_wp2
          go_ret
          exact ⟨rfl, below_tr HB6.out hb7⟩
end Go.Proofs.YtgdflobcbhnimaaGreat
