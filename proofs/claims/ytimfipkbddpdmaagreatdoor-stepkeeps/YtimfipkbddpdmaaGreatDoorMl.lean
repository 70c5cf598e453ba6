import Derived.Test.YtimfipkbddpdmaaGreatDoorVals
import Derived.Test.YtimfipkbddpdmaaGreatDoorMk
set_option linter.unusedVariables false
set_option linter.unusedSimpArgs false
set_option maxRecDepth 100000
open Go Go.RowKit
namespace Go.Proofs.YtimfipkbddpdmaaGreatDoor
set_option maxHeartbeats 1000000 in
theorem reach88_lwl (M : Mem) (c : Cp) (cs : List (Nat × Int)) (g : Gv) (b : Nat) (name : ByteArray) (rs sa : Int) (rt rd imm s t SM A AT WD : Nat) (hc : c.Ok) (hrt : rt < 32) (hs : s < 4294967296) (ht : t < 4294967296) (w : World) (h : MS M c cs g b w) (hG : Good M cs)
  (hK : ∀ w, Calls Tryz.prog 79 #[.agg #[.string name, .int .i64 rs, .int .i64 rt, .int .i64 rd, .int .i64 sa, .int .u32 imm]] w fun e w' => e = .returned (.int .u32 SM) /\ Below w.heap.size w w')
  (eA : A = (s + SM) % 4294967296) (eAT : AT = A % 4) (eWD : WD = A - AT) (h0 : (name.toList == [108, 98]) = false) (h1 : (name.toList == [108, 98, 117]) = false) (h2 : (name.toList == [108, 104]) = false) (h3 : (name.toList == [108, 104, 117]) = false) (h4 : (name.toList == [108, 119]) = false) (h5 : (name.toList == [108, 108]) = false) (h6 : (name.toList == [108, 119, 108]) = true) :
  Calls Tryz.prog 88 #[.pointer (some ⟨b, 0, none⟩), .agg #[.string name, .int .i64 rs, .int .i64 rt, .int .i64 rd, .int .i64 sa, .int .u32 imm], .int .u32 s, .int .u32 t] w (TellsL M cs g b w (lput (ldR M cs WD 4) c rt (fun v => Wd.layN true t v (Wd.aheadN AT)))) := by
 obtain ⟨W, hW, hb, hz, d0, d1, d2, d3, d4, d5⟩ := box6 w (.string name) (.int .i64 rs) (.int .i64 rt) (.int .i64 rd) (.int .i64 sa) (.int .u32 imm) 55
 have HM : Hid (w.grownBy W (some b) /\ MS M c cs g b W /\ c.Ok /\ Good M cs /\ b < w.heap.size) := ⟨grown_of hb, h.keep hb, hc, hG, h.m.lt⟩
 have i1 : ((s : Int) + (SM : Int)) % 4294967296 = (A : Int) := by omega
 have i2 : IntKind.u32.wrap ((s : Int) + (SM : Int)) = (A : Int) := by rw [IntKind.wrap_u32]; exact i1
 have i3 : (A : Int) % 4 = (AT : Int) := by omega
 have i4 : (A : Int).tmod 4 = (AT : Int) := by rw [Int.tmod_eq_emod_of_nonneg (by omega)]; exact i3
 have i5 : ((A : Int) - (AT : Int)) % 4294967296 = (WD : Int) := by omega
 have i6 : IntKind.u32.wrap ((A : Int) - (AT : Int)) = (WD : Int) := by rw [IntKind.wrap_u32]; exact i5
 have i7 : (A : Int) - (AT : Int) = (WD : Int) := by omega
 have LA : Hid (A < 4294967296 /\ WD < 4294967296 /\ AT < 4 /\ t < 4294967296) := by show _ /\ _; omega
 have K79 := hK W
 clear hK eA eAT eWD hs ht h hG hc hb hz
 have K107 : Hid (∀ wx, MS M c cs g b wx -> Calls Tryz.prog 107 #[.pointer (some ⟨b, 0, none⟩), .int .u32 WD, .int .u32 4] wx fun e w' => Says (ldR M cs WD 4) e /\ Below wx.heap.size wx w') := fun wx hx => load107 M c cs g b WD 4 wx HM.out.2.2.1 hx HM.out.2.2.2.1 LA.out.2.1 (by decide)
 have HV : Hid (∀ v, ldR M cs WD 4 = .ok v -> v < 4294967296) := fun v hv => ld_lt hv
 generalize ldR M cs WD 4 = R at K107 HV |-
 go_enter Tryz.func88, Tryz.ntmps88
 go_wp2_with fail
 refine K79.mono ?_
 rintro e w1 ⟨rfl, hb1⟩
 have d0 := keep_cell hb1 d0
 have d2 := keep_cell hb1 d2
 have H1 : Hid (w.grownBy w1 (some b) /\ MS M c cs g b w1) := ⟨gb_trans HM.out.1 (grown_of hb1), HM.out.2.1.keep hb1⟩
 clear hb1 K79 d1 d3 d4 d5 hW
 have hATI : (AT : Int) < 4 := by have := LA.out.2.2.1; omega
 go_wp2
 refine wp_region_held_drew (S := fun w' => w'.cell? ⟨w.heap.size, 2, none⟩ = some (.int .i64 rt)) (by kernel_rfl) (by simp [d2]) (fun hS => ?_)
 refine takeG 0 (.pointer (some ⟨b, 0, none⟩)) hS ?_
 simp only [Act.put]
 refine takeG 1 (.pointer (some ⟨w.heap.size, 2, none⟩)) hS ?_
 simp only [Act.put]
 refine takeG 2 (.int .i64 rt) hS ?_
 simp only [Act.put]
 refine takeG 3 (.int .u32 t) hS ?_
 simp only [Act.put]
 refine takeG 4 (.pointer (some ⟨b, 0, none⟩)) hS ?_
 simp only [Act.put]
 refine takeG 5 (.int .u32 WD) hS ?_
 simp only [Act.put]
 refine takeG 7 (.int .u32 AT) hS ?_
 simp only [Act.put]
 refine wpAnyH_take (i := 8) (v := .int .i64 AT) rfl (by kernel_rfl) (by kernel_rfl) (by kernel_rfl) (fun _ _ _ h => h) (Or.inl ⟨by rfl, fun w hSw => ?_⟩) hS ?_
 ·dsimp only at hSw; go_simp; rw [IntKind.wrap_i64]; omega
 simp only [Act.put]
 refine readyH 6 fun K hK => ?_
 go_simp
 go_wp2_with fail
 refine (K107.out w1.drew (H1.out.2.keep (Below.refl _ _).drew)).mono ?_
 rintro e w2 ⟨hR2, hb2⟩
 have hb2 : Below w1.heap.size w1 w2 := below_tr (Below.refl _ _).drew hb2
 have d2 := keep_cell hb2 d2
 have H2 : Hid (w.grownBy w2 (some b) /\ MS M c cs g b w2) := ⟨gb_trans H1.out.1 (grown_of hb2), H1.out.2.keep hb2⟩
 clear hb2 K107 H1
 cases R with
 | error ev =>
  obtain rfl : e = .panicked (thrownE ev) := hR2
  clear HV
  go_wp2_with fail
  exact ⟨rfl, H2.out.1, rfl, _, _, H2.out.2.m, HM.out.2.2.1.len⟩
 | ok v =>
 obtain rfl : e = .returned (.int .u32 v) := hR2
 have hv := HV.out v rfl
 clear HV
 go_wp2_with fail
 refine hK.out _ _ d2 (fun _ => ?_)
 clear hK K
 obtain ⟨VV, hVV⟩ : ∃ x, x = Wd.layN true t v (Wd.aheadN AT) := ⟨_, rfl⟩
 have KS : Hid (∀ wx, Calls Tryz.prog 108 #[.int .u32 t, .int .u32 v, .int .i64 AT] wx fun e w' => e = .returned (.int .u32 VV) /\ Below wx.heap.size wx w') := by rw [hVV]; exact fun wx => Wd.loadLeft13 t v AT LA.out.2.2.2 hv wx
 have HVV : Hid (VV = Wd.layN true t v (Wd.aheadN AT)) := hVV
 clear hVV
 refine readyH 9 fun K hK => ?_
 go_simp
 go_wp2_with fail
 refine (KS.out _).mono ?_
 rintro e w3 ⟨rfl, hb3⟩
 have d2 := keep_cell hb3 d2
 have H3 : Hid (w.grownBy w3 (some b) /\ MS M c cs g b w3) := ⟨gb_trans H2.out.1 (grown_of hb3), H2.out.2.keep hb3⟩
 clear hb3 H2 KS
 go_wp2_with fail
 refine hK.out _ _ d2 (fun _ => ?_)
 clear hK K
 have K80 : Hid (∀ wx, Mb c g b wx -> Calls Tryz.prog 80 #[.pointer (some ⟨b, 0, none⟩), .int .i64 rt, .int .u32 VV] wx fun e w' => e = .returned (.tuple #[]) /\ Mb (c.put rt VV) g b w' /\ wx.grownBy w' (some b)) := fun wx hx => set80 c g b rt VV HM.out.2.2.1 hrt wx hx
 refine readyH 10 fun K hK => ?_
 go_simp
 go_wp2_with fail
 refine (K80.out _ H3.out.2.m).mono ?_
 rintro e w4 ⟨rfl, hm4, hg4⟩
 have d4 := row_cell hg4 d2 (show w.heap.size ≠ b by have := HM.out.2.2.2.2; omega)
 have H4 : Hid (w.grownBy w4 (some b) /\ MS M (c.put rt VV) cs g b w4) := ⟨gb_trans H3.out.1 hg4, H3.out.2.to HM.out.2.2.1.len hg4 hm4⟩
 clear hm4 hg4
 go_wp2_with fail
 refine hK.out _ _ d4 (fun _ => ?_)
 clear hK K
 refine wpAnyH_done (by kernel_rfl) ?_ _
 go_wp2
 simp [bodyPost, results, Tryz.results88]
 refine ⟨H4.out.1, rfl, ?_⟩
 have := H4.out.2
 rw [HVV.out] at this
 exact this
set_option maxHeartbeats 1000000 in
theorem reach88_lwr (M : Mem) (c : Cp) (cs : List (Nat × Int)) (g : Gv) (b : Nat) (name : ByteArray) (rs sa : Int) (rt rd imm s t SM A AT WD : Nat) (hc : c.Ok) (hrt : rt < 32) (hs : s < 4294967296) (ht : t < 4294967296) (w : World) (h : MS M c cs g b w) (hG : Good M cs)
  (hK : ∀ w, Calls Tryz.prog 79 #[.agg #[.string name, .int .i64 rs, .int .i64 rt, .int .i64 rd, .int .i64 sa, .int .u32 imm]] w fun e w' => e = .returned (.int .u32 SM) /\ Below w.heap.size w w')
  (eA : A = (s + SM) % 4294967296) (eAT : AT = A % 4) (eWD : WD = A - AT) (h0 : (name.toList == [108, 98]) = false) (h1 : (name.toList == [108, 98, 117]) = false) (h2 : (name.toList == [108, 104]) = false) (h3 : (name.toList == [108, 104, 117]) = false) (h4 : (name.toList == [108, 119]) = false) (h5 : (name.toList == [108, 108]) = false) (h6 : (name.toList == [108, 119, 108]) = false) (h7 : (name.toList == [108, 119, 114]) = true) :
  Calls Tryz.prog 88 #[.pointer (some ⟨b, 0, none⟩), .agg #[.string name, .int .i64 rs, .int .i64 rt, .int .i64 rd, .int .i64 sa, .int .u32 imm], .int .u32 s, .int .u32 t] w (TellsL M cs g b w (lput (ldR M cs WD 4) c rt (fun v => Wd.layN false t v (Wd.behindN AT)))) := by
 obtain ⟨W, hW, hb, hz, d0, d1, d2, d3, d4, d5⟩ := box6 w (.string name) (.int .i64 rs) (.int .i64 rt) (.int .i64 rd) (.int .i64 sa) (.int .u32 imm) 55
 have HM : Hid (w.grownBy W (some b) /\ MS M c cs g b W /\ c.Ok /\ Good M cs /\ b < w.heap.size) := ⟨grown_of hb, h.keep hb, hc, hG, h.m.lt⟩
 have i1 : ((s : Int) + (SM : Int)) % 4294967296 = (A : Int) := by omega
 have i2 : IntKind.u32.wrap ((s : Int) + (SM : Int)) = (A : Int) := by rw [IntKind.wrap_u32]; exact i1
 have i3 : (A : Int) % 4 = (AT : Int) := by omega
 have i4 : (A : Int).tmod 4 = (AT : Int) := by rw [Int.tmod_eq_emod_of_nonneg (by omega)]; exact i3
 have i5 : ((A : Int) - (AT : Int)) % 4294967296 = (WD : Int) := by omega
 have i6 : IntKind.u32.wrap ((A : Int) - (AT : Int)) = (WD : Int) := by rw [IntKind.wrap_u32]; exact i5
 have i7 : (A : Int) - (AT : Int) = (WD : Int) := by omega
 have LA : Hid (A < 4294967296 /\ WD < 4294967296 /\ AT < 4 /\ t < 4294967296) := by show _ /\ _; omega
 have K79 := hK W
 clear hK eA eAT eWD hs ht h hG hc hb hz
 have K107 : Hid (∀ wx, MS M c cs g b wx -> Calls Tryz.prog 107 #[.pointer (some ⟨b, 0, none⟩), .int .u32 WD, .int .u32 4] wx fun e w' => Says (ldR M cs WD 4) e /\ Below wx.heap.size wx w') := fun wx hx => load107 M c cs g b WD 4 wx HM.out.2.2.1 hx HM.out.2.2.2.1 LA.out.2.1 (by decide)
 have HV : Hid (∀ v, ldR M cs WD 4 = .ok v -> v < 4294967296) := fun v hv => ld_lt hv
 generalize ldR M cs WD 4 = R at K107 HV |-
 go_enter Tryz.func88, Tryz.ntmps88
 go_wp2_with fail
 refine K79.mono ?_
 rintro e w1 ⟨rfl, hb1⟩
 have d0 := keep_cell hb1 d0
 have d2 := keep_cell hb1 d2
 have H1 : Hid (w.grownBy w1 (some b) /\ MS M c cs g b w1) := ⟨gb_trans HM.out.1 (grown_of hb1), HM.out.2.1.keep hb1⟩
 clear hb1 K79 d1 d3 d4 d5 hW
 have hATI : (AT : Int) < 4 := by have := LA.out.2.2.1; omega
 go_wp2
 refine wp_region_held_drew (S := fun w' => w'.cell? ⟨w.heap.size, 2, none⟩ = some (.int .i64 rt)) (by kernel_rfl) (by simp [d2]) (fun hS => ?_)
 refine takeG 0 (.pointer (some ⟨b, 0, none⟩)) hS ?_
 simp only [Act.put]
 refine takeG 1 (.pointer (some ⟨w.heap.size, 2, none⟩)) hS ?_
 simp only [Act.put]
 refine takeG 2 (.int .i64 rt) hS ?_
 simp only [Act.put]
 refine takeG 3 (.int .u32 t) hS ?_
 simp only [Act.put]
 refine takeG 4 (.pointer (some ⟨b, 0, none⟩)) hS ?_
 simp only [Act.put]
 refine takeG 5 (.int .u32 WD) hS ?_
 simp only [Act.put]
 refine takeG 7 (.int .u32 AT) hS ?_
 simp only [Act.put]
 refine wpAnyH_take (i := 8) (v := .int .i64 AT) rfl (by kernel_rfl) (by kernel_rfl) (by kernel_rfl) (fun _ _ _ h => h) (Or.inl ⟨by rfl, fun w hSw => ?_⟩) hS ?_
 ·dsimp only at hSw; go_simp; rw [IntKind.wrap_i64]; omega
 simp only [Act.put]
 refine readyH 6 fun K hK => ?_
 go_simp
 go_wp2_with fail
 refine (K107.out w1.drew (H1.out.2.keep (Below.refl _ _).drew)).mono ?_
 rintro e w2 ⟨hR2, hb2⟩
 have hb2 : Below w1.heap.size w1 w2 := below_tr (Below.refl _ _).drew hb2
 have d2 := keep_cell hb2 d2
 have H2 : Hid (w.grownBy w2 (some b) /\ MS M c cs g b w2) := ⟨gb_trans H1.out.1 (grown_of hb2), H1.out.2.keep hb2⟩
 clear hb2 K107 H1
 cases R with
 | error ev =>
  obtain rfl : e = .panicked (thrownE ev) := hR2
  clear HV
  go_wp2_with fail
  exact ⟨rfl, H2.out.1, rfl, _, _, H2.out.2.m, HM.out.2.2.1.len⟩
 | ok v =>
 obtain rfl : e = .returned (.int .u32 v) := hR2
 have hv := HV.out v rfl
 clear HV
 go_wp2_with fail
 refine hK.out _ _ d2 (fun _ => ?_)
 clear hK K
 obtain ⟨VV, hVV⟩ : ∃ x, x = Wd.layN false t v (Wd.behindN AT) := ⟨_, rfl⟩
 have KS : Hid (∀ wx, Calls Tryz.prog 109 #[.int .u32 t, .int .u32 v, .int .i64 AT] wx fun e w' => e = .returned (.int .u32 VV) /\ Below wx.heap.size wx w') := by rw [hVV]; exact fun wx => Wd.loadRight15 t v AT LA.out.2.2.2 hv wx
 have HVV : Hid (VV = Wd.layN false t v (Wd.behindN AT)) := hVV
 clear hVV
 refine readyH 9 fun K hK => ?_
 go_simp
 go_wp2_with fail
 refine (KS.out _).mono ?_
 rintro e w3 ⟨rfl, hb3⟩
 have d2 := keep_cell hb3 d2
 have H3 : Hid (w.grownBy w3 (some b) /\ MS M c cs g b w3) := ⟨gb_trans H2.out.1 (grown_of hb3), H2.out.2.keep hb3⟩
 clear hb3 H2 KS
 go_wp2_with fail
 refine hK.out _ _ d2 (fun _ => ?_)
 clear hK K
 have K80 : Hid (∀ wx, Mb c g b wx -> Calls Tryz.prog 80 #[.pointer (some ⟨b, 0, none⟩), .int .i64 rt, .int .u32 VV] wx fun e w' => e = .returned (.tuple #[]) /\ Mb (c.put rt VV) g b w' /\ wx.grownBy w' (some b)) := fun wx hx => set80 c g b rt VV HM.out.2.2.1 hrt wx hx
 refine readyH 10 fun K hK => ?_
 go_simp
 go_wp2_with fail
 refine (K80.out _ H3.out.2.m).mono ?_
 rintro e w4 ⟨rfl, hm4, hg4⟩
 have d4 := row_cell hg4 d2 (show w.heap.size ≠ b by have := HM.out.2.2.2.2; omega)
 have H4 : Hid (w.grownBy w4 (some b) /\ MS M (c.put rt VV) cs g b w4) := ⟨gb_trans H3.out.1 hg4, H3.out.2.to HM.out.2.2.1.len hg4 hm4⟩
 clear hm4 hg4
 go_wp2_with fail
 refine hK.out _ _ d4 (fun _ => ?_)
 clear hK K
 refine wpAnyH_done (by kernel_rfl) ?_ _
 go_wp2
 simp [bodyPost, results, Tryz.results88]
 refine ⟨H4.out.1, rfl, ?_⟩
 have := H4.out.2
 rw [HVV.out] at this
 exact this
def llR (r : Except Ev Nat) (c : Cp) (k a : Nat) : Except Ev Cp := match r with
 | .ok v => .ok { c.put k v with link := a, linked := true }
 | .error e => .error e
set_option maxHeartbeats 1000000 in
theorem reach88_ll (M : Mem) (c : Cp) (cs : List (Nat × Int)) (g : Gv) (b : Nat) (name : ByteArray) (rs sa : Int) (rt rd imm s t SM A AT WD : Nat) (hc : c.Ok) (hrt : rt < 32) (hs : s < 4294967296) (ht : t < 4294967296) (w : World) (h : MS M c cs g b w) (hG : Good M cs)
  (hK : ∀ w, Calls Tryz.prog 79 #[.agg #[.string name, .int .i64 rs, .int .i64 rt, .int .i64 rd, .int .i64 sa, .int .u32 imm]] w fun e w' => e = .returned (.int .u32 SM) /\ Below w.heap.size w w')
  (eA : A = (s + SM) % 4294967296) (eAT : AT = A % 4) (eWD : WD = A - AT) (h0 : (name.toList == [108, 98]) = false) (h1 : (name.toList == [108, 98, 117]) = false) (h2 : (name.toList == [108, 104]) = false) (h3 : (name.toList == [108, 104, 117]) = false) (h4 : (name.toList == [108, 119]) = false) (h5 : (name.toList == [108, 108]) = true) :
  Calls Tryz.prog 88 #[.pointer (some ⟨b, 0, none⟩), .agg #[.string name, .int .i64 rs, .int .i64 rt, .int .i64 rd, .int .i64 sa, .int .u32 imm], .int .u32 s, .int .u32 t] w (TellsL M cs g b w (llR (ldR M cs A 4) c rt A)) := by
 obtain ⟨W, hW, hb, hz, d0, d1, d2, d3, d4, d5⟩ := box6 w (.string name) (.int .i64 rs) (.int .i64 rt) (.int .i64 rd) (.int .i64 sa) (.int .u32 imm) 55
 have HM : Hid (w.grownBy W (some b) /\ MS M c cs g b W /\ c.Ok /\ Good M cs /\ b < w.heap.size) := ⟨grown_of hb, h.keep hb, hc, hG, h.m.lt⟩
 have i1 : ((s : Int) + (SM : Int)) % 4294967296 = (A : Int) := by omega
 have i2 : IntKind.u32.wrap ((s : Int) + (SM : Int)) = (A : Int) := by rw [IntKind.wrap_u32]; exact i1
 have i3 : (A : Int) % 4 = (AT : Int) := by omega
 have i4 : (A : Int).tmod 4 = (AT : Int) := by rw [Int.tmod_eq_emod_of_nonneg (by omega)]; exact i3
 have i5 : ((A : Int) - (AT : Int)) % 4294967296 = (WD : Int) := by omega
 have i6 : IntKind.u32.wrap ((A : Int) - (AT : Int)) = (WD : Int) := by rw [IntKind.wrap_u32]; exact i5
 have i7 : (A : Int) - (AT : Int) = (WD : Int) := by omega
 have LA : Hid (A < 4294967296 /\ WD < 4294967296 /\ AT < 4 /\ t < 4294967296) := by show _ /\ _; omega
 have K79 := hK W
 clear hK eA eAT eWD hs ht h hG hc hb hz
 have K107 : Hid (∀ wx, MS M c cs g b wx -> Calls Tryz.prog 107 #[.pointer (some ⟨b, 0, none⟩), .int .u32 A, .int .u32 4] wx fun e w' => Says (ldR M cs A 4) e /\ Below wx.heap.size wx w') := fun wx hx => load107 M c cs g b A 4 wx HM.out.2.2.1 hx HM.out.2.2.2.1 LA.out.1 (by decide)
 have HV : Hid (∀ v, ldR M cs A 4 = .ok v -> v < 4294967296) := fun v hv => ld_lt hv
 generalize ldR M cs A 4 = R at K107 HV |-
 go_enter Tryz.func88, Tryz.ntmps88
 go_wp2_with fail
 refine K79.mono ?_
 rintro e w1 ⟨rfl, hb1⟩
 have d0 := keep_cell hb1 d0
 have d2 := keep_cell hb1 d2
 have H1 : Hid (w.grownBy w1 (some b) /\ MS M c cs g b w1) := ⟨gb_trans HM.out.1 (grown_of hb1), HM.out.2.1.keep hb1⟩
 clear hb1 K79 d1 d3 d4 d5 hW
 go_wp2
 refine wp_region_held_drew (S := fun w' => w'.cell? ⟨w.heap.size, 2, none⟩ = some (.int .i64 rt)) (by kernel_rfl) (by simp [d2]) (fun hS => ?_)
 refine takeG 0 (.pointer (some ⟨b, 0, none⟩)) hS ?_
 simp only [Act.put]
 refine takeG 1 (.pointer (some ⟨w.heap.size, 2, none⟩)) hS ?_
 simp only [Act.put]
 refine takeG 2 (.int .i64 rt) hS ?_
 simp only [Act.put]
 refine takeG 3 (.pointer (some ⟨b, 0, none⟩)) hS ?_
 simp only [Act.put]
 refine takeG 4 (.int .u32 A) hS ?_
 simp only [Act.put]
 refine readyH 5 fun K hK => ?_
 go_simp
 go_wp2_with fail
 refine (K107.out w1.drew (H1.out.2.keep (Below.refl _ _).drew)).mono ?_
 rintro e w2 ⟨hR2, hb2⟩
 have hb2 : Below w1.heap.size w1 w2 := below_tr (Below.refl _ _).drew hb2
 have d2 := keep_cell hb2 d2
 have H2 : Hid (w.grownBy w2 (some b) /\ MS M c cs g b w2) := ⟨gb_trans H1.out.1 (grown_of hb2), H1.out.2.keep hb2⟩
 clear hb2 K107 H1
 cases R with
 | error ev =>
  obtain rfl : e = .panicked (thrownE ev) := hR2
  clear HV
  go_wp2_with fail
  exact ⟨rfl, H2.out.1, rfl, _, _, H2.out.2.m, HM.out.2.2.1.len⟩
 | ok v =>
 obtain rfl : e = .returned (.int .u32 v) := hR2
 have hv := HV.out v rfl
 clear HV
 go_wp2_with fail
 refine hK.out _ _ d2 (fun _ => ?_)
 clear hK K
 have K80 : Hid (∀ wx, Mb c g b wx -> Calls Tryz.prog 80 #[.pointer (some ⟨b, 0, none⟩), .int .i64 rt, .int .u32 v] wx fun e w' => e = .returned (.tuple #[]) /\ Mb (c.put rt v) g b w' /\ wx.grownBy w' (some b)) := fun wx hx => set80 c g b rt v HM.out.2.2.1 hrt wx hx
 refine readyH 6 fun K hK => ?_
 go_simp
 go_wp2_with fail
 refine (K80.out _ H2.out.2.m).mono ?_
 rintro e w4 ⟨rfl, hm4, hg4⟩
 have d4 := row_cell hg4 d2 (show w.heap.size ≠ b by have := HM.out.2.2.2.2; omega)
 have H4 : Hid (w.grownBy w4 (some b) /\ MS M (c.put rt v) cs g b w4) := ⟨gb_trans H2.out.1 hg4, H2.out.2.to HM.out.2.2.1.len hg4 hm4⟩
 clear hm4 hg4
 go_wp2_with fail
 refine hK.out _ _ d4 (fun _ => ?_)
 clear hK K
 refine wpAnyH_done (by kernel_rfl) ?_ _
 have hl : (c.put rt v).r.length = 32 := (Cp.put_ok HM.out.2.2.1 rt v hv).len
 have hM4 := H4.out.2
 obtain ⟨_, _, _, _, _, c37, _, _, _, _, _⟩ := hM4.m.fields hl
 have z37 := hM4.m.frozen 37
 have hm5 := hM4.m.setLink hl A
 have hg5 := grown_setk w4 b 37 (.int .u32 A)
 obtain ⟨W5, hW5⟩ : ∃ z, w4.setCell ⟨b, 37, none⟩ (.int .u32 A) = z := ⟨_, rfl⟩
 rw [hW5] at hm5 hg5
 obtain ⟨_, _, _, _, _, _, c38, _, _, _, _⟩ := hm5.fields hl
 have z38 := hm5.frozen 38
 have hm6 := hm5.setLinked hl true
 have hg6 := grown_setk W5 b 38 (.bool true)
 have H6 : Hid (w.grownBy (W5.setCell ⟨b, 38, none⟩ (.bool true)) (some b) /\ MS M { c.put rt v with link := A, linked := true } cs g b (W5.setCell ⟨b, 38, none⟩ (.bool true))) := ⟨gb_trans (gb_trans H4.out.1 hg5) hg6, hM4.to hl (gb_trans hg5 hg6) hm6⟩
 clear hM4 hm5 hg5 hm6 hg6 H4 hl
 generalize (c.put rt v).link = l0 at c37
 generalize (c.put rt v).linked = l1 at c38
 go_wp2
 simp [bodyPost, results, Tryz.results88]
 exact ⟨H6.out.1, rfl, H6.out.2⟩
end Go.Proofs.YtimfipkbddpdmaaGreatDoor
