import Derived.Test.YtimfipkbddpdmaaGreatDoorVals
import Derived.Test.YtimfipkbddpdmaaGreatDoorSm
import Derived.Test.YtimfipkbddpdmaaGreatDoorXa
import Derived.Test.YtimfipkbddpdmaaGreatDoorXh
set_option linter.unusedVariables false
set_option linter.unusedSimpArgs false
set_option maxRecDepth 100000
open Go Go.RowKit
namespace Go.Proofs.YtimfipkbddpdmaaGreatDoor
theorem takeG {P : Program} {md : Region.Mode} {ops : Array Oper} {Q : Exit -> Act -> World -> Prop} {S : World -> Prop} {fuel : Nat} {listed : Array Bool} {a : Act} {w : World} {o : Oper} (i : Nat) (v : Value) (hS : S w) (h : wpAnyH P md ops Q S fuel (listed.setIfInBounds i true) (a.put o.dst v) w)
  (ho : ops[i]? = some o := by exact rfl) (hs : Region.noSelect ops = true := by kernel_rfl) (hf : Region.free md ops listed i = true := by kernel_rfl) (hr : (Region.ready md ops listed).contains i = true := by kernel_rfl)
  (hQ : ∀ c a w, Q (.panic c) (a.put o.dst v) w -> Q (.panic c) a w := by exact fun _ _ _ h => h)
  (hy : YieldsIf P ops S o v a := by (refine Or.inl ⟨by rfl, ?_⟩; intro w hSw; (try dsimp only at hSw); first | (go_simp; done) | (obtain ⟨s0, s1, s2, s3, s4⟩ := hSw; go_simp; done) | (obtain ⟨⟨s0, s1, s2, s3, s4, s5⟩, sm⟩ := hSw; go_simp; done) | (obtain ⟨s0, s1, s2, s3, s4, s5⟩ := hSw; go_simp; done))) : wpAnyH P md ops Q S (fuel + 1) listed a w :=
 wpAnyH_take ho hs hf hr hQ hy hS h
def lput (r : Except Ev Nat) (c : Cp) (k : Nat) (f : Nat -> Nat) : Except Ev Cp := match r with
 | .ok v => .ok (c.put k (f v))
 | .error e => .error e
theorem ld_lt {M : Mem} {cs : List (Nat × Int)} {a n v : Nat} (h : ldR M cs a n = .ok v) : v < 4294967296 := by
 unfold ldR at h
 split at h
 ·split at h
  ·injection h with h; rw [<- h]; exact Nat.mod_lt _ (by decide)
  ·injection h
 ·injection h
def TellsL (M : Mem) (cs : List (Nat × Int)) (g : Gv) (b : Nat) (w : World) (r : Except Ev Cp) (e : Ending) (w' : World) : Prop := w.grownBy w' (some b) /\ match r with
 | .ok c => e = .returned (.tuple #[]) /\ MS M c cs g b w'
 | .error ev => Thrown b w' ev e
set_option maxHeartbeats 1000000 in
theorem reach88_lb (M : Mem) (c : Cp) (cs : List (Nat × Int)) (g : Gv) (b : Nat) (name : ByteArray) (rs sa : Int) (rt rd imm s t SM A AT WD : Nat) (hc : c.Ok) (hrt : rt < 32) (hs : s < 4294967296) (ht : t < 4294967296) (w : World) (h : MS M c cs g b w) (hG : Good M cs)
  (hK : ∀ w, Calls Tryz.prog 79 #[.agg #[.string name, .int .i64 rs, .int .i64 rt, .int .i64 rd, .int .i64 sa, .int .u32 imm]] w fun e w' => e = .returned (.int .u32 SM) /\ Below w.heap.size w w')
  (eA : A = (s + SM) % 4294967296) (eAT : AT = A % 4) (eWD : WD = A - AT) (h0 : (name.toList == [108, 98]) = true) :
  Calls Tryz.prog 88 #[.pointer (some ⟨b, 0, none⟩), .agg #[.string name, .int .i64 rs, .int .i64 rt, .int .i64 rd, .int .i64 sa, .int .u32 imm], .int .u32 s, .int .u32 t] w (TellsL M cs g b w (lput (ldR M cs A 1) c rt (fun v => Sw.sextI v 8))) := by
 obtain ⟨W, hW, hb, hz, d0, d1, d2, d3, d4, d5⟩ := box6 w (.string name) (.int .i64 rs) (.int .i64 rt) (.int .i64 rd) (.int .i64 sa) (.int .u32 imm) 55
 have HM : Hid (w.grownBy W (some b) /\ MS M c cs g b W /\ c.Ok /\ Good M cs /\ b < w.heap.size) := ⟨grown_of hb, h.keep hb, hc, hG, h.m.lt⟩
 have i1 : ((s : Int) + (SM : Int)) % 4294967296 = (A : Int) := by omega
 have i2 : IntKind.u32.wrap ((s : Int) + (SM : Int)) = (A : Int) := by rw [IntKind.wrap_u32]; exact i1
 have i3 : (A : Int) % 4 = (AT : Int) := by omega
 have i4 : (A : Int).tmod 4 = (AT : Int) := by rw [Int.tmod_eq_emod_of_nonneg (by omega)]; exact i3
 have i5 : ((A : Int) - (AT : Int)) % 4294967296 = (WD : Int) := by omega
 have i6 : IntKind.u32.wrap ((A : Int) - (AT : Int)) = (WD : Int) := by rw [IntKind.wrap_u32]; exact i5
 have i7 : (A : Int) - (AT : Int) = (WD : Int) := by omega
 have LA : Hid (A < 4294967296 /\ WD < 4294967296 /\ AT < 4 /\ t < 4294967296) := by show _ /\ _; omega
 have K79 := hK W
 clear hK eA eAT eWD hs ht h hG hc hb hz
 have K107 : Hid (∀ wx, MS M c cs g b wx -> Calls Tryz.prog 107 #[.pointer (some ⟨b, 0, none⟩), .int .u32 A, .int .u32 1] wx fun e w' => Says (ldR M cs A 1) e /\ Below wx.heap.size wx w') := fun wx hx => load107 M c cs g b A 1 wx HM.out.2.2.1 hx HM.out.2.2.2.1 LA.out.1 (by decide)
 have HV : Hid (∀ v, ldR M cs A 1 = .ok v -> v < 4294967296) := fun v hv => ld_lt hv
 generalize ldR M cs A 1 = R at K107 HV |-
 go_enter Tryz.func88, Tryz.ntmps88
 go_wp2_with fail
 refine K79.mono ?_
 rintro e w1 ⟨rfl, hb1⟩
 have d0 := keep_cell hb1 d0
 have d2 := keep_cell hb1 d2
 have H1 : Hid (w.grownBy w1 (some b) /\ MS M c cs g b w1) := ⟨gb_trans HM.out.1 (grown_of hb1), HM.out.2.1.keep hb1⟩
 clear hb1 K79 d1 d3 d4 d5 hW
 go_wp2
 refine wp_region_held_drew (S := fun w' => w'.cell? ⟨w.heap.size, 2, none⟩ = some (.int .i64 rt)) (by kernel_rfl) (by simp [d2]) (fun hS => ?_)
 refine takeG 0 (.pointer (some ⟨b, 0, none⟩)) hS ?_
 simp only [Act.put]
 refine takeG 1 (.pointer (some ⟨w.heap.size, 2, none⟩)) hS ?_
 simp only [Act.put]
 refine takeG 2 (.int .i64 rt) hS ?_
 simp only [Act.put]
 refine takeG 3 (.pointer (some ⟨b, 0, none⟩)) hS ?_
 simp only [Act.put]
 refine takeG 4 (.int .u32 A) hS ?_
 simp only [Act.put]
 refine readyH 5 fun K hK => ?_
 go_simp
 go_wp2_with fail
 refine (K107.out w1.drew (H1.out.2.keep (Below.refl _ _).drew)).mono ?_
 rintro e w2 ⟨hR2, hb2⟩
 have hb2 : Below w1.heap.size w1 w2 := below_tr (Below.refl _ _).drew hb2
 have d2 := keep_cell hb2 d2
 have H2 : Hid (w.grownBy w2 (some b) /\ MS M c cs g b w2) := ⟨gb_trans H1.out.1 (grown_of hb2), H1.out.2.keep hb2⟩
 clear hb2 K107 H1
 cases R with
 | error ev =>
  obtain rfl : e = .panicked (thrownE ev) := hR2
  clear HV
  go_wp2_with fail
  exact ⟨rfl, H2.out.1, rfl, _, _, H2.out.2.m, HM.out.2.2.1.len⟩
 | ok v =>
 obtain rfl : e = .returned (.int .u32 v) := hR2
 have hv := HV.out v rfl
 clear HV
 go_wp2_with fail
 refine hK.out _ _ d2 (fun _ => ?_)
 clear hK K
 obtain ⟨VV, hVV⟩ : ∃ x, x = Sw.sextI v 8 := ⟨_, rfl⟩
 have KS : Hid (∀ wx, Calls Tryz.prog 100 #[.int .u32 v, .int .i64 8] wx fun e w' => e = .returned (.int .u32 VV) /\ w' = wx) := by rw [hVV]; exact fun wx => Sw.sext_any v 8 wx
 have HVV : Hid (VV = Sw.sextI v 8) := hVV
 clear hVV
 refine readyH 6 fun K hK => ?_
 go_simp
 go_wp2_with fail
 refine (KS.out _).mono ?_
 rintro e w3 ⟨rfl, rfl⟩
 go_wp2_with fail
 refine hK.out _ _ d2 (fun _ => ?_)
 clear hK K
 have K80 : Hid (∀ wx, Mb c g b wx -> Calls Tryz.prog 80 #[.pointer (some ⟨b, 0, none⟩), .int .i64 rt, .int .u32 VV] wx fun e w' => e = .returned (.tuple #[]) /\ Mb (c.put rt VV) g b w' /\ wx.grownBy w' (some b)) := fun wx hx => set80 c g b rt VV HM.out.2.2.1 hrt wx hx
 refine readyH 7 fun K hK => ?_
 go_simp
 go_wp2_with fail
 refine (K80.out _ H2.out.2.m).mono ?_
 rintro e w4 ⟨rfl, hm4, hg4⟩
 have d4 := row_cell hg4 d2 (show w.heap.size ≠ b by have := HM.out.2.2.2.2; omega)
 have H4 : Hid (w.grownBy w4 (some b) /\ MS M (c.put rt VV) cs g b w4) := ⟨gb_trans H2.out.1 hg4, H2.out.2.to HM.out.2.2.1.len hg4 hm4⟩
 clear hm4 hg4
 go_wp2_with fail
 refine hK.out _ _ d4 (fun _ => ?_)
 clear hK K
 refine wpAnyH_done (by kernel_rfl) ?_ _
 go_wp2
 simp [bodyPost, results, Tryz.results88]
 refine ⟨H4.out.1, rfl, ?_⟩
 have := H4.out.2
 rw [HVV.out] at this
 exact this
set_option maxHeartbeats 1000000 in
theorem reach88_lh (M : Mem) (c : Cp) (cs : List (Nat × Int)) (g : Gv) (b : Nat) (name : ByteArray) (rs sa : Int) (rt rd imm s t SM A AT WD : Nat) (hc : c.Ok) (hrt : rt < 32) (hs : s < 4294967296) (ht : t < 4294967296) (w : World) (h : MS M c cs g b w) (hG : Good M cs)
  (hK : ∀ w, Calls Tryz.prog 79 #[.agg #[.string name, .int .i64 rs, .int .i64 rt, .int .i64 rd, .int .i64 sa, .int .u32 imm]] w fun e w' => e = .returned (.int .u32 SM) /\ Below w.heap.size w w')
  (eA : A = (s + SM) % 4294967296) (eAT : AT = A % 4) (eWD : WD = A - AT) (h0 : (name.toList == [108, 98]) = false) (h1 : (name.toList == [108, 98, 117]) = false) (h2 : (name.toList == [108, 104]) = true) :
  Calls Tryz.prog 88 #[.pointer (some ⟨b, 0, none⟩), .agg #[.string name, .int .i64 rs, .int .i64 rt, .int .i64 rd, .int .i64 sa, .int .u32 imm], .int .u32 s, .int .u32 t] w (TellsL M cs g b w (lput (ldR M cs A 2) c rt (fun v => Sw.sextI v 16))) := by
 obtain ⟨W, hW, hb, hz, d0, d1, d2, d3, d4, d5⟩ := box6 w (.string name) (.int .i64 rs) (.int .i64 rt) (.int .i64 rd) (.int .i64 sa) (.int .u32 imm) 55
 have HM : Hid (w.grownBy W (some b) /\ MS M c cs g b W /\ c.Ok /\ Good M cs /\ b < w.heap.size) := ⟨grown_of hb, h.keep hb, hc, hG, h.m.lt⟩
 have i1 : ((s : Int) + (SM : Int)) % 4294967296 = (A : Int) := by omega
 have i2 : IntKind.u32.wrap ((s : Int) + (SM : Int)) = (A : Int) := by rw [IntKind.wrap_u32]; exact i1
 have i3 : (A : Int) % 4 = (AT : Int) := by omega
 have i4 : (A : Int).tmod 4 = (AT : Int) := by rw [Int.tmod_eq_emod_of_nonneg (by omega)]; exact i3
 have i5 : ((A : Int) - (AT : Int)) % 4294967296 = (WD : Int) := by omega
 have i6 : IntKind.u32.wrap ((A : Int) - (AT : Int)) = (WD : Int) := by rw [IntKind.wrap_u32]; exact i5
 have i7 : (A : Int) - (AT : Int) = (WD : Int) := by omega
 have LA : Hid (A < 4294967296 /\ WD < 4294967296 /\ AT < 4 /\ t < 4294967296) := by show _ /\ _; omega
 have K79 := hK W
 clear hK eA eAT eWD hs ht h hG hc hb hz
 have K107 : Hid (∀ wx, MS M c cs g b wx -> Calls Tryz.prog 107 #[.pointer (some ⟨b, 0, none⟩), .int .u32 A, .int .u32 2] wx fun e w' => Says (ldR M cs A 2) e /\ Below wx.heap.size wx w') := fun wx hx => load107 M c cs g b A 2 wx HM.out.2.2.1 hx HM.out.2.2.2.1 LA.out.1 (by decide)
 have HV : Hid (∀ v, ldR M cs A 2 = .ok v -> v < 4294967296) := fun v hv => ld_lt hv
 generalize ldR M cs A 2 = R at K107 HV |-
 go_enter Tryz.func88, Tryz.ntmps88
 go_wp2_with fail
 refine K79.mono ?_
 rintro e w1 ⟨rfl, hb1⟩
 have d0 := keep_cell hb1 d0
 have d2 := keep_cell hb1 d2
 have H1 : Hid (w.grownBy w1 (some b) /\ MS M c cs g b w1) := ⟨gb_trans HM.out.1 (grown_of hb1), HM.out.2.1.keep hb1⟩
 clear hb1 K79 d1 d3 d4 d5 hW
 go_wp2
 refine wp_region_held_drew (S := fun w' => w'.cell? ⟨w.heap.size, 2, none⟩ = some (.int .i64 rt)) (by kernel_rfl) (by simp [d2]) (fun hS => ?_)
 refine takeG 0 (.pointer (some ⟨b, 0, none⟩)) hS ?_
 simp only [Act.put]
 refine takeG 1 (.pointer (some ⟨w.heap.size, 2, none⟩)) hS ?_
 simp only [Act.put]
 refine takeG 2 (.int .i64 rt) hS ?_
 simp only [Act.put]
 refine takeG 3 (.pointer (some ⟨b, 0, none⟩)) hS ?_
 simp only [Act.put]
 refine takeG 4 (.int .u32 A) hS ?_
 simp only [Act.put]
 refine readyH 5 fun K hK => ?_
 go_simp
 go_wp2_with fail
 refine (K107.out w1.drew (H1.out.2.keep (Below.refl _ _).drew)).mono ?_
 rintro e w2 ⟨hR2, hb2⟩
 have hb2 : Below w1.heap.size w1 w2 := below_tr (Below.refl _ _).drew hb2
 have d2 := keep_cell hb2 d2
 have H2 : Hid (w.grownBy w2 (some b) /\ MS M c cs g b w2) := ⟨gb_trans H1.out.1 (grown_of hb2), H1.out.2.keep hb2⟩
 clear hb2 K107 H1
 cases R with
 | error ev =>
  obtain rfl : e = .panicked (thrownE ev) := hR2
  clear HV
  go_wp2_with fail
  exact ⟨rfl, H2.out.1, rfl, _, _, H2.out.2.m, HM.out.2.2.1.len⟩
 | ok v =>
 obtain rfl : e = .returned (.int .u32 v) := hR2
 have hv := HV.out v rfl
 clear HV
 go_wp2_with fail
 refine hK.out _ _ d2 (fun _ => ?_)
 clear hK K
 obtain ⟨VV, hVV⟩ : ∃ x, x = Sw.sextI v 16 := ⟨_, rfl⟩
 have KS : Hid (∀ wx, Calls Tryz.prog 100 #[.int .u32 v, .int .i64 16] wx fun e w' => e = .returned (.int .u32 VV) /\ w' = wx) := by rw [hVV]; exact fun wx => Sw.sext_any v 16 wx
 have HVV : Hid (VV = Sw.sextI v 16) := hVV
 clear hVV
 refine readyH 6 fun K hK => ?_
 go_simp
 go_wp2_with fail
 refine (KS.out _).mono ?_
 rintro e w3 ⟨rfl, rfl⟩
 go_wp2_with fail
 refine hK.out _ _ d2 (fun _ => ?_)
 clear hK K
 have K80 : Hid (∀ wx, Mb c g b wx -> Calls Tryz.prog 80 #[.pointer (some ⟨b, 0, none⟩), .int .i64 rt, .int .u32 VV] wx fun e w' => e = .returned (.tuple #[]) /\ Mb (c.put rt VV) g b w' /\ wx.grownBy w' (some b)) := fun wx hx => set80 c g b rt VV HM.out.2.2.1 hrt wx hx
 refine readyH 7 fun K hK => ?_
 go_simp
 go_wp2_with fail
 refine (K80.out _ H2.out.2.m).mono ?_
 rintro e w4 ⟨rfl, hm4, hg4⟩
 have d4 := row_cell hg4 d2 (show w.heap.size ≠ b by have := HM.out.2.2.2.2; omega)
 have H4 : Hid (w.grownBy w4 (some b) /\ MS M (c.put rt VV) cs g b w4) := ⟨gb_trans H2.out.1 hg4, H2.out.2.to HM.out.2.2.1.len hg4 hm4⟩
 clear hm4 hg4
 go_wp2_with fail
 refine hK.out _ _ d4 (fun _ => ?_)
 clear hK K
 refine wpAnyH_done (by kernel_rfl) ?_ _
 go_wp2
 simp [bodyPost, results, Tryz.results88]
 refine ⟨H4.out.1, rfl, ?_⟩
 have := H4.out.2
 rw [HVV.out] at this
 exact this
set_option maxHeartbeats 1000000 in
theorem reach88_lbu (M : Mem) (c : Cp) (cs : List (Nat × Int)) (g : Gv) (b : Nat) (name : ByteArray) (rs sa : Int) (rt rd imm s t SM A AT WD : Nat) (hc : c.Ok) (hrt : rt < 32) (hs : s < 4294967296) (ht : t < 4294967296) (w : World) (h : MS M c cs g b w) (hG : Good M cs)
  (hK : ∀ w, Calls Tryz.prog 79 #[.agg #[.string name, .int .i64 rs, .int .i64 rt, .int .i64 rd, .int .i64 sa, .int .u32 imm]] w fun e w' => e = .returned (.int .u32 SM) /\ Below w.heap.size w w')
  (eA : A = (s + SM) % 4294967296) (eAT : AT = A % 4) (eWD : WD = A - AT) (h0 : (name.toList == [108, 98]) = false) (h1 : (name.toList == [108, 98, 117]) = true) :
  Calls Tryz.prog 88 #[.pointer (some ⟨b, 0, none⟩), .agg #[.string name, .int .i64 rs, .int .i64 rt, .int .i64 rd, .int .i64 sa, .int .u32 imm], .int .u32 s, .int .u32 t] w (TellsL M cs g b w (lput (ldR M cs A 1) c rt (fun v => v))) := by
 obtain ⟨W, hW, hb, hz, d0, d1, d2, d3, d4, d5⟩ := box6 w (.string name) (.int .i64 rs) (.int .i64 rt) (.int .i64 rd) (.int .i64 sa) (.int .u32 imm) 55
 have HM : Hid (w.grownBy W (some b) /\ MS M c cs g b W /\ c.Ok /\ Good M cs /\ b < w.heap.size) := ⟨grown_of hb, h.keep hb, hc, hG, h.m.lt⟩
 have i1 : ((s : Int) + (SM : Int)) % 4294967296 = (A : Int) := by omega
 have i2 : IntKind.u32.wrap ((s : Int) + (SM : Int)) = (A : Int) := by rw [IntKind.wrap_u32]; exact i1
 have i3 : (A : Int) % 4 = (AT : Int) := by omega
 have i4 : (A : Int).tmod 4 = (AT : Int) := by rw [Int.tmod_eq_emod_of_nonneg (by omega)]; exact i3
 have i5 : ((A : Int) - (AT : Int)) % 4294967296 = (WD : Int) := by omega
 have i6 : IntKind.u32.wrap ((A : Int) - (AT : Int)) = (WD : Int) := by rw [IntKind.wrap_u32]; exact i5
 have i7 : (A : Int) - (AT : Int) = (WD : Int) := by omega
 have LA : Hid (A < 4294967296 /\ WD < 4294967296 /\ AT < 4 /\ t < 4294967296) := by show _ /\ _; omega
 have K79 := hK W
 clear hK eA eAT eWD hs ht h hG hc hb hz
 have K107 : Hid (∀ wx, MS M c cs g b wx -> Calls Tryz.prog 107 #[.pointer (some ⟨b, 0, none⟩), .int .u32 A, .int .u32 1] wx fun e w' => Says (ldR M cs A 1) e /\ Below wx.heap.size wx w') := fun wx hx => load107 M c cs g b A 1 wx HM.out.2.2.1 hx HM.out.2.2.2.1 LA.out.1 (by decide)
 have HV : Hid (∀ v, ldR M cs A 1 = .ok v -> v < 4294967296) := fun v hv => ld_lt hv
 generalize ldR M cs A 1 = R at K107 HV |-
 go_enter Tryz.func88, Tryz.ntmps88
 go_wp2_with fail
 refine K79.mono ?_
 rintro e w1 ⟨rfl, hb1⟩
 have d0 := keep_cell hb1 d0
 have d2 := keep_cell hb1 d2
 have H1 : Hid (w.grownBy w1 (some b) /\ MS M c cs g b w1) := ⟨gb_trans HM.out.1 (grown_of hb1), HM.out.2.1.keep hb1⟩
 clear hb1 K79 d1 d3 d4 d5 hW
 go_wp2
 refine wp_region_held_drew (S := fun w' => w'.cell? ⟨w.heap.size, 2, none⟩ = some (.int .i64 rt)) (by kernel_rfl) (by simp [d2]) (fun hS => ?_)
 refine takeG 0 (.pointer (some ⟨b, 0, none⟩)) hS ?_
 simp only [Act.put]
 refine takeG 1 (.pointer (some ⟨w.heap.size, 2, none⟩)) hS ?_
 simp only [Act.put]
 refine takeG 2 (.int .i64 rt) hS ?_
 simp only [Act.put]
 refine takeG 3 (.pointer (some ⟨b, 0, none⟩)) hS ?_
 simp only [Act.put]
 refine takeG 4 (.int .u32 A) hS ?_
 simp only [Act.put]
 refine readyH 5 fun K hK => ?_
 go_simp
 go_wp2_with fail
 refine (K107.out w1.drew (H1.out.2.keep (Below.refl _ _).drew)).mono ?_
 rintro e w2 ⟨hR2, hb2⟩
 have hb2 : Below w1.heap.size w1 w2 := below_tr (Below.refl _ _).drew hb2
 have d2 := keep_cell hb2 d2
 have H2 : Hid (w.grownBy w2 (some b) /\ MS M c cs g b w2) := ⟨gb_trans H1.out.1 (grown_of hb2), H1.out.2.keep hb2⟩
 clear hb2 K107 H1
 cases R with
 | error ev =>
  obtain rfl : e = .panicked (thrownE ev) := hR2
  clear HV
  go_wp2_with fail
  exact ⟨rfl, H2.out.1, rfl, _, _, H2.out.2.m, HM.out.2.2.1.len⟩
 | ok v =>
 obtain rfl : e = .returned (.int .u32 v) := hR2
 have hv := HV.out v rfl
 clear HV
 go_wp2_with fail
 refine hK.out _ _ d2 (fun _ => ?_)
 clear hK K
 have K80 : Hid (∀ wx, Mb c g b wx -> Calls Tryz.prog 80 #[.pointer (some ⟨b, 0, none⟩), .int .i64 rt, .int .u32 v] wx fun e w' => e = .returned (.tuple #[]) /\ Mb (c.put rt v) g b w' /\ wx.grownBy w' (some b)) := fun wx hx => set80 c g b rt v HM.out.2.2.1 hrt wx hx
 refine readyH 6 fun K hK => ?_
 go_simp
 go_wp2_with fail
 refine (K80.out _ H2.out.2.m).mono ?_
 rintro e w4 ⟨rfl, hm4, hg4⟩
 have d4 := row_cell hg4 d2 (show w.heap.size ≠ b by have := HM.out.2.2.2.2; omega)
 have H4 : Hid (w.grownBy w4 (some b) /\ MS M (c.put rt v) cs g b w4) := ⟨gb_trans H2.out.1 hg4, H2.out.2.to HM.out.2.2.1.len hg4 hm4⟩
 clear hm4 hg4
 go_wp2_with fail
 refine hK.out _ _ d4 (fun _ => ?_)
 clear hK K
 refine wpAnyH_done (by kernel_rfl) ?_ _
 go_wp2
 simp [bodyPost, results, Tryz.results88]
 exact ⟨H4.out.1, rfl, H4.out.2⟩
set_option maxHeartbeats 1000000 in
theorem reach88_lhu (M : Mem) (c : Cp) (cs : List (Nat × Int)) (g : Gv) (b : Nat) (name : ByteArray) (rs sa : Int) (rt rd imm s t SM A AT WD : Nat) (hc : c.Ok) (hrt : rt < 32) (hs : s < 4294967296) (ht : t < 4294967296) (w : World) (h : MS M c cs g b w) (hG : Good M cs)
  (hK : ∀ w, Calls Tryz.prog 79 #[.agg #[.string name, .int .i64 rs, .int .i64 rt, .int .i64 rd, .int .i64 sa, .int .u32 imm]] w fun e w' => e = .returned (.int .u32 SM) /\ Below w.heap.size w w')
  (eA : A = (s + SM) % 4294967296) (eAT : AT = A % 4) (eWD : WD = A - AT) (h0 : (name.toList == [108, 98]) = false) (h1 : (name.toList == [108, 98, 117]) = false) (h2 : (name.toList == [108, 104]) = false) (h3 : (name.toList == [108, 104, 117]) = true) :
  Calls Tryz.prog 88 #[.pointer (some ⟨b, 0, none⟩), .agg #[.string name, .int .i64 rs, .int .i64 rt, .int .i64 rd, .int .i64 sa, .int .u32 imm], .int .u32 s, .int .u32 t] w (TellsL M cs g b w (lput (ldR M cs A 2) c rt (fun v => v))) := by
 obtain ⟨W, hW, hb, hz, d0, d1, d2, d3, d4, d5⟩ := box6 w (.string name) (.int .i64 rs) (.int .i64 rt) (.int .i64 rd) (.int .i64 sa) (.int .u32 imm) 55
 have HM : Hid (w.grownBy W (some b) /\ MS M c cs g b W /\ c.Ok /\ Good M cs /\ b < w.heap.size) := ⟨grown_of hb, h.keep hb, hc, hG, h.m.lt⟩
 have i1 : ((s : Int) + (SM : Int)) % 4294967296 = (A : Int) := by omega
 have i2 : IntKind.u32.wrap ((s : Int) + (SM : Int)) = (A : Int) := by rw [IntKind.wrap_u32]; exact i1
 have i3 : (A : Int) % 4 = (AT : Int) := by omega
 have i4 : (A : Int).tmod 4 = (AT : Int) := by rw [Int.tmod_eq_emod_of_nonneg (by omega)]; exact i3
 have i5 : ((A : Int) - (AT : Int)) % 4294967296 = (WD : Int) := by omega
 have i6 : IntKind.u32.wrap ((A : Int) - (AT : Int)) = (WD : Int) := by rw [IntKind.wrap_u32]; exact i5
 have i7 : (A : Int) - (AT : Int) = (WD : Int) := by omega
 have LA : Hid (A < 4294967296 /\ WD < 4294967296 /\ AT < 4 /\ t < 4294967296) := by show _ /\ _; omega
 have K79 := hK W
 clear hK eA eAT eWD hs ht h hG hc hb hz
 have K107 : Hid (∀ wx, MS M c cs g b wx -> Calls Tryz.prog 107 #[.pointer (some ⟨b, 0, none⟩), .int .u32 A, .int .u32 2] wx fun e w' => Says (ldR M cs A 2) e /\ Below wx.heap.size wx w') := fun wx hx => load107 M c cs g b A 2 wx HM.out.2.2.1 hx HM.out.2.2.2.1 LA.out.1 (by decide)
 have HV : Hid (∀ v, ldR M cs A 2 = .ok v -> v < 4294967296) := fun v hv => ld_lt hv
 generalize ldR M cs A 2 = R at K107 HV |-
 go_enter Tryz.func88, Tryz.ntmps88
 go_wp2_with fail
 refine K79.mono ?_
 rintro e w1 ⟨rfl, hb1⟩
 have d0 := keep_cell hb1 d0
 have d2 := keep_cell hb1 d2
 have H1 : Hid (w.grownBy w1 (some b) /\ MS M c cs g b w1) := ⟨gb_trans HM.out.1 (grown_of hb1), HM.out.2.1.keep hb1⟩
 clear hb1 K79 d1 d3 d4 d5 hW
 go_wp2
 refine wp_region_held_drew (S := fun w' => w'.cell? ⟨w.heap.size, 2, none⟩ = some (.int .i64 rt)) (by kernel_rfl) (by simp [d2]) (fun hS => ?_)
 refine takeG 0 (.pointer (some ⟨b, 0, none⟩)) hS ?_
 simp only [Act.put]
 refine takeG 1 (.pointer (some ⟨w.heap.size, 2, none⟩)) hS ?_
 simp only [Act.put]
 refine takeG 2 (.int .i64 rt) hS ?_
 simp only [Act.put]
 refine takeG 3 (.pointer (some ⟨b, 0, none⟩)) hS ?_
 simp only [Act.put]
 refine takeG 4 (.int .u32 A) hS ?_
 simp only [Act.put]
 refine readyH 5 fun K hK => ?_
 go_simp
 go_wp2_with fail
 refine (K107.out w1.drew (H1.out.2.keep (Below.refl _ _).drew)).mono ?_
 rintro e w2 ⟨hR2, hb2⟩
 have hb2 : Below w1.heap.size w1 w2 := below_tr (Below.refl _ _).drew hb2
 have d2 := keep_cell hb2 d2
 have H2 : Hid (w.grownBy w2 (some b) /\ MS M c cs g b w2) := ⟨gb_trans H1.out.1 (grown_of hb2), H1.out.2.keep hb2⟩
 clear hb2 K107 H1
 cases R with
 | error ev =>
  obtain rfl : e = .panicked (thrownE ev) := hR2
  clear HV
  go_wp2_with fail
  exact ⟨rfl, H2.out.1, rfl, _, _, H2.out.2.m, HM.out.2.2.1.len⟩
 | ok v =>
 obtain rfl : e = .returned (.int .u32 v) := hR2
 have hv := HV.out v rfl
 clear HV
 go_wp2_with fail
 refine hK.out _ _ d2 (fun _ => ?_)
 clear hK K
 have K80 : Hid (∀ wx, Mb c g b wx -> Calls Tryz.prog 80 #[.pointer (some ⟨b, 0, none⟩), .int .i64 rt, .int .u32 v] wx fun e w' => e = .returned (.tuple #[]) /\ Mb (c.put rt v) g b w' /\ wx.grownBy w' (some b)) := fun wx hx => set80 c g b rt v HM.out.2.2.1 hrt wx hx
 refine readyH 6 fun K hK => ?_
 go_simp
 go_wp2_with fail
 refine (K80.out _ H2.out.2.m).mono ?_
 rintro e w4 ⟨rfl, hm4, hg4⟩
 have d4 := row_cell hg4 d2 (show w.heap.size ≠ b by have := HM.out.2.2.2.2; omega)
 have H4 : Hid (w.grownBy w4 (some b) /\ MS M (c.put rt v) cs g b w4) := ⟨gb_trans H2.out.1 hg4, H2.out.2.to HM.out.2.2.1.len hg4 hm4⟩
 clear hm4 hg4
 go_wp2_with fail
 refine hK.out _ _ d4 (fun _ => ?_)
 clear hK K
 refine wpAnyH_done (by kernel_rfl) ?_ _
 go_wp2
 simp [bodyPost, results, Tryz.results88]
 exact ⟨H4.out.1, rfl, H4.out.2⟩
set_option maxHeartbeats 1000000 in
theorem reach88_lw (M : Mem) (c : Cp) (cs : List (Nat × Int)) (g : Gv) (b : Nat) (name : ByteArray) (rs sa : Int) (rt rd imm s t SM A AT WD : Nat) (hc : c.Ok) (hrt : rt < 32) (hs : s < 4294967296) (ht : t < 4294967296) (w : World) (h : MS M c cs g b w) (hG : Good M cs)
  (hK : ∀ w, Calls Tryz.prog 79 #[.agg #[.string name, .int .i64 rs, .int .i64 rt, .int .i64 rd, .int .i64 sa, .int .u32 imm]] w fun e w' => e = .returned (.int .u32 SM) /\ Below w.heap.size w w')
  (eA : A = (s + SM) % 4294967296) (eAT : AT = A % 4) (eWD : WD = A - AT) (h0 : (name.toList == [108, 98]) = false) (h1 : (name.toList == [108, 98, 117]) = false) (h2 : (name.toList == [108, 104]) = false) (h3 : (name.toList == [108, 104, 117]) = false) (h4 : (name.toList == [108, 119]) = true) :
  Calls Tryz.prog 88 #[.pointer (some ⟨b, 0, none⟩), .agg #[.string name, .int .i64 rs, .int .i64 rt, .int .i64 rd, .int .i64 sa, .int .u32 imm], .int .u32 s, .int .u32 t] w (TellsL M cs g b w (lput (ldR M cs A 4) c rt (fun v => v))) := by
 obtain ⟨W, hW, hb, hz, d0, d1, d2, d3, d4, d5⟩ := box6 w (.string name) (.int .i64 rs) (.int .i64 rt) (.int .i64 rd) (.int .i64 sa) (.int .u32 imm) 55
 have HM : Hid (w.grownBy W (some b) /\ MS M c cs g b W /\ c.Ok /\ Good M cs /\ b < w.heap.size) := ⟨grown_of hb, h.keep hb, hc, hG, h.m.lt⟩
 have i1 : ((s : Int) + (SM : Int)) % 4294967296 = (A : Int) := by omega
 have i2 : IntKind.u32.wrap ((s : Int) + (SM : Int)) = (A : Int) := by rw [IntKind.wrap_u32]; exact i1
 have i3 : (A : Int) % 4 = (AT : Int) := by omega
 have i4 : (A : Int).tmod 4 = (AT : Int) := by rw [Int.tmod_eq_emod_of_nonneg (by omega)]; exact i3
 have i5 : ((A : Int) - (AT : Int)) % 4294967296 = (WD : Int) := by omega
 have i6 : IntKind.u32.wrap ((A : Int) - (AT : Int)) = (WD : Int) := by rw [IntKind.wrap_u32]; exact i5
 have i7 : (A : Int) - (AT : Int) = (WD : Int) := by omega
 have LA : Hid (A < 4294967296 /\ WD < 4294967296 /\ AT < 4 /\ t < 4294967296) := by show _ /\ _; omega
 have K79 := hK W
 clear hK eA eAT eWD hs ht h hG hc hb hz
 have K107 : Hid (∀ wx, MS M c cs g b wx -> Calls Tryz.prog 107 #[.pointer (some ⟨b, 0, none⟩), .int .u32 A, .int .u32 4] wx fun e w' => Says (ldR M cs A 4) e /\ Below wx.heap.size wx w') := fun wx hx => load107 M c cs g b A 4 wx HM.out.2.2.1 hx HM.out.2.2.2.1 LA.out.1 (by decide)
 have HV : Hid (∀ v, ldR M cs A 4 = .ok v -> v < 4294967296) := fun v hv => ld_lt hv
 generalize ldR M cs A 4 = R at K107 HV |-
 go_enter Tryz.func88, Tryz.ntmps88
 go_wp2_with fail
 refine K79.mono ?_
 rintro e w1 ⟨rfl, hb1⟩
 have d0 := keep_cell hb1 d0
 have d2 := keep_cell hb1 d2
 have H1 : Hid (w.grownBy w1 (some b) /\ MS M c cs g b w1) := ⟨gb_trans HM.out.1 (grown_of hb1), HM.out.2.1.keep hb1⟩
 clear hb1 K79 d1 d3 d4 d5 hW
 go_wp2
 refine wp_region_held_drew (S := fun w' => w'.cell? ⟨w.heap.size, 2, none⟩ = some (.int .i64 rt)) (by kernel_rfl) (by simp [d2]) (fun hS => ?_)
 refine takeG 0 (.pointer (some ⟨b, 0, none⟩)) hS ?_
 simp only [Act.put]
 refine takeG 1 (.pointer (some ⟨w.heap.size, 2, none⟩)) hS ?_
 simp only [Act.put]
 refine takeG 2 (.int .i64 rt) hS ?_
 simp only [Act.put]
 refine takeG 3 (.pointer (some ⟨b, 0, none⟩)) hS ?_
 simp only [Act.put]
 refine takeG 4 (.int .u32 A) hS ?_
 simp only [Act.put]
 refine readyH 5 fun K hK => ?_
 go_simp
 go_wp2_with fail
 refine (K107.out w1.drew (H1.out.2.keep (Below.refl _ _).drew)).mono ?_
 rintro e w2 ⟨hR2, hb2⟩
 have hb2 : Below w1.heap.size w1 w2 := below_tr (Below.refl _ _).drew hb2
 have d2 := keep_cell hb2 d2
 have H2 : Hid (w.grownBy w2 (some b) /\ MS M c cs g b w2) := ⟨gb_trans H1.out.1 (grown_of hb2), H1.out.2.keep hb2⟩
 clear hb2 K107 H1
 cases R with
 | error ev =>
  obtain rfl : e = .panicked (thrownE ev) := hR2
  clear HV
  go_wp2_with fail
  exact ⟨rfl, H2.out.1, rfl, _, _, H2.out.2.m, HM.out.2.2.1.len⟩
 | ok v =>
 obtain rfl : e = .returned (.int .u32 v) := hR2
 have hv := HV.out v rfl
 clear HV
 go_wp2_with fail
 refine hK.out _ _ d2 (fun _ => ?_)
 clear hK K
 have K80 : Hid (∀ wx, Mb c g b wx -> Calls Tryz.prog 80 #[.pointer (some ⟨b, 0, none⟩), .int .i64 rt, .int .u32 v] wx fun e w' => e = .returned (.tuple #[]) /\ Mb (c.put rt v) g b w' /\ wx.grownBy w' (some b)) := fun wx hx => set80 c g b rt v HM.out.2.2.1 hrt wx hx
 refine readyH 6 fun K hK => ?_
 go_simp
 go_wp2_with fail
 refine (K80.out _ H2.out.2.m).mono ?_
 rintro e w4 ⟨rfl, hm4, hg4⟩
 have d4 := row_cell hg4 d2 (show w.heap.size ≠ b by have := HM.out.2.2.2.2; omega)
 have H4 : Hid (w.grownBy w4 (some b) /\ MS M (c.put rt v) cs g b w4) := ⟨gb_trans H2.out.1 hg4, H2.out.2.to HM.out.2.2.1.len hg4 hm4⟩
 clear hm4 hg4
 go_wp2_with fail
 refine hK.out _ _ d4 (fun _ => ?_)
 clear hK K
 refine wpAnyH_done (by kernel_rfl) ?_ _
 go_wp2
 simp [bodyPost, results, Tryz.results88]
 exact ⟨H4.out.1, rfl, H4.out.2⟩
end Go.Proofs.YtimfipkbddpdmaaGreatDoor
