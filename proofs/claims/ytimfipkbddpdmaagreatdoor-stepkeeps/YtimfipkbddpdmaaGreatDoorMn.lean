import Derived.Test.YtimfipkbddpdmaaGreatDoorMk
import Derived.Test.YtimfipkbddpdmaaGreatDoorVals
import Derived.Test.YtimfipkbddpdmaaGreatDoorMl
set_option linter.unusedVariables false
set_option linter.unusedSimpArgs false
set_option maxRecDepth 100000
open Go Go.RowKit
namespace Go.Proofs.YtimfipkbddpdmaaGreatDoor
def stput (r : Except Ev (Nat × (Cp × List (Nat × Int)))) (k : Nat) : Except Ev (Cp × List (Nat × Int)) := match r with
 | .ok x => .ok (x.2.1.put k x.1, x.2.2)
 | .error e => .error e
set_option maxHeartbeats 1000000 in
theorem reach88_sb (M : Mem) (c : Cp) (cs : List (Nat × Int)) (g : Gv) (b : Nat) (name : ByteArray) (rs sa : Int) (rt rd imm s t SM A AT WD : Nat) (hc : c.Ok) (hrt : rt < 32) (hs : s < 4294967296) (ht : t < 4294967296) (w : World) (h : MS M c cs g b w) (hG : Good M cs)
  (hK : ∀ w, Calls Tryz.prog 79 #[.agg #[.string name, .int .i64 rs, .int .i64 rt, .int .i64 rd, .int .i64 sa, .int .u32 imm]] w fun e w' => e = .returned (.int .u32 SM) /\ Below w.heap.size w w')
  (eA : A = (s + SM) % 4294967296) (eAT : AT = A % 4) (eWD : WD = A - AT) (h0 : (name.toList == [108, 98]) = false) (h1 : (name.toList == [108, 98, 117]) = false) (h2 : (name.toList == [108, 104]) = false) (h3 : (name.toList == [108, 104, 117]) = false) (h4 : (name.toList == [108, 119]) = false) (h5 : (name.toList == [108, 108]) = false) (h6 : (name.toList == [108, 119, 108]) = false) (h7 : (name.toList == [108, 119, 114]) = false) (h8 : (name.toList == [115, 98]) = true) :
  Calls Tryz.prog 88 #[.pointer (some ⟨b, 0, none⟩), .agg #[.string name, .int .i64 rs, .int .i64 rt, .int .i64 rd, .int .i64 sa, .int .u32 imm], .int .u32 s, .int .u32 t] w (Tells M b w (.tuple #[]) (stR M c cs A 1 t)) := by
 obtain ⟨W, hW, hb, hz, d0, d1, d2, d3, d4, d5⟩ := box6 w (.string name) (.int .i64 rs) (.int .i64 rt) (.int .i64 rd) (.int .i64 sa) (.int .u32 imm) 55
 have HM : Hid (w.grownBy W (some b) /\ MS M c cs g b W /\ c.Ok /\ Good M cs /\ b < w.heap.size) := ⟨grown_of hb, h.keep hb, hc, hG, h.m.lt⟩
 have i1 : ((s : Int) + (SM : Int)) % 4294967296 = (A : Int) := by omega
 have i2 : IntKind.u32.wrap ((s : Int) + (SM : Int)) = (A : Int) := by rw [IntKind.wrap_u32]; exact i1
 have i3 : (A : Int) % 4 = (AT : Int) := by omega
 have i4 : (A : Int).tmod 4 = (AT : Int) := by rw [Int.tmod_eq_emod_of_nonneg (by omega)]; exact i3
 have i5 : ((A : Int) - (AT : Int)) % 4294967296 = (WD : Int) := by omega
 have i6 : IntKind.u32.wrap ((A : Int) - (AT : Int)) = (WD : Int) := by rw [IntKind.wrap_u32]; exact i5
 have i7 : (A : Int) - (AT : Int) = (WD : Int) := by omega
 have LA : Hid (A < 4294967296 /\ WD < 4294967296 /\ AT < 4 /\ t < 4294967296) := by show _ /\ _; omega
 have K79 := hK W
 clear hK eA eAT eWD hs ht h hG hc hb hz
 have K110 : Hid (∀ wx, MS M c cs g b wx -> Calls Tryz.prog 110 #[.pointer (some ⟨b, 0, none⟩), .int .u32 A, .int .u32 1, .int .u32 t] wx (Tells M b wx (.tuple #[]) (stR M c cs A 1 t))) := fun wx hx => store110 M c cs g b A 1 t wx HM.out.2.2.1 hx HM.out.2.2.2.1 LA.out.1 LA.out.2.2.2 (by decide)
 generalize stR M c cs A 1 t = R at K110 |-
 go_enter Tryz.func88, Tryz.ntmps88
 go_wp2_with fail
 refine K79.mono ?_
 rintro e w1 ⟨rfl, hb1⟩
 have d0 := keep_cell hb1 d0
 have d2 := keep_cell hb1 d2
 have H1 : Hid (w.grownBy w1 (some b) /\ MS M c cs g b w1) := ⟨gb_trans HM.out.1 (grown_of hb1), HM.out.2.1.keep hb1⟩
 clear hb1 K79 d1 d3 d4 d5 hW
 go_wp2_with fail
 refine (K110.out _ H1.out.2).mono ?_
 rintro e w2 ⟨hg2, hR2⟩
 have HG : Hid (w.grownBy w2 (some b)) := gb_trans H1.out.1 hg2
 clear K110 hg2 H1
 cases R with
 | error ev =>
  obtain ⟨rfl, hx⟩ := hR2
  have HX : Hid _ := hx
  clear hx
  go_wp2
  exact ⟨rfl, HG.out, rfl, HX.out⟩
 | ok x =>
  obtain ⟨rfl, hx⟩ := hR2
  have HX : Hid _ := hx
  clear hx
  go_wp2
  simp [bodyPost, results, Tryz.results88]
  exact ⟨HG.out, rfl, HX.out⟩
set_option maxHeartbeats 1000000 in
theorem reach88_sh (M : Mem) (c : Cp) (cs : List (Nat × Int)) (g : Gv) (b : Nat) (name : ByteArray) (rs sa : Int) (rt rd imm s t SM A AT WD : Nat) (hc : c.Ok) (hrt : rt < 32) (hs : s < 4294967296) (ht : t < 4294967296) (w : World) (h : MS M c cs g b w) (hG : Good M cs)
  (hK : ∀ w, Calls Tryz.prog 79 #[.agg #[.string name, .int .i64 rs, .int .i64 rt, .int .i64 rd, .int .i64 sa, .int .u32 imm]] w fun e w' => e = .returned (.int .u32 SM) /\ Below w.heap.size w w')
  (eA : A = (s + SM) % 4294967296) (eAT : AT = A % 4) (eWD : WD = A - AT) (h0 : (name.toList == [108, 98]) = false) (h1 : (name.toList == [108, 98, 117]) = false) (h2 : (name.toList == [108, 104]) = false) (h3 : (name.toList == [108, 104, 117]) = false) (h4 : (name.toList == [108, 119]) = false) (h5 : (name.toList == [108, 108]) = false) (h6 : (name.toList == [108, 119, 108]) = false) (h7 : (name.toList == [108, 119, 114]) = false) (h8 : (name.toList == [115, 98]) = false) (h9 : (name.toList == [115, 104]) = true) :
  Calls Tryz.prog 88 #[.pointer (some ⟨b, 0, none⟩), .agg #[.string name, .int .i64 rs, .int .i64 rt, .int .i64 rd, .int .i64 sa, .int .u32 imm], .int .u32 s, .int .u32 t] w (Tells M b w (.tuple #[]) (stR M c cs A 2 t)) := by
 obtain ⟨W, hW, hb, hz, d0, d1, d2, d3, d4, d5⟩ := box6 w (.string name) (.int .i64 rs) (.int .i64 rt) (.int .i64 rd) (.int .i64 sa) (.int .u32 imm) 55
 have HM : Hid (w.grownBy W (some b) /\ MS M c cs g b W /\ c.Ok /\ Good M cs /\ b < w.heap.size) := ⟨grown_of hb, h.keep hb, hc, hG, h.m.lt⟩
 have i1 : ((s : Int) + (SM : Int)) % 4294967296 = (A : Int) := by omega
 have i2 : IntKind.u32.wrap ((s : Int) + (SM : Int)) = (A : Int) := by rw [IntKind.wrap_u32]; exact i1
 have i3 : (A : Int) % 4 = (AT : Int) := by omega
 have i4 : (A : Int).tmod 4 = (AT : Int) := by rw [Int.tmod_eq_emod_of_nonneg (by omega)]; exact i3
 have i5 : ((A : Int) - (AT : Int)) % 4294967296 = (WD : Int) := by omega
 have i6 : IntKind.u32.wrap ((A : Int) - (AT : Int)) = (WD : Int) := by rw [IntKind.wrap_u32]; exact i5
 have i7 : (A : Int) - (AT : Int) = (WD : Int) := by omega
 have LA : Hid (A < 4294967296 /\ WD < 4294967296 /\ AT < 4 /\ t < 4294967296) := by show _ /\ _; omega
 have K79 := hK W
 clear hK eA eAT eWD hs ht h hG hc hb hz
 have K110 : Hid (∀ wx, MS M c cs g b wx -> Calls Tryz.prog 110 #[.pointer (some ⟨b, 0, none⟩), .int .u32 A, .int .u32 2, .int .u32 t] wx (Tells M b wx (.tuple #[]) (stR M c cs A 2 t))) := fun wx hx => store110 M c cs g b A 2 t wx HM.out.2.2.1 hx HM.out.2.2.2.1 LA.out.1 LA.out.2.2.2 (by decide)
 generalize stR M c cs A 2 t = R at K110 |-
 go_enter Tryz.func88, Tryz.ntmps88
 go_wp2_with fail
 refine K79.mono ?_
 rintro e w1 ⟨rfl, hb1⟩
 have d0 := keep_cell hb1 d0
 have d2 := keep_cell hb1 d2
 have H1 : Hid (w.grownBy w1 (some b) /\ MS M c cs g b w1) := ⟨gb_trans HM.out.1 (grown_of hb1), HM.out.2.1.keep hb1⟩
 clear hb1 K79 d1 d3 d4 d5 hW
 go_wp2_with fail
 refine (K110.out _ H1.out.2).mono ?_
 rintro e w2 ⟨hg2, hR2⟩
 have HG : Hid (w.grownBy w2 (some b)) := gb_trans H1.out.1 hg2
 clear K110 hg2 H1
 cases R with
 | error ev =>
  obtain ⟨rfl, hx⟩ := hR2
  have HX : Hid _ := hx
  clear hx
  go_wp2
  exact ⟨rfl, HG.out, rfl, HX.out⟩
 | ok x =>
  obtain ⟨rfl, hx⟩ := hR2
  have HX : Hid _ := hx
  clear hx
  go_wp2
  simp [bodyPost, results, Tryz.results88]
  exact ⟨HG.out, rfl, HX.out⟩
set_option maxHeartbeats 1000000 in
theorem reach88_sw (M : Mem) (c : Cp) (cs : List (Nat × Int)) (g : Gv) (b : Nat) (name : ByteArray) (rs sa : Int) (rt rd imm s t SM A AT WD : Nat) (hc : c.Ok) (hrt : rt < 32) (hs : s < 4294967296) (ht : t < 4294967296) (w : World) (h : MS M c cs g b w) (hG : Good M cs)
  (hK : ∀ w, Calls Tryz.prog 79 #[.agg #[.string name, .int .i64 rs, .int .i64 rt, .int .i64 rd, .int .i64 sa, .int .u32 imm]] w fun e w' => e = .returned (.int .u32 SM) /\ Below w.heap.size w w')
  (eA : A = (s + SM) % 4294967296) (eAT : AT = A % 4) (eWD : WD = A - AT) (h0 : (name.toList == [108, 98]) = false) (h1 : (name.toList == [108, 98, 117]) = false) (h2 : (name.toList == [108, 104]) = false) (h3 : (name.toList == [108, 104, 117]) = false) (h4 : (name.toList == [108, 119]) = false) (h5 : (name.toList == [108, 108]) = false) (h6 : (name.toList == [108, 119, 108]) = false) (h7 : (name.toList == [108, 119, 114]) = false) (h8 : (name.toList == [115, 98]) = false) (h9 : (name.toList == [115, 104]) = false) (h10 : (name.toList == [115, 119]) = true) :
  Calls Tryz.prog 88 #[.pointer (some ⟨b, 0, none⟩), .agg #[.string name, .int .i64 rs, .int .i64 rt, .int .i64 rd, .int .i64 sa, .int .u32 imm], .int .u32 s, .int .u32 t] w (Tells M b w (.tuple #[]) (stR M c cs A 4 t)) := by
 obtain ⟨W, hW, hb, hz, d0, d1, d2, d3, d4, d5⟩ := box6 w (.string name) (.int .i64 rs) (.int .i64 rt) (.int .i64 rd) (.int .i64 sa) (.int .u32 imm) 55
 have HM : Hid (w.grownBy W (some b) /\ MS M c cs g b W /\ c.Ok /\ Good M cs /\ b < w.heap.size) := ⟨grown_of hb, h.keep hb, hc, hG, h.m.lt⟩
 have i1 : ((s : Int) + (SM : Int)) % 4294967296 = (A : Int) := by omega
 have i2 : IntKind.u32.wrap ((s : Int) + (SM : Int)) = (A : Int) := by rw [IntKind.wrap_u32]; exact i1
 have i3 : (A : Int) % 4 = (AT : Int) := by omega
 have i4 : (A : Int).tmod 4 = (AT : Int) := by rw [Int.tmod_eq_emod_of_nonneg (by omega)]; exact i3
 have i5 : ((A : Int) - (AT : Int)) % 4294967296 = (WD : Int) := by omega
 have i6 : IntKind.u32.wrap ((A : Int) - (AT : Int)) = (WD : Int) := by rw [IntKind.wrap_u32]; exact i5
 have i7 : (A : Int) - (AT : Int) = (WD : Int) := by omega
 have LA : Hid (A < 4294967296 /\ WD < 4294967296 /\ AT < 4 /\ t < 4294967296) := by show _ /\ _; omega
 have K79 := hK W
 clear hK eA eAT eWD hs ht h hG hc hb hz
 have K110 : Hid (∀ wx, MS M c cs g b wx -> Calls Tryz.prog 110 #[.pointer (some ⟨b, 0, none⟩), .int .u32 A, .int .u32 4, .int .u32 t] wx (Tells M b wx (.tuple #[]) (stR M c cs A 4 t))) := fun wx hx => store110 M c cs g b A 4 t wx HM.out.2.2.1 hx HM.out.2.2.2.1 LA.out.1 LA.out.2.2.2 (by decide)
 generalize stR M c cs A 4 t = R at K110 |-
 go_enter Tryz.func88, Tryz.ntmps88
 go_wp2_with fail
 refine K79.mono ?_
 rintro e w1 ⟨rfl, hb1⟩
 have d0 := keep_cell hb1 d0
 have d2 := keep_cell hb1 d2
 have H1 : Hid (w.grownBy w1 (some b) /\ MS M c cs g b w1) := ⟨gb_trans HM.out.1 (grown_of hb1), HM.out.2.1.keep hb1⟩
 clear hb1 K79 d1 d3 d4 d5 hW
 go_wp2_with fail
 refine (K110.out _ H1.out.2).mono ?_
 rintro e w2 ⟨hg2, hR2⟩
 have HG : Hid (w.grownBy w2 (some b)) := gb_trans H1.out.1 hg2
 clear K110 hg2 H1
 cases R with
 | error ev =>
  obtain ⟨rfl, hx⟩ := hR2
  have HX : Hid _ := hx
  clear hx
  go_wp2
  exact ⟨rfl, HG.out, rfl, HX.out⟩
 | ok x =>
  obtain ⟨rfl, hx⟩ := hR2
  have HX : Hid _ := hx
  clear hx
  go_wp2
  simp [bodyPost, results, Tryz.results88]
  exact ⟨HG.out, rfl, HX.out⟩
def swR (r : Except Ev Nat) (f : Nat -> Except Ev (Cp × List (Nat × Int))) : Except Ev (Cp × List (Nat × Int)) := match r with
 | .ok v => f v
 | .error e => .error e
theorem lay_lt (up : Bool) (old v j : Nat) (ho : old < 4294967296) (hv : v < 4294967296) (hj : j <= 3) : Wd.layN up old v j < 4294967296 := by
 have h : j = 0 \/ j = 1 \/ j = 2 \/ j = 3 := by omega
 unfold Wd.layN
 cases up <;> rcases h with rfl | rfl | rfl | rfl <;> simp <;> omega
set_option maxHeartbeats 1000000 in
theorem reach88_swl (M : Mem) (c : Cp) (cs : List (Nat × Int)) (g : Gv) (b : Nat) (name : ByteArray) (rs sa : Int) (rt rd imm s t SM A AT WD : Nat) (hc : c.Ok) (hrt : rt < 32) (hs : s < 4294967296) (ht : t < 4294967296) (w : World) (h : MS M c cs g b w) (hG : Good M cs)
  (hK : ∀ w, Calls Tryz.prog 79 #[.agg #[.string name, .int .i64 rs, .int .i64 rt, .int .i64 rd, .int .i64 sa, .int .u32 imm]] w fun e w' => e = .returned (.int .u32 SM) /\ Below w.heap.size w w')
  (eA : A = (s + SM) % 4294967296) (eAT : AT = A % 4) (eWD : WD = A - AT) (h0 : (name.toList == [108, 98]) = false) (h1 : (name.toList == [108, 98, 117]) = false) (h2 : (name.toList == [108, 104]) = false) (h3 : (name.toList == [108, 104, 117]) = false) (h4 : (name.toList == [108, 119]) = false) (h5 : (name.toList == [108, 108]) = false) (h6 : (name.toList == [108, 119, 108]) = false) (h7 : (name.toList == [108, 119, 114]) = false) (h8 : (name.toList == [115, 98]) = false) (h9 : (name.toList == [115, 104]) = false) (h10 : (name.toList == [115, 119]) = false) (h11 : (name.toList == [115, 99]) = false) (h12 : (name.toList == [115, 119, 108]) = true) :
  Calls Tryz.prog 88 #[.pointer (some ⟨b, 0, none⟩), .agg #[.string name, .int .i64 rs, .int .i64 rt, .int .i64 rd, .int .i64 sa, .int .u32 imm], .int .u32 s, .int .u32 t] w (Tells M b w (.tuple #[]) (swR (ldR M cs WD 4) (fun v => stR M c cs WD 4 (Wd.layN false v t (Wd.aheadN AT))))) := by
 obtain ⟨W, hW, hb, hz, d0, d1, d2, d3, d4, d5⟩ := box6 w (.string name) (.int .i64 rs) (.int .i64 rt) (.int .i64 rd) (.int .i64 sa) (.int .u32 imm) 55
 have HM : Hid (w.grownBy W (some b) /\ MS M c cs g b W /\ c.Ok /\ Good M cs /\ b < w.heap.size) := ⟨grown_of hb, h.keep hb, hc, hG, h.m.lt⟩
 have i1 : ((s : Int) + (SM : Int)) % 4294967296 = (A : Int) := by omega
 have i2 : IntKind.u32.wrap ((s : Int) + (SM : Int)) = (A : Int) := by rw [IntKind.wrap_u32]; exact i1
 have i3 : (A : Int) % 4 = (AT : Int) := by omega
 have i4 : (A : Int).tmod 4 = (AT : Int) := by rw [Int.tmod_eq_emod_of_nonneg (by omega)]; exact i3
 have i5 : ((A : Int) - (AT : Int)) % 4294967296 = (WD : Int) := by omega
 have i6 : IntKind.u32.wrap ((A : Int) - (AT : Int)) = (WD : Int) := by rw [IntKind.wrap_u32]; exact i5
 have i7 : (A : Int) - (AT : Int) = (WD : Int) := by omega
 have LA : Hid (A < 4294967296 /\ WD < 4294967296 /\ AT < 4 /\ t < 4294967296) := by show _ /\ _; omega
 have K79 := hK W
 clear hK eA eAT eWD hs ht h hG hc hb hz
 have K107 : Hid (∀ wx, MS M c cs g b wx -> Calls Tryz.prog 107 #[.pointer (some ⟨b, 0, none⟩), .int .u32 WD, .int .u32 4] wx fun e w' => Says (ldR M cs WD 4) e /\ Below wx.heap.size wx w') := fun wx hx => load107 M c cs g b WD 4 wx HM.out.2.2.1 hx HM.out.2.2.2.1 LA.out.2.1 (by decide)
 have HV : Hid (∀ v, ldR M cs WD 4 = .ok v -> v < 4294967296) := fun v hv => ld_lt hv
 generalize ldR M cs WD 4 = R0 at K107 HV |-
 go_enter Tryz.func88, Tryz.ntmps88
 go_wp2_with fail
 refine K79.mono ?_
 rintro e w1 ⟨rfl, hb1⟩
 have d0 := keep_cell hb1 d0
 have d2 := keep_cell hb1 d2
 have H1 : Hid (w.grownBy w1 (some b) /\ MS M c cs g b w1) := ⟨gb_trans HM.out.1 (grown_of hb1), HM.out.2.1.keep hb1⟩
 clear hb1 K79 d1 d3 d4 d5 hW
 have hATI : (AT : Int) < 4 := by have := LA.out.2.2.1; omega
 go_wp2_with fail
 refine (K107.out _ H1.out.2).mono ?_
 rintro e w2 ⟨hR2, hb2⟩
 have H2 : Hid (w.grownBy w2 (some b) /\ MS M c cs g b w2) := ⟨gb_trans H1.out.1 (grown_of hb2), H1.out.2.keep hb2⟩
 clear hb2 K107 H1
 cases R0 with
 | error ev =>
  obtain rfl : e = .panicked (thrownE ev) := hR2
  clear HV
  go_wp2
  exact ⟨rfl, H2.out.1, rfl, _, _, H2.out.2.m, HM.out.2.2.1.len⟩
 | ok v =>
 obtain rfl : e = .returned (.int .u32 v) := hR2
 have hv := HV.out v rfl
 clear HV
 obtain ⟨VV, hVV⟩ : ∃ x, x = Wd.layN false v t (Wd.aheadN AT) := ⟨_, rfl⟩
 have KS : Hid (∀ wx, Calls Tryz.prog 112 #[.int .u32 v, .int .u32 t, .int .i64 AT] wx fun e w' => e = .returned (.int .u32 VV) /\ Below wx.heap.size wx w') := by rw [hVV]; exact fun wx => Wd.storeLeft17 v t AT hv LA.out.2.2.2 wx
 have hVL : VV < 4294967296 := by rw [hVV]; exact lay_lt _ _ _ _ hv LA.out.2.2.2 (by have := LA.out.2.2.1; unfold Wd.aheadN; omega)
 have K110 : Hid (∀ wx, MS M c cs g b wx -> Calls Tryz.prog 110 #[.pointer (some ⟨b, 0, none⟩), .int .u32 WD, .int .u32 4, .int .u32 VV] wx (Tells M b wx (.tuple #[]) (stR M c cs WD 4 VV))) := fun wx hx => store110 M c cs g b WD 4 VV wx HM.out.2.2.1 hx HM.out.2.2.2.1 LA.out.2.1 hVL (by decide)
 have HR : Hid (stR M c cs WD 4 (Wd.layN false v t (Wd.aheadN AT)) = stR M c cs WD 4 VV) := by show _ = _; rw [hVV]
 generalize stR M c cs WD 4 VV = R at K110 HR
 clear hVV hVL
 go_wp2_with fail
 refine (KS.out _).mono ?_
 rintro e w3 ⟨rfl, hb3⟩
 have H3 : Hid (w.grownBy w3 (some b) /\ MS M c cs g b w3) := ⟨gb_trans H2.out.1 (grown_of hb3), H2.out.2.keep hb3⟩
 clear hb3 H2 KS
 go_wp2_with fail
 refine (K110.out _ H3.out.2).mono ?_
 rintro e w4 ⟨hg4, hR4⟩
 have HG : Hid (w.grownBy w4 (some b)) := gb_trans H3.out.1 hg4
 clear K110 hg4 H3
 cases R with
 | error ev =>
  obtain ⟨rfl, hx⟩ := hR4
  have HX : Hid _ := hx
  clear hx
  go_wp2
  refine ⟨rfl, HG.out, ?_⟩
  simp only [swR]
  rw [HR.out]
  exact ⟨rfl, HX.out⟩
 | ok x =>
  obtain ⟨rfl, hx⟩ := hR4
  have HX : Hid _ := hx
  clear hx
  go_wp2
  simp [bodyPost, results, Tryz.results88]
  refine ⟨HG.out, ?_⟩
  simp only [swR]
  rw [HR.out]
  exact ⟨by trivial, HX.out⟩
set_option maxHeartbeats 1000000 in
theorem reach88_swr (M : Mem) (c : Cp) (cs : List (Nat × Int)) (g : Gv) (b : Nat) (name : ByteArray) (rs sa : Int) (rt rd imm s t SM A AT WD : Nat) (hc : c.Ok) (hrt : rt < 32) (hs : s < 4294967296) (ht : t < 4294967296) (w : World) (h : MS M c cs g b w) (hG : Good M cs)
  (hK : ∀ w, Calls Tryz.prog 79 #[.agg #[.string name, .int .i64 rs, .int .i64 rt, .int .i64 rd, .int .i64 sa, .int .u32 imm]] w fun e w' => e = .returned (.int .u32 SM) /\ Below w.heap.size w w')
  (eA : A = (s + SM) % 4294967296) (eAT : AT = A % 4) (eWD : WD = A - AT) (h0 : (name.toList == [108, 98]) = false) (h1 : (name.toList == [108, 98, 117]) = false) (h2 : (name.toList == [108, 104]) = false) (h3 : (name.toList == [108, 104, 117]) = false) (h4 : (name.toList == [108, 119]) = false) (h5 : (name.toList == [108, 108]) = false) (h6 : (name.toList == [108, 119, 108]) = false) (h7 : (name.toList == [108, 119, 114]) = false) (h8 : (name.toList == [115, 98]) = false) (h9 : (name.toList == [115, 104]) = false) (h10 : (name.toList == [115, 119]) = false) (h11 : (name.toList == [115, 99]) = false) (h12 : (name.toList == [115, 119, 108]) = false) (h13 : (name.toList == [115, 119, 114]) = true) :
  Calls Tryz.prog 88 #[.pointer (some ⟨b, 0, none⟩), .agg #[.string name, .int .i64 rs, .int .i64 rt, .int .i64 rd, .int .i64 sa, .int .u32 imm], .int .u32 s, .int .u32 t] w (Tells M b w (.tuple #[]) (swR (ldR M cs WD 4) (fun v => stR M c cs WD 4 (Wd.layN true v t (Wd.behindN AT))))) := by
 obtain ⟨W, hW, hb, hz, d0, d1, d2, d3, d4, d5⟩ := box6 w (.string name) (.int .i64 rs) (.int .i64 rt) (.int .i64 rd) (.int .i64 sa) (.int .u32 imm) 55
 have HM : Hid (w.grownBy W (some b) /\ MS M c cs g b W /\ c.Ok /\ Good M cs /\ b < w.heap.size) := ⟨grown_of hb, h.keep hb, hc, hG, h.m.lt⟩
 have i1 : ((s : Int) + (SM : Int)) % 4294967296 = (A : Int) := by omega
 have i2 : IntKind.u32.wrap ((s : Int) + (SM : Int)) = (A : Int) := by rw [IntKind.wrap_u32]; exact i1
 have i3 : (A : Int) % 4 = (AT : Int) := by omega
 have i4 : (A : Int).tmod 4 = (AT : Int) := by rw [Int.tmod_eq_emod_of_nonneg (by omega)]; exact i3
 have i5 : ((A : Int) - (AT : Int)) % 4294967296 = (WD : Int) := by omega
 have i6 : IntKind.u32.wrap ((A : Int) - (AT : Int)) = (WD : Int) := by rw [IntKind.wrap_u32]; exact i5
 have i7 : (A : Int) - (AT : Int) = (WD : Int) := by omega
 have LA : Hid (A < 4294967296 /\ WD < 4294967296 /\ AT < 4 /\ t < 4294967296) := by show _ /\ _; omega
 have K79 := hK W
 clear hK eA eAT eWD hs ht h hG hc hb hz
 have K107 : Hid (∀ wx, MS M c cs g b wx -> Calls Tryz.prog 107 #[.pointer (some ⟨b, 0, none⟩), .int .u32 WD, .int .u32 4] wx fun e w' => Says (ldR M cs WD 4) e /\ Below wx.heap.size wx w') := fun wx hx => load107 M c cs g b WD 4 wx HM.out.2.2.1 hx HM.out.2.2.2.1 LA.out.2.1 (by decide)
 have HV : Hid (∀ v, ldR M cs WD 4 = .ok v -> v < 4294967296) := fun v hv => ld_lt hv
 generalize ldR M cs WD 4 = R0 at K107 HV |-
 go_enter Tryz.func88, Tryz.ntmps88
 go_wp2_with fail
 refine K79.mono ?_
 rintro e w1 ⟨rfl, hb1⟩
 have d0 := keep_cell hb1 d0
 have d2 := keep_cell hb1 d2
 have H1 : Hid (w.grownBy w1 (some b) /\ MS M c cs g b w1) := ⟨gb_trans HM.out.1 (grown_of hb1), HM.out.2.1.keep hb1⟩
 clear hb1 K79 d1 d3 d4 d5 hW
 have hATI : (AT : Int) < 4 := by have := LA.out.2.2.1; omega
 go_wp2_with fail
 refine (K107.out _ H1.out.2).mono ?_
 rintro e w2 ⟨hR2, hb2⟩
 have H2 : Hid (w.grownBy w2 (some b) /\ MS M c cs g b w2) := ⟨gb_trans H1.out.1 (grown_of hb2), H1.out.2.keep hb2⟩
 clear hb2 K107 H1
 cases R0 with
 | error ev =>
  obtain rfl : e = .panicked (thrownE ev) := hR2
  clear HV
  go_wp2
  exact ⟨rfl, H2.out.1, rfl, _, _, H2.out.2.m, HM.out.2.2.1.len⟩
 | ok v =>
 obtain rfl : e = .returned (.int .u32 v) := hR2
 have hv := HV.out v rfl
 clear HV
 obtain ⟨VV, hVV⟩ : ∃ x, x = Wd.layN true v t (Wd.behindN AT) := ⟨_, rfl⟩
 have KS : Hid (∀ wx, Calls Tryz.prog 113 #[.int .u32 v, .int .u32 t, .int .i64 AT] wx fun e w' => e = .returned (.int .u32 VV) /\ Below wx.heap.size wx w') := by rw [hVV]; exact fun wx => Wd.storeRight19 v t AT hv LA.out.2.2.2 wx
 have hVL : VV < 4294967296 := by rw [hVV]; exact lay_lt _ _ _ _ hv LA.out.2.2.2 (by have := LA.out.2.2.1; unfold Wd.behindN; omega)
 have K110 : Hid (∀ wx, MS M c cs g b wx -> Calls Tryz.prog 110 #[.pointer (some ⟨b, 0, none⟩), .int .u32 WD, .int .u32 4, .int .u32 VV] wx (Tells M b wx (.tuple #[]) (stR M c cs WD 4 VV))) := fun wx hx => store110 M c cs g b WD 4 VV wx HM.out.2.2.1 hx HM.out.2.2.2.1 LA.out.2.1 hVL (by decide)
 have HR : Hid (stR M c cs WD 4 (Wd.layN true v t (Wd.behindN AT)) = stR M c cs WD 4 VV) := by show _ = _; rw [hVV]
 generalize stR M c cs WD 4 VV = R at K110 HR
 clear hVV hVL
 go_wp2_with fail
 refine (KS.out _).mono ?_
 rintro e w3 ⟨rfl, hb3⟩
 have H3 : Hid (w.grownBy w3 (some b) /\ MS M c cs g b w3) := ⟨gb_trans H2.out.1 (grown_of hb3), H2.out.2.keep hb3⟩
 clear hb3 H2 KS
 go_wp2_with fail
 refine (K110.out _ H3.out.2).mono ?_
 rintro e w4 ⟨hg4, hR4⟩
 have HG : Hid (w.grownBy w4 (some b)) := gb_trans H3.out.1 hg4
 clear K110 hg4 H3
 cases R with
 | error ev =>
  obtain ⟨rfl, hx⟩ := hR4
  have HX : Hid _ := hx
  clear hx
  go_wp2
  refine ⟨rfl, HG.out, ?_⟩
  simp only [swR]
  rw [HR.out]
  exact ⟨rfl, HX.out⟩
 | ok x =>
  obtain ⟨rfl, hx⟩ := hR4
  have HX : Hid _ := hx
  clear hx
  go_wp2
  simp [bodyPost, results, Tryz.results88]
  refine ⟨HG.out, ?_⟩
  simp only [swR]
  rw [HR.out]
  exact ⟨by trivial, HX.out⟩
theorem Cp.unlink_ok {c : Cp} (h : c.Ok) (a : Nat) : (c.unlink a).Ok := ⟨h.len, h.all, h.hi, h.lo, h.pc, h.next, h.link⟩
theorem st_ok {M : Mem} {c : Cp} {cs : List (Nat × Int)} {a n v : Nat} {x : Cp × List (Nat × Int)} (hc : c.Ok) (h : stR M c cs a n v = .ok x) : x.1.Ok := by
 unfold stR at h
 split at h
 ·split at h
  ·injection h with h; rw [<- h]; exact Cp.unlink_ok hc a
  ·injection h
 ·injection h
theorem sl_ok {M : Mem} {c : Cp} {cs : List (Nat × Int)} {a v : Nat} {x : Nat × (Cp × List (Nat × Int))} (hc : c.Ok) (h : slR M c cs a v = .ok x) : x.2.1.Ok := by
 unfold slR at h
 split at h
 ·split at h
  ·cases hs : stR M c.off cs a 4 v with
   | ok y => rw [hs] at h; injection h with h; rw [<- h]; exact st_ok (Cp.off_ok hc) hs
   | error e => rw [hs] at h; injection h
  ·injection h with h; rw [<- h]; exact Cp.off_ok hc
 ·injection h
set_option maxHeartbeats 1000000 in
theorem reach88_sc (M : Mem) (c : Cp) (cs : List (Nat × Int)) (g : Gv) (b : Nat) (name : ByteArray) (rs sa : Int) (rt rd imm s t SM A AT WD : Nat) (hc : c.Ok) (hrt : rt < 32) (hs : s < 4294967296) (ht : t < 4294967296) (w : World) (h : MS M c cs g b w) (hG : Good M cs)
  (hK : ∀ w, Calls Tryz.prog 79 #[.agg #[.string name, .int .i64 rs, .int .i64 rt, .int .i64 rd, .int .i64 sa, .int .u32 imm]] w fun e w' => e = .returned (.int .u32 SM) /\ Below w.heap.size w w')
  (eA : A = (s + SM) % 4294967296) (eAT : AT = A % 4) (eWD : WD = A - AT) (h0 : (name.toList == [108, 98]) = false) (h1 : (name.toList == [108, 98, 117]) = false) (h2 : (name.toList == [108, 104]) = false) (h3 : (name.toList == [108, 104, 117]) = false) (h4 : (name.toList == [108, 119]) = false) (h5 : (name.toList == [108, 108]) = false) (h6 : (name.toList == [108, 119, 108]) = false) (h7 : (name.toList == [108, 119, 114]) = false) (h8 : (name.toList == [115, 98]) = false) (h9 : (name.toList == [115, 104]) = false) (h10 : (name.toList == [115, 119]) = false) (h11 : (name.toList == [115, 99]) = true) :
  Calls Tryz.prog 88 #[.pointer (some ⟨b, 0, none⟩), .agg #[.string name, .int .i64 rs, .int .i64 rt, .int .i64 rd, .int .i64 sa, .int .u32 imm], .int .u32 s, .int .u32 t] w (Tells M b w (.tuple #[]) (stput (slR M c cs A t) rt)) := by
 obtain ⟨W, hW, hb, hz, d0, d1, d2, d3, d4, d5⟩ := box6 w (.string name) (.int .i64 rs) (.int .i64 rt) (.int .i64 rd) (.int .i64 sa) (.int .u32 imm) 55
 have HM : Hid (w.grownBy W (some b) /\ MS M c cs g b W /\ c.Ok /\ Good M cs /\ b < w.heap.size) := ⟨grown_of hb, h.keep hb, hc, hG, h.m.lt⟩
 have i1 : ((s : Int) + (SM : Int)) % 4294967296 = (A : Int) := by omega
 have i2 : IntKind.u32.wrap ((s : Int) + (SM : Int)) = (A : Int) := by rw [IntKind.wrap_u32]; exact i1
 have i3 : (A : Int) % 4 = (AT : Int) := by omega
 have i4 : (A : Int).tmod 4 = (AT : Int) := by rw [Int.tmod_eq_emod_of_nonneg (by omega)]; exact i3
 have i5 : ((A : Int) - (AT : Int)) % 4294967296 = (WD : Int) := by omega
 have i6 : IntKind.u32.wrap ((A : Int) - (AT : Int)) = (WD : Int) := by rw [IntKind.wrap_u32]; exact i5
 have i7 : (A : Int) - (AT : Int) = (WD : Int) := by omega
 have LA : Hid (A < 4294967296 /\ WD < 4294967296 /\ AT < 4 /\ t < 4294967296) := by show _ /\ _; omega
 have K79 := hK W
 clear hK eA eAT eWD hs ht h hG hc hb hz
 have K111 : Hid (∀ wx, MS M c cs g b wx -> Calls Tryz.prog 111 #[.pointer (some ⟨b, 0, none⟩), .int .u32 A, .int .u32 t] wx (TellsN M b wx (slR M c cs A t))) := fun wx hx => storeLinked111 M c cs g b A t wx HM.out.2.2.1 hx HM.out.2.2.2.1 LA.out.1 LA.out.2.2.2
 have HV : Hid (∀ x, slR M c cs A t = .ok x -> x.2.1.Ok) := fun x hx => sl_ok HM.out.2.2.1 hx
 generalize slR M c cs A t = R at K111 HV |-
 go_enter Tryz.func88, Tryz.ntmps88
 go_wp2_with fail
 refine K79.mono ?_
 rintro e w1 ⟨rfl, hb1⟩
 have d0 := keep_cell hb1 d0
 have d2 := keep_cell hb1 d2
 have H1 : Hid (w.grownBy w1 (some b) /\ MS M c cs g b w1) := ⟨gb_trans HM.out.1 (grown_of hb1), HM.out.2.1.keep hb1⟩
 clear hb1 K79 d1 d3 d4 d5 hW
 go_wp2
 refine wp_region_held_drew (S := fun w' => w'.cell? ⟨w.heap.size, 2, none⟩ = some (.int .i64 rt)) (by kernel_rfl) (by simp [d2]) (fun hS => ?_)
 refine takeG 0 (.pointer (some ⟨b, 0, none⟩)) hS ?_
 simp only [Act.put]
 refine takeG 1 (.pointer (some ⟨w.heap.size, 2, none⟩)) hS ?_
 simp only [Act.put]
 refine takeG 2 (.int .i64 rt) hS ?_
 simp only [Act.put]
 refine takeG 3 (.pointer (some ⟨b, 0, none⟩)) hS ?_
 simp only [Act.put]
 refine takeG 4 (.int .u32 A) hS ?_
 simp only [Act.put]
 refine takeG 5 (.int .u32 t) hS ?_
 simp only [Act.put]
 refine readyH 6 fun K hK => ?_
 go_simp
 go_wp2_with fail
 refine (K111.out w1.drew (H1.out.2.keep (Below.refl _ _).drew)).mono ?_
 rintro e w2 ⟨hg2, hR2⟩
 have hg2 : w1.grownBy w2 (some b) := gb_trans (grown_of (Below.refl _ _).drew) hg2
 have d2 := row_cell hg2 d2 (show w.heap.size ≠ b by have := HM.out.2.2.2.2; omega)
 have HG : Hid (w.grownBy w2 (some b)) := gb_trans H1.out.1 hg2
 clear hg2 K111 H1
 cases R with
 | error ev =>
  obtain ⟨rfl, hx⟩ := hR2
  have HX : Hid _ := hx
  clear HV hx
  go_wp2_with fail
  exact ⟨rfl, HG.out, rfl, HX.out⟩
 | ok x =>
 obtain ⟨n2, c2, cs2⟩ := x
 obtain ⟨rfl, g2, hM2⟩ := hR2
 have hok := HV.out _ rfl
 simp only at hok hM2
 have HM2 : Hid (c2.Ok /\ MS M c2 cs2 g2 b w2) := ⟨hok, hM2⟩
 clear HV hok hM2
 go_wp2_with fail
 refine hK.out _ _ d2 (fun _ => ?_)
 clear hK K
 have K80 : Hid (∀ wx, Mb c2 g2 b wx -> Calls Tryz.prog 80 #[.pointer (some ⟨b, 0, none⟩), .int .i64 rt, .int .u32 n2] wx fun e w' => e = .returned (.tuple #[]) /\ Mb (c2.put rt n2) g2 b w' /\ wx.grownBy w' (some b)) := fun wx hx => set80 c2 g2 b rt n2 HM2.out.1 hrt wx hx
 refine readyH 7 fun K hK => ?_
 go_simp
 go_wp2_with fail
 refine (K80.out _ HM2.out.2.m).mono ?_
 rintro e w4 ⟨rfl, hm4, hg4⟩
 have d4 := row_cell hg4 d2 (show w.heap.size ≠ b by have := HM.out.2.2.2.2; omega)
 have H4 : Hid (w.grownBy w4 (some b) /\ MS M (c2.put rt n2) cs2 g2 b w4) := ⟨gb_trans HG.out hg4, HM2.out.2.to HM2.out.1.len hg4 hm4⟩
 clear hm4 hg4
 go_wp2_with fail
 refine hK.out _ _ d4 (fun _ => ?_)
 clear hK K
 refine wpAnyH_done (by kernel_rfl) ?_ _
 go_wp2
 simp [bodyPost, results, Tryz.results88]
 exact ⟨H4.out.1, rfl, _, H4.out.2⟩
set_option maxHeartbeats 1000000 in
theorem reach88_no (M : Mem) (c : Cp) (cs : List (Nat × Int)) (g : Gv) (b : Nat) (name : ByteArray) (rs sa : Int) (rt rd imm s t SM A AT WD : Nat) (hc : c.Ok) (hrt : rt < 32) (hs : s < 4294967296) (ht : t < 4294967296) (w : World) (h : MS M c cs g b w) (hG : Good M cs)
  (hK : ∀ w, Calls Tryz.prog 79 #[.agg #[.string name, .int .i64 rs, .int .i64 rt, .int .i64 rd, .int .i64 sa, .int .u32 imm]] w fun e w' => e = .returned (.int .u32 SM) /\ Below w.heap.size w w')
  (eA : A = (s + SM) % 4294967296) (eAT : AT = A % 4) (eWD : WD = A - AT) (h0 : (name.toList == [108, 98]) = false) (h1 : (name.toList == [108, 98, 117]) = false) (h2 : (name.toList == [108, 104]) = false) (h3 : (name.toList == [108, 104, 117]) = false) (h4 : (name.toList == [108, 119]) = false) (h5 : (name.toList == [108, 108]) = false) (h6 : (name.toList == [108, 119, 108]) = false) (h7 : (name.toList == [108, 119, 114]) = false) (h8 : (name.toList == [115, 98]) = false) (h9 : (name.toList == [115, 104]) = false) (h10 : (name.toList == [115, 119]) = false) (h11 : (name.toList == [115, 99]) = false) (h12 : (name.toList == [115, 119, 108]) = false) (h13 : (name.toList == [115, 119, 114]) = false) :
  Calls Tryz.prog 88 #[.pointer (some ⟨b, 0, none⟩), .agg #[.string name, .int .i64 rs, .int .i64 rt, .int .i64 rd, .int .i64 sa, .int .u32 imm], .int .u32 s, .int .u32 t] w (Tells M b w (.tuple #[]) (.ok (c, cs))) := by
 obtain ⟨W, hW, hb, hz, d0, d1, d2, d3, d4, d5⟩ := box6 w (.string name) (.int .i64 rs) (.int .i64 rt) (.int .i64 rd) (.int .i64 sa) (.int .u32 imm) 55
 have HM : Hid (w.grownBy W (some b) /\ MS M c cs g b W /\ c.Ok /\ Good M cs /\ b < w.heap.size) := ⟨grown_of hb, h.keep hb, hc, hG, h.m.lt⟩
 have i1 : ((s : Int) + (SM : Int)) % 4294967296 = (A : Int) := by omega
 have i2 : IntKind.u32.wrap ((s : Int) + (SM : Int)) = (A : Int) := by rw [IntKind.wrap_u32]; exact i1
 have i3 : (A : Int) % 4 = (AT : Int) := by omega
 have i4 : (A : Int).tmod 4 = (AT : Int) := by rw [Int.tmod_eq_emod_of_nonneg (by omega)]; exact i3
 have i5 : ((A : Int) - (AT : Int)) % 4294967296 = (WD : Int) := by omega
 have i6 : IntKind.u32.wrap ((A : Int) - (AT : Int)) = (WD : Int) := by rw [IntKind.wrap_u32]; exact i5
 have i7 : (A : Int) - (AT : Int) = (WD : Int) := by omega
 have LA : Hid (A < 4294967296 /\ WD < 4294967296 /\ AT < 4 /\ t < 4294967296) := by show _ /\ _; omega
 have K79 := hK W
 clear hK eA eAT eWD hs ht h hG hc hb hz
 go_enter Tryz.func88, Tryz.ntmps88
 go_wp2_with fail
 refine K79.mono ?_
 rintro e w1 ⟨rfl, hb1⟩
 have d0 := keep_cell hb1 d0
 have d2 := keep_cell hb1 d2
 have H1 : Hid (w.grownBy w1 (some b) /\ MS M c cs g b w1) := ⟨gb_trans HM.out.1 (grown_of hb1), HM.out.2.1.keep hb1⟩
 clear hb1 K79 d1 d3 d4 d5 hW
 go_wp2
 simp [bodyPost, results, Tryz.results88]
 exact ⟨H1.out.1, rfl, _, H1.out.2⟩
end Go.Proofs.YtimfipkbddpdmaaGreatDoor
