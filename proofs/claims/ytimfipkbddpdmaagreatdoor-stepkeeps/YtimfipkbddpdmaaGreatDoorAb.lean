import Derived.Test.YtimfipkbddpdmaaGreatDoorVals
import Derived.Test.YtimfipkbddpdmaaGreatDoorFn
import Derived.WalkKit
import Derived.WalkSpells
import Derived.WalkLawsBesides
import Derived.Deep.QuietTactic
import Derived.BigQuiet
import Derived.RegionTactic
import Derived.Test.YtimfipkbddpdmaaGreatDoorProg
import Derived.Test.YtimfipkbddpdmaaGreatDoorSm
import Derived.Test.YtimfipkbddpdmaaGreatDoorBel
import Derived.Test.YtimfipkbddpdmaaGreatDoorFd
set_option linter.unusedVariables false
set_option linter.unusedSimpArgs false
set_option maxRecDepth 100000
open Go Go.RowKit
namespace Go.Proofs.YtimfipkbddpdmaaGreatDoor
def nameB (n : ByteArray) (r : Rw) : Bool := r.name.toList == n.toList
theorem clo34 (r : Rw) (n : ByteArray) (pn : Addr) (w : World) (hc : w.cell? pn = some (.string n)) : Calls Tryz.prog 140 #[r.val, .pointer (some pn)] w fun e w' => e = .returned (.bool (nameB n r)) /\ Below w.heap.size w w' := by
 obtain ⟨W, hW, hb, hz, c0, c1, c2, c3, _⟩ := box4 w (.string r.name) (.int .u32 r.op) (.int .u32 r.same) (.string r.form) 133
 have hc := keep_cell hb hc
 have HB : Hid (Below w.heap.size w W) := hb
 unfold nameB Rw.val
 clear hb hz
 go_enter Tryz.func140, Tryz.ntmps140
 go_wp2
 go_ret
 exact ⟨rfl, HB.out⟩
theorem box14 (w : World) (x a b c d : Value) (s t : Nat) : ∃ W, (w.alloc (.cells #[x] s)).alloc (.cells #[a, b, c, d] t) = W /\ Below w.heap.size w W /\ W.heap.size = w.heap.size + 2 /\ W.cell? ⟨w.heap.size, 0, none⟩ = some x /\
  Free W ⟨w.heap.size + 1, 0, none⟩ /\ Free W ⟨w.heap.size + 1, 1, none⟩ /\ Free W ⟨w.heap.size + 1, 2, none⟩ /\ Free W ⟨w.heap.size + 1, 3, none⟩ := by
 have hz : w.heap.size + 1 = (w.alloc (.cells #[x] s)).heap.size := by simp
 refine ⟨_, rfl, ((Below.refl _ _).alloc (Nat.le_refl _) _).alloc (by simp) _, by simp, ?_, ⟨⟨a, ?_⟩, ?_⟩, ⟨⟨b, ?_⟩, ?_⟩, ⟨⟨c, ?_⟩, ?_⟩, ⟨⟨d, ?_⟩, ?_⟩⟩
 all_goals first | exact cell_old (cell_newA w _ _ _ _ _ rfl rfl) _ | exact cell_newA _ _ _ _ _ _ hz rfl | (rw [World.frozen?_alloc_at _ _ _ _ hz])
set_option maxHeartbeats 1000000 in
theorem named24 (n : ByteArray) (w : World) : Calls Tryz.prog 106 #[.string n] w fun e w' => e = .returned (.tuple #[(foundR (nameB n)).val, .bool (isFound (nameB n))]) /\ Below w.heap.size w w' := by
 obtain ⟨W, hW, hb, hz, cn, f0, f1, f2, f3⟩ := box14 w (.string n) (.string ⟨#[]⟩) (.int .u32 0) (.int .u32 0) (.string ⟨#[]⟩) 9 133
 have K16 := found16_34 (nameB n) ⟨w.heap.size, 0, none⟩ W (fun r hr w' h => clo34 r n _ w' (keep_cell h cn))
 generalize foundR (nameB n) = R at K16 |-
 generalize isFound (nameB n) = fb at K16 |-
 obtain ⟨name, op, same, form⟩ := R
 unfold Rw.val at K16 |-
 simp only at K16 |-
 have HB : Hid (Below w.heap.size w W) := hb
 have HF : Hid (∀ w', Below W.heap.size W w' -> Free w' ⟨w.heap.size + 1, 0, none⟩ /\ Free w' ⟨w.heap.size + 1, 1, none⟩ /\ Free w' ⟨w.heap.size + 1, 2, none⟩ /\ Free w' ⟨w.heap.size + 1, 3, none⟩) := fun w' h => ⟨f0.keep h, f1.keep h, f2.keep h, f3.keep h⟩
 clear hb hz f0 f1 f2 f3
 go_enter Tryz.func106, Tryz.ntmps106
 go_wp2_with fail
 refine K16.mono ?_
 rintro e w3 ⟨rfl, hb3⟩
 obtain ⟨f0, f1, f2, f3⟩ := HF.out w3 hb3
 have q0 := f0.cell
 have q1 := f1.cell
 have q2 := f2.cell
 have q3 := f3.cell
 have z0 := f0.frozen
 have z1 := f1.frozen
 have z2 := f2.frozen
 have z3 := f3.frozen
 have hres := res4 w3 (w.heap.size + 1) (.string name) (.int .u32 op) (.int .u32 same) (.string form) f0 f1 f2 f3
 simp only at hres
 have HBE := below4 (n := w.heap.size + 1) (below_tr HB.out hb3) (by omega) (.string name) (.int .u32 op) (.int .u32 same) (.string form)
 obtain ⟨W9, hW9⟩ : ∃ z, (((w3.setCell ⟨w.heap.size + 1, 0, none⟩ (.string name)).setCell ⟨w.heap.size + 1, 1, none⟩ (.int .u32 op)).setCell ⟨w.heap.size + 1, 2, none⟩ (.int .u32 same)).setCell ⟨w.heap.size + 1, 3, none⟩ (.string form) = z := ⟨_, rfl⟩
 rw [hW9] at hres HBE
 have HBE : Hid _ := HBE
 obtain ⟨s0, s1, s2, s3⟩ := hres
 clear K16 hb3 f0 f1 f2 f3
 go_wp2
 refine bodyPost_ret (v := .tuple #[.agg #[.string name, .int .u32 op, .int .u32 same, .string form], .bool fb]) ?_ rfl ⟨rfl, HBE.out⟩
 rw [results_cell_tmp rfl]; simp [go_sem, s0, s1, s2, s3]
theorem form13 (n : ByteArray) (w : World) : Calls Tryz.prog 87 #[.string n] w fun e w' => e = .returned (.string (foundR (nameB n)).form) /\ Below w.heap.size w w' := by
 have K24 := named24 n w
 generalize foundR (nameB n) = R at K24 |-
 generalize isFound (nameB n) = fb at K24
 obtain ⟨name, op, same, form⟩ := R
 unfold Rw.val at K24
 simp only at K24 |-
 go_enter Tryz.func87, Tryz.ntmps87
 go_wp2_with fail
 refine K24.mono ?_
 rintro e w3 ⟨rfl, hb3⟩
 obtain ⟨w4, hw4, hb4, hz4, k0, k1, k2, k3, _⟩ := box4 w3 (.string name) (.int .u32 op) (.int .u32 same) (.string form) 133
 have HB : Hid (Below w.heap.size w w4) := below_tr hb3 hb4
 clear hb3 hb4 hz4 K24
 go_wp2
 go_ret
 exact ⟨rfl, HB.out⟩
def shOf (i : In) : Sh := (foundR (nameB i.name)).shape
def isIns (i : In) : Bool := isFound (nameB i.name) && belongB (shOf i) i (wordN (shOf i) i)
def encN (i : In) : Nat := if isIns i then wordN (shOf i) i else 0
theorem word_lt (s : Sh) (i : In) (hs : s.same < 4294967296) : wordN s i < 4294967296 := by
 have m : ∀ a : Nat, a % 4294967296 < 4294967296 := fun a => by omega
 have h0 := m (s.op * 67108864)
 have h1 := m (i.imm * 2 ^ tzN s.great)
 have h2 : (if isDsd s then shN i.rd 65536 else 0) < 4294967296 := by
  split
  ·exact shN_lt _ _
  ·omega
 have h3 := shN_lt i.rs 2097152
 have h4 := shN_lt i.rt 65536
 have h5 := shN_lt i.rd 2048
 have h6 := shN_lt i.sa 64
 rw [wordN, bareN]
 generalize s.op * 67108864 % 4294967296 = a0 at h0 |-
 generalize i.imm * 2 ^ tzN s.great % 4294967296 = a1 at h1 |-
 generalize (if isDsd s then shN i.rd 65536 else 0) = a2 at h2 |-
 exact or_lt _ _ (or_lt _ _ (or_lt _ _ (or_lt _ _ h0 hs) (or_lt _ _ (or_lt _ _ (or_lt _ _ h3 h4) h5) h6)) h2) h1
theorem enc_is (i : In) : isIns i = (isFound (nameB i.name) && belongB (foundR (nameB i.name)).shape i (wordN (foundR (nameB i.name)).shape i)) /\ encN i = if isIns i then wordN (foundR (nameB i.name)).shape i else 0 := by
 refine ⟨by rw [isIns, shOf], by rw [encN, shOf]⟩
theorem new6 (w : World) : ∃ W, w.alloc (.cells #[.string ⟨#[]⟩, .int .u32 0, .int .u32 0, .string ⟨#[]⟩, .int .u32 0, .int .u32 0] 139) = W /\ Below w.heap.size w W /\ F6 W w.heap.size := by
 refine ⟨_, rfl, (Below.refl _ _).alloc (Nat.le_refl _) _, ⟨⟨.string ⟨#[]⟩, ?_⟩, ?_⟩, ⟨⟨.int .u32 0, ?_⟩, ?_⟩, ⟨⟨.int .u32 0, ?_⟩, ?_⟩, ⟨⟨.string ⟨#[]⟩, ?_⟩, ?_⟩, ⟨⟨.int .u32 0, ?_⟩, ?_⟩, ⟨⟨.int .u32 0, ?_⟩, ?_⟩⟩
 all_goals first | exact cell_newA w _ _ _ _ _ rfl rfl | (rw [World.frozen?_alloc_at _ _ _ _ rfl])
set_option maxHeartbeats 1000000 in
theorem encode11 (i : In) (hi : i.imm < 4294967296) (w : World) (ht : Tab w) : Calls Tryz.prog 121 #[i.val] w fun e w' => e = .returned (.tuple #[.int .u32 (encN i : Int), .bool (isIns i)]) /\ Below w.heap.size w w' := by
 obtain ⟨W, hW, hb, hz, d0, d1, d2, d3, d4, d5⟩ := box6 w (.string i.name) (.int .i64 i.rs) (.int .i64 i.rt) (.int .i64 i.rd) (.int .i64 i.sa) (.int .u32 i.imm) 55
 have K24 := named24 i.name W
 have HT : Hid (∀ w', Below W.heap.size W w' -> Tab w') := fun w' h => ht.keep (below_tr hb h)
 have hok := found_ok (nameB i.name)
 have HE : Hid (isIns i = (isFound (nameB i.name) && belongB (foundR (nameB i.name)).shape i (wordN (foundR (nameB i.name)).shape i)) /\ encN i = if isIns i then wordN (foundR (nameB i.name)).shape i else 0) := enc_is i
 generalize encN i = E at HE |-
 generalize isIns i = ib at HE |-
 generalize isFound (nameB i.name) = fb at K24 HE
 generalize foundR (nameB i.name) = R at hok HE K24
 have hsa : R.shape.same < 4294967296 := by have := hok.same; show R.same < _; omega
 have hfw : R.shape.few < 4294967296 := by have := hok.few; omega
 have K18 : Hid (∀ w' bl, LetM w' bl -> Calls Tryz.prog 76 #[.map (some bl), R.val] w' fun e w'' => e = .returned R.shape.val /\ Below w'.heap.size w' w'') := fun w' bl h => shape18 _ bl w' hok.fm h
 have hgr := hok.great
 generalize R.shape = S at hsa hfw K18 HE hgr
 have hwl := word_lt S i hsa
 have K25 : Hid (∀ w', Below W.heap.size W w' -> Calls Tryz.prog 97 #[S.val, i.val] w' fun e w'' => e = .returned (.int .u32 (wordN S i : Int)) /\ Below w'.heap.size w' w'') := fun w' h => word25 _ i w' hi hsa hgr (HT.out w' h)
 generalize wordN S i = WN at hwl K25 HE
 have K19 : Hid (∀ w', Below W.heap.size W w' -> Calls Tryz.prog 77 #[S.val, i.val, .int .u32 WN] w' fun e w'' => e = .returned (.bool (belongB S i WN)) /\ Below w'.heap.size w' w'') := fun w' h => belong19 _ i _ w' hwl hi hfw hsa hgr (HT.out w' h)
 generalize belongB S i WN = bb at HE K19
 have HB : Hid (Below w.heap.size w W) := hb
 clear hwl hfw hgr
 clear ht hi hok hsa hb hz
 obtain ⟨name, op, same, form⟩ := R
 obtain ⟨sn, so, ss, sf, sfw, sg⟩ := S
 obtain ⟨nm, rs, rt, rd, sa, imm⟩ := i
 simp only [Rw.val, In.val, Sh.val] at K18 K25 K19 K24 d0 d1 d2 d3 d4 d5 hW |-
 go_enter Tryz.func121, Tryz.ntmps121
 go_wp2_with fail
 refine K24.mono ?_
 rintro e w3 ⟨rfl, hb3⟩
 obtain ⟨w4, hw4, hb4, hz4, k0, k1, k2, k3, _⟩ := box4 w3 (.string name) (.int .u32 op) (.int .u32 same) (.string form) 133
 have HB4 : Hid (Below W.heap.size W w4) := below_tr hb3 hb4
 clear K24 hb3 hb4 hz4
 go_wp2
 refine wp_region_cutL (R := Ext) [⟨14, fun v w' => ∃ bl, v = .map (some bl) /\ LetM w' bl, fun v w' w'' hb ⟨bl, e, h⟩ => ⟨bl, e, h.keep hb⟩⟩, ⟨15, fun v _ => v = .agg #[.string name, .int .u32 op, .int .u32 same, .string form], fun _ _ _ _ h => h⟩, ⟨16, fun v _ => v = .agg #[.string sn, .int .u32 so, .int .u32 ss, .string sf, .int .u32 sfw, .int .u32 sg], fun _ _ _ _ h => h⟩, ⟨6, fun v w' => ∃ b, v = .pointer (some ⟨b, 0, none⟩) /\ F6 w' b /\ w4.heap.size <= b, fun v w' w'' hb ⟨b, e, h, h'⟩ => ⟨b, e, h.keep hb, h'⟩⟩] _ 4 _ (by kernel_rfl) rfl (by kernel_rfl) rfl rfl rfl (by kernel_rfl) (Below.drew (Below.refl _ _)) (fun _ _ _ h1 h2 => below_tr h1 h2) (fun QQ => ⟨?_, ?_, ?_, ?_, trivial⟩) (fun f wy hR hf A hA K hK => ?_)
 ·intro A wx hR hout hdep K hK
  refine yes ?_
  simp [go_sem]
  refine (letters15 wx).mono ?_
  rintro e wG ⟨rfl, hbG, hlG⟩
  exact hK.out _ _ hbG ⟨_, rfl, hlG⟩
 ·intro A wx hR hout hdep K hK
  have h4 : A.tmps[4]?.getD undef = .pointer (some ⟨w3.heap.size, 0, none⟩) := hout 4 (by kernel_rfl)
  refine yes ?_
  have k0 := keep_cell hR k0
  have k1 := keep_cell hR k1
  have k2 := keep_cell hR k2
  have k3 := keep_cell hR k3
  simp [go_sem, h4, k0, k1, k2, k3]
  exact hK.out _ _ (Below.refl _ _) rfl
 ·intro A wx hR hout hdep K hK
  have h14 := hdep 14 (by kernel_rfl)
  have h15 : A.tmps[15]?.getD undef = .agg #[.string name, .int .u32 op, .int .u32 same, .string form] := hdep 15 (by kernel_rfl)
  refine yes ?_
  obtain ⟨bl, e14, hlm⟩ := h14
  simp [go_sem, e14, h15]
  refine (K18.out wx bl hlm).mono ?_
  rintro e wG ⟨rfl, hbG⟩
  exact hK.out _ _ hbG rfl
 ·intro A wx hR hout hdep K hK
  refine yes ?_
  simp [go_sem]
  obtain ⟨wN, hwN, hbN, hF6⟩ := new6 wx
  rw [hwN]
  exact hK.out _ _ hbN ⟨_, rfl, hF6, hR.size⟩
 obtain ⟨b, hv6, hF6, hbl⟩ : ∃ b, f 6 = .pointer (some ⟨b, 0, none⟩) /\ F6 wy b /\ w4.heap.size <= b := hf 6 (by kernel_rfl)
 have hv16 : f 16 = .agg #[.string sn, .int .u32 so, .int .u32 ss, .string sf, .int .u32 sfw, .int .u32 sg] := hf 16 (by kernel_rfl)
 simp only [putSl, List.take_succ_cons, List.take_zero, Act.put, List.setIfInBounds_toArray, List.set_cons_zero, List.set_cons_succ, hv6, hv16] at hA
 subst hA
 have q0 := hF6.1.cell
 have q1 := hF6.2.1.cell
 have q2 := hF6.2.2.1.cell
 have q3 := hF6.2.2.2.1.cell
 have q4 := hF6.2.2.2.2.1.cell
 have q5 := hF6.2.2.2.2.2.cell
 have z0 := hF6.1.frozen
 have z1 := hF6.2.1.frozen
 have z2 := hF6.2.2.1.frozen
 have z3 := hF6.2.2.2.1.frozen
 have z4 := hF6.2.2.2.2.1.frozen
 have z5 := hF6.2.2.2.2.2.frozen
 have hres := res6 wy b (.string sn) (.int .u32 so) (.int .u32 ss) (.string sf) (.int .u32 sfw) (.int .u32 sg) hF6
 simp only at hres
 have hb5 : Below w4.heap.size w4 _ := below6 (n := b) hR hbl (.string sn) (.int .u32 so) (.int .u32 ss) (.string sf) (.int .u32 sfw) (.int .u32 sg)
 obtain ⟨w5, hw5⟩ : ∃ z, (((((wy.setCell ⟨b, 0, none⟩ (.string sn)).setCell ⟨b, 1, none⟩ (.int .u32 so)).setCell ⟨b, 2, none⟩ (.int .u32 ss)).setCell ⟨b, 3, none⟩ (.string sf)).setCell ⟨b, 4, none⟩ (.int .u32 sfw)).setCell ⟨b, 5, none⟩ (.int .u32 sg) = z := ⟨_, rfl⟩
 rw [hw5] at hres hb5
 obtain ⟨s0, s1, s2, s3, s4, s5⟩ := hres
 simp [go_sem, q0, q1, q2, q3, q4, q5, z0, z1, z2, z3, z4, z5, hw5]
 refine hK.out _ _ ?_
 have HB5 : Hid (Below W.heap.size W w5) := below_tr HB4.out hb5
 have d0 := keep_cell HB5.out d0
 have d1 := keep_cell HB5.out d1
 have d2 := keep_cell HB5.out d2
 have d3 := keep_cell HB5.out d3
 have d4 := keep_cell HB5.out d4
 have d5 := keep_cell HB5.out d5
 have KW := K25.out w5 HB5.out
 clear hf hv6 hv16 hF6 q0 q1 q2 q3 q4 q5 z0 z1 z2 z3 z4 z5 hw5 hb5 hR hbl k0 k1 k2 k3 K18 hK K25
 go_wp2_with fail
 refine KW.mono ?_
 rintro e w6 ⟨rfl, hb6⟩
 have HB6 : Hid (Below W.heap.size W w6) := below_tr HB5.out hb6
 have d0 := keep_cell hb6 d0
 have d1 := keep_cell hb6 d1
 have d2 := keep_cell hb6 d2
 have d3 := keep_cell hb6 d3
 have d4 := keep_cell hb6 d4
 have d5 := keep_cell hb6 d5
 have s0 := keep_cell hb6 s0
 have s1 := keep_cell hb6 s1
 have s2 := keep_cell hb6 s2
 have s3 := keep_cell hb6 s3
 have s4 := keep_cell hb6 s4
 have s5 := keep_cell hb6 s5
 have KB := K19.out w6 HB6.out
 clear hb6 KW K19
 cases fb with
 | false =>
  have HEE : Hid (ib = false /\ E = 0) := by
   obtain ⟨h1, h2⟩ := HE.out
   simp only [Bool.false_and] at h1
   subst h1
   exact ⟨rfl, by rw [h2]; rfl⟩
  have HBE : Hid (Below w.heap.size w w6) := below_tr HB.out HB6.out
  clear HE KB
  go_wp2
  go_ret2
  exact ⟨by rw [HEE.out.1, HEE.out.2]; rfl, HBE.out⟩
 | true =>
  go_wp2_with fail
  refine KB.mono ?_
  rintro e w7 ⟨rfl, hb7⟩
  have HBE : Hid (Below w.heap.size w w7) := below_tr HB.out (below_tr HB6.out hb7)
  cases bb with
  | false =>
   have HEE : Hid (ib = false /\ E = 0) := by
    obtain ⟨h1, h2⟩ := HE.out
    simp only [Bool.true_and] at h1
    subst h1
    exact ⟨rfl, by rw [h2]; rfl⟩
   clear HE KB hb7
   go_wp2
   go_ret2
   exact ⟨by rw [HEE.out.1, HEE.out.2]; rfl, HBE.out⟩
  | true =>
   have HEE : Hid (ib = true /\ E = WN) := by
    obtain ⟨h1, h2⟩ := HE.out
    simp only [Bool.true_and] at h1
    subst h1
    exact ⟨rfl, h2.trans (if_pos rfl)⟩
   clear HE KB hb7
   go_wp2
   go_ret2
   exact ⟨by rw [HEE.out.1, HEE.out.2]; rfl, HBE.out⟩
theorem toList_inj {a b : ByteArray} (h : a.toList = b.toList) : a = b := by
 rw [ByteArray.toList_eq, ByteArray.toList_eq] at h
 obtain ⟨⟨x⟩⟩ := a
 obtain ⟨⟨y⟩⟩ := b
 have h : x = y := h
 rw [h]
theorem ins_is {i : In} (h : isIns i = true) : ∃ a, ∃ ha : a < rowsL.length, i.name = rowsL[a].name /\ belongB rowsL[a].shape i (wordN rowsL[a].shape i) = true /\ encN i = wordN rowsL[a].shape i := by
 obtain ⟨e1, e2⟩ := enc_is i
 rw [h, if_pos rfl] at e2
 rw [h] at e1
 have e1 := e1.symm
 rw [Bool.and_eq_true] at e1
 obtain ⟨hf, hb⟩ := e1
 unfold isFound at hf
 obtain ⟨r, hr⟩ := Option.isSome_iff_exists.1 hf
 have hm : nameB i.name r = true := List.find?_some hr
 unfold nameB at hm
 obtain ⟨a, ha, e⟩ := List.getElem_of_mem (List.mem_of_find?_eq_some hr)
 have hF : foundR (nameB i.name) = rowsL[a] := by rw [foundR, hr, e]; rfl
 rw [hF] at hb e2
 exact ⟨a, ha, by rw [e]; exact (toList_inj (by simpa using hm)).symm, hb, e2⟩
theorem rows_great : (rowsL.all fun r => decide (r.shape.great < 67108864) && decide (r.form.toList = [116, 100] -> r.name.toList ≠ [105, 110, 115])) = true := by decide +kernel
theorem insN_small (r : Rw) (hr : r ∈ rowsL) (x : Nat) : (0 <= (insN r.shape x).rs /\ (insN r.shape x).rs < 32) /\ (0 <= (insN r.shape x).rt /\ (insN r.shape x).rt < 32) /\ (0 <= (insN r.shape x).rd /\ (insN r.shape x).rd < 32) /\ (0 <= (insN r.shape x).sa /\ (insN r.shape x).sa < 32) /\ (insN r.shape x).imm < 67108864 := by
 have hg := List.all_eq_true.1 rows_great r hr
 rw [Bool.and_eq_true] at hg
 have hg : r.shape.great < 67108864 := of_decide_eq_true hg.1
 have h1 : (x &&& r.shape.great) <= r.shape.great := Nat.and_le_right
 have h2 : (x &&& r.shape.great) / 2 ^ tzN r.shape.great <= (x &&& r.shape.great) := Nat.div_le_self _ _
 have hb : ∀ n : Nat, 0 <= ((n % 32 : Nat) : Int) /\ ((n % 32 : Nat) : Int) < 32 := fun n => by omega
 refine ⟨hb _, hb _, hb _, hb _, ?_⟩
 show (x &&& r.shape.great) / 2 ^ tzN r.shape.great < _
 omega
theorem ins_small {i : In} (h : isIns i = true) : (0 <= i.rs /\ i.rs < 32) /\ (0 <= i.rt /\ i.rt < 32) /\ (0 <= i.rd /\ i.rd < 32) /\ (0 <= i.sa /\ i.sa < 32) /\ i.imm < 67108864 := by
 obtain ⟨a, ha, hn, hb, _⟩ := ins_is h
 simp only [belongB, Bool.and_eq_true] at hb
 have he := (inEq_iff _ _).1 hb.1
 have hs := insN_small rowsL[a] (List.getElem_mem ha) (wordN rowsL[a].shape i)
 rw [he] at hs
 exact hs
theorem ins_le {i : In} (h : isIns i = true) (hn : i.name.toList = [105, 110, 115]) : i.sa <= i.rd := by
 obtain ⟨a, ha, hn', hb, _⟩ := ins_is h
 simp only [belongB, Bool.and_eq_true] at hb
 have h3 := hb.2.2
 have hs : rowsL[a].shape.name = rowsL[a].name := rfl
 have hg := List.all_eq_true.1 rows_great rowsL[a] (List.getElem_mem ha)
 rw [Bool.and_eq_true] at hg
 have htd : rowsL[a].form.toList = [116, 100] -> rowsL[a].name.toList ≠ [105, 110, 115] := of_decide_eq_true hg.2
 have hf : rowsL[a].shape.name.toList = [105, 110, 115] := by rw [hs, <- hn']; exact hn
 have h4 : ¬ rowsL[a].shape.form.toList = [116, 100] := fun e => htd e hf
 rw [allowsB, if_neg (by simpa using h4), if_neg (by rw [hf]; decide), if_pos (by rw [hf]; decide)] at h3
 simpa using h3
theorem dec_small {x : Nat} (h : isWord x = true) : (0 <= (decN x).rs /\ (decN x).rs < 32) /\ (0 <= (decN x).rt /\ (decN x).rt < 32) /\ (0 <= (decN x).rd /\ (decN x).rd < 32) /\ (0 <= (decN x).sa /\ (decN x).sa < 32) /\ (decN x).imm < 67108864 := by
 have hd : decN x = insN (rowOf x).shape x := by rw [decN, if_pos h]
 unfold isWord isFound at h
 obtain ⟨r, hr⟩ := Option.isSome_iff_exists.1 h
 have e : rowOf x = r := by rw [rowOf, foundR, hr]; rfl
 rw [hd, e]
 exact insN_small r (List.mem_of_find?_eq_some hr) x
end Go.Proofs.YtimfipkbddpdmaaGreatDoor
namespace Go.Proofs.YtimfipkbddpdmaaGreatDoor.Sw
/-! ### Signs -/
def sextS (v b : Nat) : Nat := if 2 ^ (b - 1) <= v % 2 ^ b then v % 2 ^ b + 4294967296 - 2 ^ b else v % 2 ^ b
def sextI (v : Nat) (b : Int) : Nat := if 1 <= b /\ b <= 32 then sextS v b.toNat else v
theorem pow_split (b : Nat) (h : b <= 32) : 2 ^ b * 2 ^ (32 - b) = 4294967296 := by
 rw [<- Nat.pow_add, show b + (32 - b) = 32 from by omega]
theorem pow_pos2 (b : Nat) : 0 < 2 ^ b := Nat.pow_pos (by decide)
theorem pow_le32 (b : Nat) (h : b <= 32) : 2 ^ b <= 4294967296 := by
 have := Nat.pow_le_pow_right (show 1 <= 2 by decide) h
 exact this
theorem pow_half (b : Nat) (h : 1 <= b) : 2 ^ b = 2 * 2 ^ (b - 1) := by
 obtain ⟨c, rfl⟩ : ∃ c, b = c + 1 := ⟨b - 1, by omega⟩
 rw [Nat.pow_succ, Nat.add_sub_cancel, Nat.mul_comm]
theorem sext_key (v b : Nat) (h1 : 1 <= b) (h2 : b <= 32) : wrap32 ((v : Int) * 2 ^ (32 - b) % 4294967296) / 2 ^ (32 - b) % 4294967296 = ((sextS v b : Nat) : Int) := by
 have hs := pow_split b h2
 have hr := pow_pos2 (32 - b)
 have hh := pow_half b h1
 have hlt := Nat.mod_lt v (pow_pos2 b)
 have hq := pow_le32 b h2
 have hq0 := pow_pos2 b
 have e1 : (v : Int) * 2 ^ (32 - b) % 4294967296 = ((v % 2 ^ b * 2 ^ (32 - b) : Nat) : Int) := by
  rw [<- Nat.mul_mod_mul_right, hs]
  simp
 rw [e1]
 have e2 : ((2 : Int) ^ (32 - b)) = ((2 ^ (32 - b) : Nat) : Int) := by simp
 rw [e2]
 unfold sextS
 generalize hrr : 2 ^ (32 - b) = r at *
 generalize hll : v % 2 ^ b = l at *
 generalize hqq : 2 ^ b = q at *
 generalize hpp : 2 ^ (b - 1) = p at *
 have hpr : p * r * 2 = 4294967296 := by rw [<- hs, hh, Nat.mul_right_comm, Nat.mul_comm p 2]
 by_cases hc : p <= l
 ·rw [if_pos hc]
  have k1 : p * r <= l * r := Nat.mul_le_mul_right _ hc
  have k2 : l * r < q * r := Nat.mul_lt_mul_of_pos_right hlt hr
  have e3 : wrap32 ((l * r : Nat) : Int) = ((l : Int) - q) * r := by
   rw [Int.sub_mul, <- Int.natCast_mul, <- Int.natCast_mul, hs]
   unfold wrap32
   omega
  rw [e3, Int.mul_ediv_cancel _ (by omega)]
  omega
 ·rw [if_neg hc]
  have k1 : l * r < p * r := Nat.mul_lt_mul_of_pos_right (by omega) hr
  have e3 : wrap32 ((l * r : Nat) : Int) = (l : Int) * r := by
   rw [<- Int.natCast_mul]
   unfold wrap32
   omega
  rw [e3, Int.mul_ediv_cancel _ (by omega)]
  omega
/-! ### Turns -/
def rotS (v d : Nat) : Nat := v / 2 ^ d + v % 2 ^ d * 2 ^ (32 - d)
theorem and_31 (n : Int) : bits .and .i64 n 31 = n % 32 := by
 have h31 : (BitVec.ofInt 64 31).toNat = 2 ^ 5 - 1 := by decide
 have key : (BitVec.ofInt 64 n &&& BitVec.ofInt 64 31).toNat = (n % ((2 ^ 64 : Nat) : Int)).toNat % 2 ^ 5 := by
  rw [BitVec.toNat_and, h31, Nat.and_two_pow_sub_one_eq_mod, BitVec.toNat_ofInt]
 show IntKind.i64.wrap ((BitVec.ofInt 64 n &&& BitVec.ofInt 64 31).toNat : Nat) = n % 32
 rw [key, IntKind.wrap_i64]
 omega
theorem div_lt_pow (v d : Nat) (hv : v < 4294967296) (hd : d <= 32) : v / 2 ^ d < 2 ^ (32 - d) := by
 rw [Nat.div_lt_iff_lt_mul (pow_pos2 d), Nat.mul_comm, pow_split d hd]; exact hv
theorem rot_lt (v d : Nat) (hv : v < 4294967296) (hd : d <= 32) : rotS v d < 4294967296 := by
 have h1 := div_lt_pow v d hv hd
 have h2 := Nat.mod_lt v (pow_pos2 d)
 have h3 := pow_split d hd
 have h4 : (v % 2 ^ d + 1) * 2 ^ (32 - d) <= 2 ^ d * 2 ^ (32 - d) := Nat.mul_le_mul_right _ h2
 unfold rotS
 rw [Nat.add_mul, Nat.one_mul] at h4
 omega
theorem rot_key (v d : Nat) (hv : v < 4294967296) (hd : d <= 32) : bits .or .u32 ((v : Int) / 2 ^ d) ((v : Int) * 2 ^ (32 - d) % 4294967296) = ((rotS v d : Nat) : Int) := by
 have hs := pow_split d hd
 have h1 := div_lt_pow v d hv hd
 have h5 := rot_lt v d hv hd
 have e1 : (v : Int) * 2 ^ (32 - d) % 4294967296 = ((v % 2 ^ d * 2 ^ (32 - d) : Nat) : Int) := by
  rw [<- Nat.mul_mod_mul_right, hs]
  simp
 have e2 : (v : Int) / 2 ^ d = ((v / 2 ^ d : Nat) : Int) := by simp
 unfold rotS at h5 |-
 rw [e1, e2, u32_or_nat _ _ (by omega) (by omega), Nat.or_comm, nat_join (32 - d) _ _ (Nat.mul_mod_left _ _) h1]
 omega
theorem ret_int {k : IntKind} {a b : Int} (h : a = b) : Ending.returned (.int k a) = .returned (.int k b) := by rw [h]
set_option maxHeartbeats 400000 in
theorem sext_in (v : Nat) (b : Nat) (h1 : 1 <= b) (h2 : b <= 32) (w : World) :
  Calls Tryz.prog 100 #[.int .u32 v, .int .i64 b] w fun e w' => e = .returned (.int .u32 ((sextS v b : Nat) : Int)) /\ w' = w := by
 have hk : Hid (wrap32 ((v : Int) * 2 ^ (32 - b) % 4294967296) / 2 ^ (32 - b) % 4294967296 = ((sextS v b : Nat) : Int)) := sext_key v b h1 h2
 go_enter Tryz.func100, Tryz.ntmps100
 go_wp2
 go_ret
 exact ⟨ret_int hk.out, rfl⟩
set_option maxHeartbeats 400000 in
theorem sext_out (v : Int) (b : Int) (h : b < 1 \/ 32 < b) (w : World) :
  Calls Tryz.prog 100 #[.int .u32 v, .int .i64 b] w fun e w' => e = .returned (.int .u32 v) /\ w' = w := by
 rcases h with h | h
 all_goals
  go_enter Tryz.func100, Tryz.ntmps100
  go_wp2
  go_ret
  exact ⟨rfl, rfl⟩
theorem sext_any (v : Nat) (b : Int) (w : World) :
  Calls Tryz.prog 100 #[.int .u32 v, .int .i64 b] w fun e w' => e = .returned (.int .u32 ((sextI v b : Nat) : Int)) /\ w' = w := by
 by_cases h : 1 <= b /\ b <= 32
 ·obtain ⟨k, rfl⟩ := Int.eq_ofNat_of_zero_le (show 0 <= b by omega)
  rw [sextI, if_pos h, Int.toNat_natCast]
  exact sext_in v k (by omega) (by omega) w
 ·rw [sextI, if_neg h]
  exact sext_out v b (by omega) w
set_option maxHeartbeats 400000 in
theorem rot_in (v : Nat) (hv : v < 4294967296) (n : Int) (d : Nat) (hd : d < 32) (hnd : n % 32 = (d : Int)) (w : World) :
  Calls Tryz.prog 180 #[.int .u32 v, .int .i64 n] w fun e w' => e = .returned (.int .u32 ((rotS v d : Nat) : Int)) /\ Below w.heap.size w w' := by
 have ha : bits .and .i64 n 31 = (d : Int) := by rw [and_31, hnd]
 have hk : Hid (bits .or .u32 ((v : Int) / 2 ^ d) ((v : Int) * 2 ^ (32 - d) % 4294967296) = ((rotS v d : Nat) : Int)) := rot_key v d hv (by omega)
 clear hnd
 go_enter Tryz.func180, Tryz.ntmps180
 go_wp2
 go_quiet (fail)
 go_wp2
 go_ret
 exact ⟨ret_int hk.out, below_drewN (Below.refl _ _) _⟩
def rotI (v : Nat) (n : Int) : Nat := rotS v (n % 32).toNat
theorem rot_any (v : Nat) (hv : v < 4294967296) (n : Int) (w : World) :
  Calls Tryz.prog 180 #[.int .u32 v, .int .i64 n] w fun e w' => e = .returned (.int .u32 ((rotI v n : Nat) : Int)) /\ Below w.heap.size w w' :=
 rot_in v hv n (n % 32).toNat (by omega) (by omega) w
end Go.Proofs.YtimfipkbddpdmaaGreatDoor.Sw
namespace Go.Proofs.YtimfipkbddpdmaaGreatDoor
structure Tk where
 s : Nat
 t : Nat
 imm : Nat
 simm : Nat
 sa : Int
 rd : Int
def Tk.val (x : Tk) : Value := .agg #[.int .u32 x.s, .int .u32 x.t, .int .u32 x.imm, .int .u32 x.simm, .int .i64 x.sa, .int .i64 x.rd]
structure Tk.Ok (x : Tk) : Prop where
 s : x.s < 4294967296
 t : x.t < 4294967296
 imm : x.imm < 4294967296
 simm : x.simm < 4294967296
def sg (v : Nat) : Int := if v < 2147483648 then (v : Int) else (v : Int) - 4294967296
theorem sg_wrap (v : Nat) (h : v < 4294967296) : wrap32 (v : Int) = sg v := by unfold wrap32 sg; split <;> omega
theorem sg_lo (v : Nat) (h : v < 4294967296) : -2147483648 <= sg v /\ sg v < 2147483648 := by unfold sg; split <;> omega
def outN (n : Int) : Nat := (n % 4294967296).toNat
theorem outN_is (n : Int) : ((outN n : Nat) : Int) = n % 4294967296 := by unfold outN; omega
def chk (n : Int) : Option Nat := if -2147483648 <= n /\ n <= 2147483647 then some (outN n) else none
abbrev thrown (n : Int) : List PanicEntry := [{ v := .iface 215 (.int .i64 n), recovered := false }]
def Told (r : Option Nat) (e : Ending) : Prop := match r with
 | some n => e = .returned (.int .u32 n)
 | none => ∃ m : Int, e = .panicked (thrown m)
theorem ret_u32 {a b : Int} (h : a = b) : Ending.returned (.int .u32 a) = .returned (.int .u32 b) := by rw [h]
theorem signed26 (v : Nat) (hv : v < 4294967296) (w : World) : Calls Tryz.prog 105 #[.int .u32 v] w fun e w' => e = .returned (.int .i64 (sg v)) /\ w' = w := by
 have h1 := sg_wrap v hv
 have h2 : Hid (wrap64 (sg v) = sg v) := by have := sg_lo v hv; show _ = _; unfold wrap64; omega
 go_enter Tryz.func105, Tryz.ntmps105
 go_wp2
 go_ret
 exact ⟨congrArg (fun z => Ending.returned (.int .i64 z)) h2.out, rfl⟩
theorem checked42_ok (n : Int) (h : -2147483648 <= n /\ n <= 2147483647) (w : World) : Calls Tryz.prog 154 #[.int .i64 n] w fun e w' => e = .returned (.int .u32 ((outN n : Nat) : Int)) /\ w' = w := by
 obtain ⟨h1, h2⟩ := h
 have ho : Hid (n % 4294967296 = ((outN n : Nat) : Int)) := (outN_is n).symm
 go_enter Tryz.func154, Tryz.ntmps154
 go_wp2
 go_ret
 exact ⟨ret_u32 ho.out, rfl⟩
theorem checked42_no (n : Int) (h : ¬ (-2147483648 <= n /\ n <= 2147483647)) (w : World) : Calls Tryz.prog 154 #[.int .i64 n] w fun e w' => e = .panicked (thrown n) /\ w' = w := by
 by_cases h1 : n < -2147483648
 ·clear h
  go_enter Tryz.func154, Tryz.ntmps154
  go_wp2
  exact ⟨rfl, rfl, rfl⟩
 ·have h2 : 2147483647 < n := by omega
  clear h
  go_enter Tryz.func154, Tryz.ntmps154
  go_wp2
  exact ⟨rfl, rfl, rfl⟩
def bitN (b : Bool) : Nat := if b then 1 else 0
theorem truth56 (b : Bool) (w : World) : Calls Tryz.prog 168 #[.bool b] w fun e w' => e = .returned (.int .u32 (bitN b : Int)) /\ w' = w := by
 cases b
 all_goals
  go_enter Tryz.func168, Tryz.ntmps168
  go_wp2
  go_ret
  exact ⟨rfl, rfl⟩
def lowN (n : Nat) : Nat := 2 ^ n - 1
theorem lowest75 (n : Nat) (hn : n <= 32) (w : World) : Calls Tryz.prog 187 #[.int .i64 n] w fun e w' => e = .returned (.int .u32 (lowN n : Int)) /\ w' = w := by
 have hk : Hid ((((2 : Int) ^ n) % 4294967296 - 1) % 4294967296 = ((lowN n : Nat) : Int)) := by
  show _ = _
  have h : ∀ n, n <= 32 -> (((2 : Int) ^ n) % 4294967296 - 1) % 4294967296 = ((lowN n : Nat) : Int) := by
   intro n hn
   have : n = 0 \/ n = 1 \/ n = 2 \/ n = 3 \/ n = 4 \/ n = 5 \/ n = 6 \/ n = 7 \/ n = 8 \/ n = 9 \/ n = 10 \/ n = 11 \/ n = 12 \/ n = 13 \/ n = 14 \/ n = 15 \/ n = 16 \/ n = 17 \/ n = 18 \/ n = 19 \/ n = 20 \/ n = 21 \/ n = 22 \/ n = 23 \/ n = 24 \/ n = 25 \/ n = 26 \/ n = 27 \/ n = 28 \/ n = 29 \/ n = 30 \/ n = 31 \/ n = 32 := by omega
   rcases this with h|h|h|h|h|h|h|h|h|h|h|h|h|h|h|h|h|h|h|h|h|h|h|h|h|h|h|h|h|h|h|h|h <;> subst h <;> decide
  exact h n hn
 go_enter Tryz.func187, Tryz.ntmps187
 go_wp2
 go_ret
 exact ⟨ret_u32 hk.out, rfl⟩
def topB (v k n : Nat) : Bool := v / 2 ^ (31 - n) % 2 == k
def leadF (v k : Nat) : Nat -> Nat -> Nat
 | 0, n => n
 | f + 1, n => if topB v k n then leadF v k f (n + 1) else n
def leadN (v k : Nat) : Nat := leadF v k 32 0
theorem and_one (v n : Nat) (hv : v < 4294967296) : bits .and .u32 ((v : Int) / 2 ^ n) 1 = ((v / 2 ^ n % 2 : Nat) : Int) := by
 have e : (v : Int) / 2 ^ n = ((v / 2 ^ n : Nat) : Int) := by simp
 have h : v / 2 ^ n <= v := Nat.div_le_self _ _
 rw [e, show (1 : Int) = ((1 : Nat) : Int) from rfl, and_u32 _ _ (by omega) (by decide)]
 rw [show v / 2 ^ n &&& 1 = v / 2 ^ n % 2 from Nat.and_two_pow_sub_one_eq_mod _ 1]
theorem clo92 (v k n : Nat) (hv : v < 4294967296) (hk : k < 4294967296) (hn : n < 32) (pv pk : Addr) (w : World) (cv : w.cell? pv = some (.int .u32 v)) (ck : w.cell? pk = some (.int .u32 k)) :
  Calls Tryz.prog 208 #[.int .u32 n, .pointer (some pv), .pointer (some pk)] w fun e w' => e = .returned (.bool (topB v k n)) /\ w' = w := by
 have h1 : (31 - (n : Int)) % 4294967296 = ((31 - n : Nat) : Int) := by omega
 have h2 := and_one v (31 - n) hv
 have h3 : Hid ((((v / 2 ^ (31 - n) % 2 : Nat) : Int) == (k : Int)) = topB v k n) := by
  show _ = _
  unfold topB
  generalize v / 2 ^ (31 - n) % 2 = a
  by_cases e : a = k
  ·subst e; rw [beq_self_eq_true, beq_self_eq_true]
  ·have h : ¬ (a : Int) = (k : Int) := by omega
   rw [beq_eq_false_iff_ne.2 h, beq_eq_false_iff_ne.2 e]
 generalize topB v k n = b at h3 |-
 generalize v / 2 ^ (31 - n) % 2 = a at h2 h3
 have h4 : min (31 - n) 64 = 31 - n := by omega
 go_enter Tryz.func208, Tryz.ntmps208
 go_wp2
 go_ret
 exact ⟨by rw [<- h3.out]; rfl, rfl⟩
theorem box11 (w : World) (a b : Value) (t u : Nat) : ∃ W, (w.alloc (.cells #[a] t)).alloc (.cells #[b] u) = W /\ Below w.heap.size w W /\ W.cell? ⟨w.heap.size, 0, none⟩ = some a /\ W.cell? ⟨w.heap.size + 1, 0, none⟩ = some b := by
 have hz : w.heap.size + 1 = (w.alloc (.cells #[a] t)).heap.size := by simp
 refine ⟨_, rfl, ((Below.refl _ _).alloc (Nat.le_refl _) _).alloc (by simp) _, ?_, ?_⟩
 ·exact cell_old (cell_newA w _ _ _ _ _ rfl rfl) _
 ·exact cell_newA _ _ _ _ _ _ hz rfl
set_option maxHeartbeats 1000000 in
theorem leading72 (v k : Nat) (hv : v < 4294967296) (hk : k < 4294967296) (w : World) : Calls Tryz.prog 184 #[.int .u32 v, .int .u32 k] w fun e w' => e = .returned (.int .u32 (leadN v k : Int)) /\ Below w.heap.size w w' := by
 obtain ⟨W, hW, hb, c0, c1⟩ := box11 w (.int .u32 v) (.int .u32 k) 22 22
 have KC : Hid (∀ n : Nat, n < 32 -> Calls Tryz.prog 208 #[.int .u32 n, .pointer (some ⟨w.heap.size, 0, none⟩), .pointer (some ⟨w.heap.size + 1, 0, none⟩)] W fun e w' => e = .returned (.bool (topB v k n)) /\ w' = W) := fun n hn => clo92 v k n hv hk hn _ _ W c0 c1
 have HB : Hid (Below w.heap.size w W) := hb
 obtain ⟨z, hz⟩ : ∃ z, z = leadN v k := ⟨_, rfl⟩
 rw [<- hz]
 have HZ : Hid (z = leadF v k 32 0) := hz
 clear hz hb hv hk c0 c1
 go_enter Tryz.func184, Tryz.ntmps184
 go_wp2
 go_loopw [6] (fun i wr => ∃ m : Nat, m <= 32 /\ i = .int .u32 m /\ wr = W /\ z = leadF v k (32 - m) m) (fun i _ => 32 - (intOf i).toNat)
 case atStart => exact ⟨0, by decide, rfl, rfl, HZ.out⟩
 case round =>
  obtain ⟨m, hm, rfl, rfl, hle⟩ := hrel
  have HL : Hid (z = leadF v k (32 - m) m) := hle
  clear hle
  by_cases hml : m < 32
  ·have K := KC.out m hml
   have HT : Hid (topB v k m = true -> z = leadF v k (32 - (m + 1)) (m + 1)) := fun h => by
    show _ = _
    rw [HL.out, show 32 - m = (32 - (m + 1)) + 1 from by omega]
    conv => lhs; unfold leadF
    rw [if_pos h]
   have HF : Hid (topB v k m = false -> z = m) := fun h => by
    show _ = _
    rw [HL.out, show 32 - m = (32 - (m + 1)) + 1 from by omega]
    unfold leadF
    rw [h]; rfl
   generalize topB v k m = tb at K HT HF
   have hmI : (m : Int) < 32 := by omega
   have hd : decide ((m : Int) < 32) = true := decide_eq_true hmI
   have hmw : ((m : Int) + 1) % 4294967296 = (m : Int) + 1 := by omega
   go_wp2_with fail
   refine K.mono ?_
   rintro e wG ⟨rfl, rfl⟩
   cases tb with
   | true =>
    have HTT : Hid (z = leadF v k (32 - (m + 1)) (m + 1)) := HT.out rfl
    go_wp2
    go_roundw
    case rel => exact ⟨m + 1, by omega, by go_num, trivial, HTT.out⟩
    case measure => simp [intOf]; omega
   | false =>
    have HFF : Hid (z = m) := HF.out rfl
    go_wp2
    go_ret
    exact ⟨by rw [HFF.out]; rfl, HB.out⟩
  ·have he : m = 32 := by omega
   subst he
   have HFF : Hid (z = 32) := by show _ = _; rw [HL.out]; rfl
   go_wp2
   go_ret
   exact ⟨by rw [HFF.out]; rfl, HB.out⟩
end Go.Proofs.YtimfipkbddpdmaaGreatDoor
