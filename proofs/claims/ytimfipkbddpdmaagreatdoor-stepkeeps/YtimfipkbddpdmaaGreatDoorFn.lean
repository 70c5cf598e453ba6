import Derived.Test.YtimfipkbddpdmaaGreatDoorVals
import Derived.Test.YtimfipkbddpdmaaGreatDoorFd
set_option linter.unusedVariables false
set_option linter.unusedSimpArgs false
set_option maxRecDepth 100000
open Go Go.RowKit
namespace Go.Proofs.YtimfipkbddpdmaaGreatDoor
def matchB (x : Nat) (r : Rw) : Bool := (r.op == x / 67108864) && belongB r.shape (insN r.shape x) x
theorem insN_imm (s : Sh) (x : Nat) (hx : x < 4294967296) : (insN s x).imm < 4294967296 := by
 show (x &&& s.great) / _ < _
 have h1 := Nat.and_le_left (n := x) (m := s.great)
 have h2 := Nat.div_le_self (x &&& s.great) (2 ^ tzN s.great)
 omega
set_option maxHeartbeats 1000000 in
theorem clo17 (r : Rw) (hr : RowOk r) (x : Nat) (hx : x < 4294967296) (pw pa : Addr) (b : Nat) (w : World) (hcw : w.cell? pw = some (.int .u32 x)) (hca : w.cell? pa = some (.map (some b))) (hm : LetM w b) (ht : Tab w) :
  Calls Tryz.prog 75 #[r.val, .pointer (some pw), .pointer (some pa)] w fun e w' => e = .returned (.bool (matchB x r)) /\ Below w.heap.size w w' := by
 obtain ⟨W, hW, hb, hz, c0, c1, c2, c3, _⟩ := box4 w (.string r.name) (.int .u32 r.op) (.int .u32 r.same) (.string r.form) 133
 have hcw := keep_cell hb hcw
 have hca := keep_cell hb hca
 have K18 := shape18 r b W hr.fm (hm.keep hb)
 have HT : Hid (∀ w', Below W.heap.size W w' -> Tab w') := fun w' h => ht.keep (below_tr hb h)
 have HB : Hid (∀ w', Below W.heap.size W w' -> Below w.heap.size w w') := fun w' h => below_tr hb h
 by_cases ho : r.op = x / 67108864
 ·have K20 : Hid (∀ w', Tab w' -> Calls Tryz.prog 78 #[r.shape.val, .int .u32 x] w' fun e w'' => e = .returned (insN r.shape x).val /\ Below w'.heap.size w' w'') := fun w' h => ins20 r.shape x w' hx (by have := hr.few; omega) hr.great h
  have K19 : Hid (∀ w', Tab w' -> Calls Tryz.prog 77 #[r.shape.val, (insN r.shape x).val, .int .u32 x] w' fun e w'' => e = .returned (.bool (belongB r.shape (insN r.shape x) x)) /\ Below w'.heap.size w' w'') := fun w' h => belong19 r.shape _ x w' hx (insN_imm _ _ hx) (by have := hr.few; omega) (by show r.same < _; have := hr.same; omega) hr.great h
  have hmb : matchB x r = belongB r.shape (insN r.shape x) x := by unfold matchB; rw [show (r.op == x / 67108864) = true from by simpa using ho, Bool.true_and]
  rw [hmb]
  generalize belongB r.shape (insN r.shape x) x = bb at K19 |-
  generalize insN r.shape x = I at K19 K20
  have ho' : ((r.op : Int) != (x : Int) / 67108864) = false := by simp; omega
  have hs : r.shape.val = .agg #[.string r.shape.name, .int .u32 r.shape.op, .int .u32 r.shape.same, .string r.shape.form, .int .u32 r.shape.few, .int .u32 r.shape.great] := rfl
  rw [hs] at K18 K19 K20
  generalize r.shape = S at K18 K19 K20
  obtain ⟨name, op, same, form, few, great⟩ := S
  obtain ⟨n1, r1, r2, r3, r4, m1⟩ := I
  simp only [In.val] at K18 K19 K20
  obtain ⟨nm0, op0, sm0, fm0⟩ := r
  simp only [Rw.val] at K18 ho' c0 c1 c2 c3 hW |-
  clear ho hmb hs hr hm ht hx hb hz
  go_enter Tryz.func75, Tryz.ntmps75
  go_wp2_with fail
  refine K18.mono ?_
  rintro e wy0 ⟨rfl, hb0⟩
  have hcw := keep_cell hb0 hcw
  obtain ⟨V, hV, hbv, hzv, k0, k1, k2, k3, k4, k5⟩ := box6 wy0 (.string name) (.int .u32 op) (.int .u32 same) (.string form) (.int .u32 few) (.int .u32 great) 139
  have hcw := keep_cell hbv hcw
  have HBV : Hid (Below W.heap.size W V) := below_tr hb0 hbv
  have K20 : Hid (∀ w', Below V.heap.size V w' -> _) := fun w' h => K20.out w' (HT.out w' (below_tr HBV.out h))
  have K19 : Hid (∀ w', Below V.heap.size V w' -> _) := fun w' h => K19.out w' (HT.out w' (below_tr HBV.out h))
  clear hb0 hbv hzv hca K18 c0 c1 c2 c3
  go_wp2
  refine wp_region_valsA [.agg #[.string name, .int .u32 op, .int .u32 same, .string form, .int .u32 few, .int .u32 great], .agg #[.string name, .int .u32 op, .int .u32 same, .string form, .int .u32 few, .int .u32 great], .int .u32 x, .agg #[.string n1, .int .i64 r1, .int .i64 r2, .int .i64 r3, .int .i64 r4, .int .u32 m1], .int .u32 x, .bool bb, .bool bb] _ (by kernel_rfl) rfl (by kernel_rfl) (by kernel_rfl) (by kernel_rfl) (fun C hC => ?_)
  simp only [putVs, List.take_succ_cons, List.take_zero, Act.put, List.setIfInBounds_toArray, List.set_cons_zero, List.set_cons_succ] at hC
  subst hC
  refine ⟨?_, fun wy hR => ?_⟩
  ·repeat' refine And.intro ?_ ?_
   all_goals first | exact True.intro | intro wx hR
   all_goals try (refine yes ?_; have hcw := keep_cell hR hcw; have k0 := keep_cell hR k0; have k1 := keep_cell hR k1; have k2 := keep_cell hR k2; have k3 := keep_cell hR k3; have k4 := keep_cell hR k4; have k5 := keep_cell hR k5; simp [go_sem, hcw, k0, k1, k2, k3, k4, k5]; exact lands)
   ·refine yes ?_
    simp [go_sem]
    refine (K20.out wx hR).mono ?_
    rintro e wG ⟨rfl, hbG⟩
    exact landsAt hbG
   ·refine yes ?_
    simp [go_sem]
    refine (K19.out wx hR).mono ?_
    rintro e wG ⟨rfl, hbG⟩
    exact landsAt hbG
  have HBE : Hid (Below w.heap.size w wy) := HB.out _ (below_tr HBV.out hR)
  go_wp2
  go_ret
  exact ⟨rfl, HBE.out⟩
 ·have hmb : matchB x r = false := by unfold matchB; rw [show (r.op == x / 67108864) = false from by simpa using ho, Bool.false_and]
  rw [hmb]
  have ho' : ((r.op : Int) != (x : Int) / 67108864) = true := by simp; omega
  obtain ⟨nm0, op0, sm0, fm0⟩ := r
  simp only [Rw.val] at ho' c0 c1 c2 c3 hW |-
  have HBE : Hid (Below w.heap.size w W) := hb
  clear ho hmb hr hm ht hx hb hz K18
  go_enter Tryz.func75, Tryz.ntmps75
  go_wp2
  go_ret
  exact ⟨rfl, HBE.out⟩
def rowOf (x : Nat) : Rw := foundR (matchB x)
def isWord (x : Nat) : Bool := isFound (matchB x)
def decN (x : Nat) : In := if isWord x then insN (rowOf x).shape x else ⟨⟨#[]⟩, 0, 0, 0, 0, 0⟩
theorem found_ok (p : Rw -> Bool) : RowOk (foundR p) := by
 unfold foundR
 cases h : rowsL.find? p with
 | none => exact zero_ok
 | some r => exact row_ok (List.mem_of_find?_eq_some h)
theorem box16 (w : World) (x a b c d e f : Value) (s t : Nat) : ∃ W, (w.alloc (.cells #[x] s)).alloc (.cells #[a, b, c, d, e, f] t) = W /\ Below w.heap.size w W /\ W.heap.size = w.heap.size + 2 /\ W.cell? ⟨w.heap.size, 0, none⟩ = some x /\
  (Free W ⟨w.heap.size + 1, 0, none⟩ /\ Free W ⟨w.heap.size + 1, 1, none⟩ /\ Free W ⟨w.heap.size + 1, 2, none⟩ /\ Free W ⟨w.heap.size + 1, 3, none⟩ /\ Free W ⟨w.heap.size + 1, 4, none⟩ /\ Free W ⟨w.heap.size + 1, 5, none⟩) := by
 have hz : w.heap.size + 1 = (w.alloc (.cells #[x] s)).heap.size := by simp
 refine ⟨_, rfl, ((Below.refl _ _).alloc (Nat.le_refl _) _).alloc (by simp) _, by simp, ?_, ⟨⟨a, ?_⟩, ?_⟩, ⟨⟨b, ?_⟩, ?_⟩, ⟨⟨c, ?_⟩, ?_⟩, ⟨⟨d, ?_⟩, ?_⟩, ⟨⟨e, ?_⟩, ?_⟩, ⟨⟨f, ?_⟩, ?_⟩⟩
 all_goals first | exact cell_old (cell_newA w _ _ _ _ _ rfl rfl) _ | exact cell_newA _ _ _ _ _ _ hz rfl | (rw [World.frozen?_alloc_at _ _ _ _ hz])
theorem box1 (w : World) (x : Value) (t : Nat) : ∃ W, w.alloc (.cells #[x] t) = W /\ Below w.heap.size w W /\ W.heap.size = w.heap.size + 1 /\ W.cell? ⟨w.heap.size, 0, none⟩ = some x :=
 ⟨_, rfl, (Below.refl _ _).alloc (Nat.le_refl _) _, by simp, cell_newA w _ _ _ _ _ rfl rfl⟩
def F6 (w : World) (n : Nat) : Prop := Free w ⟨n, 0, none⟩ /\ Free w ⟨n, 1, none⟩ /\ Free w ⟨n, 2, none⟩ /\ Free w ⟨n, 3, none⟩ /\ Free w ⟨n, 4, none⟩ /\ Free w ⟨n, 5, none⟩
theorem F6.keep {w w' : World} {n : Nat} (h : F6 w n) (hb : Below w.heap.size w w') : F6 w' n := ⟨h.1.keep hb, h.2.1.keep hb, h.2.2.1.keep hb, h.2.2.2.1.keep hb, h.2.2.2.2.1.keep hb, h.2.2.2.2.2.keep hb⟩
set_option maxHeartbeats 1000000 in
theorem decode8 (x : Nat) (hx : x < 4294967296) (w : World) (ht : Tab w) : Calls Tryz.prog 57 #[.int .u32 x] w fun e w' => e = .returned (.tuple #[(decN x).val, .bool (isWord x)]) /\ Below w.heap.size w w' := by
 obtain ⟨W, hW, hb, hz, cx, hfr⟩ := box16 w (.int .u32 x) (.string ⟨#[]⟩) (.int .i64 0) (.int .i64 0) (.int .i64 0) (.int .i64 0) (.int .u32 0) 22 55
 have HFR : Hid (F6 W (w.heap.size + 1)) := hfr
 have HB : Hid (Below w.heap.size w W) := hb
 have HT : Hid (∀ w', Below W.heap.size W w' -> Tab w') := fun w' h => ht.keep (below_tr hb h)
 have K15 := letters15 W
 have HX : Hid (x < 4294967296) := hx
 have hok : RowOk (rowOf x) := found_ok _
 have HOK : Hid (RowOk (rowOf x)) := hok
 have HFD : Hid (∀ w1 bl, w1.cell? ⟨w.heap.size, 0, none⟩ = some (.int .u32 x) -> ∀ pa, w1.cell? pa = some (.map (some bl)) -> LetM w1 bl -> Tab w1 -> Calls Tryz.prog 74 #[.func (.func 75) #[] #[.pointer (some ⟨w.heap.size, 0, none⟩), .pointer (some pa)]] w1 fun e w' => e = .returned (.tuple #[(rowOf x).val, .bool (isWord x)]) /\ Below w1.heap.size w1 w') := fun w1 bl h1 pa h2 h3 h4 => found16_17 (matchB x) _ pa w1 (fun r hr w' h => clo17 r (row_ok hr) x hx _ pa bl w' (keep_cell h h1) (keep_cell h h2) (h3.keep h) (h4.keep h))
 have HD : Hid (decN x = if isWord x then insN (rowOf x).shape x else ⟨⟨#[]⟩, 0, 0, 0, 0, 0⟩) := rfl
 generalize decN x = D at HD |-
 generalize isWord x = iw at HD HFD |-
 generalize rowOf x = R at HD HFD HOK
 clear ht hb hz hfr hx hok
 obtain ⟨name, op, same, form⟩ := R
 go_enter Tryz.func57, Tryz.ntmps57
 go_wp2_with fail
 refine K15.mono ?_
 rintro e w1 ⟨rfl, hb1, hlm⟩
 obtain ⟨w2, hw2, hb2, hz2, cm⟩ := box1 w1 (.map (some W.heap.size)) 130
 obtain ⟨bl, hbl⟩ : ∃ z, z = W.heap.size := ⟨_, rfl⟩
 rw [<- hbl] at cm hlm hw2 |-
 have hlm2 := hlm.keep hb2
 have cx := keep_cell hb2 (keep_cell hb1 cx)
 have HB2 : Hid (Below W.heap.size W w2) := below_tr hb1 hb2
 have K16 := HFD.out w2 bl cx ⟨w1.heap.size, 0, none⟩ cm hlm2 (HT.out w2 HB2.out)
 unfold Rw.val at K16
 have HLM : Hid (LetM w2 bl) := hlm2
 clear hlm hlm2 hb1 hb2 hz2 hbl K15 HFD
 go_wp2_with fail
 refine K16.mono ?_
 rintro e w3 ⟨rfl, hb3⟩
 obtain ⟨w4, hw4, hb4, hz4, k0, k1, k2, k3, _⟩ := box4 w3 (.string name) (.int .u32 op) (.int .u32 same) (.string form) 133
 have cx := keep_cell hb4 (keep_cell hb3 cx)
 have cm := keep_cell hb4 (keep_cell hb3 cm)
 have HB4 : Hid (Below W.heap.size W w4) := below_tr HB2.out (below_tr hb3 hb4)
 have hlm4 : Hid (LetM w4 bl) := HLM.out.keep (below_tr hb3 hb4)
 clear K16 hb3 hb4 hz4
 cases iw with
 | false =>
  have HDD : Hid (D = ⟨⟨#[]⟩, 0, 0, 0, 0, 0⟩) := HD.out
  obtain ⟨wF, hwF⟩ : ∃ z, z = w4 := ⟨_, rfl⟩
  have F := HFR.out.keep HB4.out
  have hbF := below_tr HB.out HB4.out
  rw [<- hwF] at F hbF k0 k1 k2 k3 cx cm hw4
  have q0 := F.1.cell
  have q1 := F.2.1.cell
  have q2 := F.2.2.1.cell
  have q3 := F.2.2.2.1.cell
  have q4 := F.2.2.2.2.1.cell
  have q5 := F.2.2.2.2.2.cell
  have z0 := F.1.frozen
  have z1 := F.2.1.frozen
  have z2 := F.2.2.1.frozen
  have z3 := F.2.2.2.1.frozen
  have z4 := F.2.2.2.2.1.frozen
  have z5 := F.2.2.2.2.2.frozen
  have hres := res6 wF (w.heap.size + 1) (.string ⟨#[]⟩) (.int .i64 0) (.int .i64 0) (.int .i64 0) (.int .i64 0) (.int .u32 0) F
  simp only at hres
  have HBE := below6 (n := w.heap.size + 1) hbF (by omega) (.string ⟨#[]⟩) (.int .i64 0) (.int .i64 0) (.int .i64 0) (.int .i64 0) (.int .u32 0)
  obtain ⟨W9, hW9⟩ : ∃ z, (((((wF.setCell ⟨w.heap.size + 1, 0, none⟩ (.string ⟨#[]⟩)).setCell ⟨w.heap.size + 1, 1, none⟩ (.int .i64 0)).setCell ⟨w.heap.size + 1, 2, none⟩ (.int .i64 0)).setCell ⟨w.heap.size + 1, 3, none⟩ (.int .i64 0)).setCell ⟨w.heap.size + 1, 4, none⟩ (.int .i64 0)).setCell ⟨w.heap.size + 1, 5, none⟩ (.int .u32 0) = z := ⟨_, rfl⟩
  rw [hW9] at hres HBE
  have HBE : Hid _ := HBE
  obtain ⟨s0, s1, s2, s3, s4, s5⟩ := hres
  clear F hbF
  clear hwF
  go_wp2
  refine bodyPost_ret (v := .tuple #[.agg #[.string ⟨#[]⟩, .int .i64 0, .int .i64 0, .int .i64 0, .int .i64 0, .int .u32 0], .bool false]) ?_ rfl ⟨by rw [HDD.out]; rfl, HBE.out⟩
  rw [results_cell_tmp rfl]; simp [go_sem, s0, s1, s2, s3, s4, s5]
 | true =>
  have hok := HOK.out
  have K18 : Hid (∀ w', Below w4.heap.size w4 w' -> Calls Tryz.prog 76 #[.map (some bl), (⟨name, op, same, form⟩ : Rw).val] w' fun e w'' => e = .returned (⟨name, op, same, form⟩ : Rw).shape.val /\ Below w'.heap.size w' w'') := fun w' h => shape18 _ bl w' hok.fm (hlm4.out.keep h)
  have K20 : Hid (∀ w', Below w4.heap.size w4 w' -> Calls Tryz.prog 78 #[(⟨name, op, same, form⟩ : Rw).shape.val, .int .u32 x] w' fun e w'' => e = .returned (insN (⟨name, op, same, form⟩ : Rw).shape x).val /\ Below w'.heap.size w' w'') := fun w' h => ins20 _ x w' HX.out (by have := hok.few; omega) hok.great (HT.out w' (below_tr HB4.out h))
  have HDD : Hid (D = insN (⟨name, op, same, form⟩ : Rw).shape x) := HD.out
  generalize insN (⟨name, op, same, form⟩ : Rw).shape x = I at K20 HDD
  generalize (⟨name, op, same, form⟩ : Rw).shape = S at K18 K20
  obtain ⟨n1, r1, r2, r3, r4, m1⟩ := I
  obtain ⟨sn, so, ss, sf, sfw, sg⟩ := S
  simp only [Rw.val, In.val, Sh.val] at K18 K20
  clear hok HOK HD HLM
  go_wp2
  refine wp_region_vals [.map (some bl), .agg #[.string name, .int .u32 op, .int .u32 same, .string form], .agg #[.string sn, .int .u32 so, .int .u32 ss, .string sf, .int .u32 sfw, .int .u32 sg], .int .u32 x, .agg #[.string n1, .int .i64 r1, .int .i64 r2, .int .i64 r3, .int .i64 r4, .int .u32 m1]] _ 5 (by kernel_rfl) rfl (by kernel_rfl) (by decide) (by kernel_rfl) (by kernel_rfl) (fun C hC => ?_)
  simp only [putVs, List.take_succ_cons, List.take_zero, Act.put, List.setIfInBounds_toArray, List.set_cons_zero, List.set_cons_succ] at hC
  subst hC
  refine ⟨?_, fun wy hR => ?_⟩
  ·repeat' refine And.intro ?_ ?_
   all_goals first | exact True.intro | intro wx hR
   all_goals try (refine yes ?_; have cx := keep_cell hR cx; have cm := keep_cell hR cm; have k0 := keep_cell hR k0; have k1 := keep_cell hR k1; have k2 := keep_cell hR k2; have k3 := keep_cell hR k3; simp [go_sem, cx, cm, k0, k1, k2, k3]; exact lands)
   ·refine yes ?_
    simp [go_sem]
    refine (K18.out wx hR).mono ?_
    rintro e wG ⟨rfl, hbG⟩
    exact landsAt hbG
   ·refine yes ?_
    simp [go_sem]
    refine (K20.out wx hR).mono ?_
    rintro e wG ⟨rfl, hbG⟩
    exact landsAt hbG
  obtain ⟨wF, hwF⟩ : ∃ z, z = wy := ⟨_, rfl⟩
  have F := HFR.out.keep (below_tr HB4.out hR)
  have hbF := below_tr HB.out (below_tr HB4.out hR)
  rw [<- hwF] at F hbF |-
  have q0 := F.1.cell
  have q1 := F.2.1.cell
  have q2 := F.2.2.1.cell
  have q3 := F.2.2.2.1.cell
  have q4 := F.2.2.2.2.1.cell
  have q5 := F.2.2.2.2.2.cell
  have z0 := F.1.frozen
  have z1 := F.2.1.frozen
  have z2 := F.2.2.1.frozen
  have z3 := F.2.2.2.1.frozen
  have z4 := F.2.2.2.2.1.frozen
  have z5 := F.2.2.2.2.2.frozen
  have hres := res6 wF (w.heap.size + 1) (.string n1) (.int .i64 r1) (.int .i64 r2) (.int .i64 r3) (.int .i64 r4) (.int .u32 m1) F
  simp only at hres
  have HBE := below6 (n := w.heap.size + 1) hbF (by omega) (.string n1) (.int .i64 r1) (.int .i64 r2) (.int .i64 r3) (.int .i64 r4) (.int .u32 m1)
  obtain ⟨W9, hW9⟩ : ∃ z, (((((wF.setCell ⟨w.heap.size + 1, 0, none⟩ (.string n1)).setCell ⟨w.heap.size + 1, 1, none⟩ (.int .i64 r1)).setCell ⟨w.heap.size + 1, 2, none⟩ (.int .i64 r2)).setCell ⟨w.heap.size + 1, 3, none⟩ (.int .i64 r3)).setCell ⟨w.heap.size + 1, 4, none⟩ (.int .i64 r4)).setCell ⟨w.heap.size + 1, 5, none⟩ (.int .u32 m1) = z := ⟨_, rfl⟩
  rw [hW9] at hres HBE
  have HBE : Hid _ := HBE
  obtain ⟨s0, s1, s2, s3, s4, s5⟩ := hres
  clear F hbF
  clear hwF hR
  refine ready1 5 fun K5 hK5 => yes ?_
  simp [go_sem, q0, q1, q2, q3, q4, q5, z0, z1, z2, z3, z4, z5, hW9]
  refine hK5 _ _ ?_
  refine ready1 6 fun K6 hK6 => yes ?_
  simp [go_sem]
  refine hK6 _ _ ?_
  refine wpAny_done (by kernel_rfl) ?_ _
  go_wp2
  refine bodyPost_ret (v := .tuple #[.agg #[.string n1, .int .i64 r1, .int .i64 r2, .int .i64 r3, .int .i64 r4, .int .u32 m1], .bool true]) ?_ rfl ⟨by rw [HDD.out]; rfl, HBE.out⟩
  rw [results_cell_tmp rfl]; simp [go_sem, s0, s1, s2, s3, s4, s5]
set_option maxHeartbeats 1000000 in
theorem index28_34 (p : Rw -> Bool) (p0 : Addr) (b : Nat) (w : World) (hr : RowsAt w b) (hc : (∀ r ∈ rowsL, ∀ w', Below w.heap.size w w' -> Calls Tryz.prog 140 #[r.val, .pointer (some p0)] w' fun e w'' => e = .returned (.bool (p r)) /\ Below w'.heap.size w' w'')) :
  Calls Tryz.prog 96 #[.slice (some ⟨b, 0, none⟩) 83 83, .func (.func 140) #[] #[.pointer (some p0)]] w fun e w' => e = .returned (.int .i64 (idxI p)) /\ Below w.heap.size w w' := by
 have HR : Hid (∀ w', Below w.heap.size w w' -> RowsAt w' b) := fun w' h => hr.keep h
 have HC : Hid (∀ r ∈ rowsL, ∀ w', Below w.heap.size w w' -> Calls Tryz.prog 140 #[r.val, .pointer (some p0)] w' fun e w'' => e = .returned (.bool (p r)) /\ Below w'.heap.size w' w'') := hc
 have hl := rows_len
 have HL : Hid (rowsL.length = 83) := hl
 clear hr hc hl
 obtain ⟨z, hz⟩ : ∃ z, z = idxI p := ⟨_, rfl⟩
 rw [<- hz]
 have HZ : Hid (z = idxI p) := hz
 clear hz
 go_enter Tryz.func96, Tryz.ntmps96
 go_wp2
 go_loopw [8] (fun i wr => ∃ k : Nat, k <= 83 /\ i = .int .i64 k /\ Below w.heap.size w wr /\ ∀ j (hj : j < rowsL.length), j < k -> p rowsL[j] = false) (fun i _ => 83 - (intOf i).toNat)
 case atStart => exact ⟨0, by decide, rfl, Below.refl _ _, fun j _ h => absurd h (Nat.not_lt_zero _)⟩
 case round =>
  obtain ⟨k, hk, rfl, hbr, hpre⟩ := hrel
  have HB : Hid (Below w.heap.size w wr) := hbr
  have HP : Hid (∀ j (hj : j < rowsL.length), j < k -> p rowsL[j] = false) := hpre
  have hk64 : wrap64 ((k : Int) + 1) = (k : Int) + 1 := by unfold wrap64; omega
  by_cases hkl : k < 83
  ·have hk' : k < rowsL.length := by rw [HL.out]; exact hkl
   obtain ⟨q0, q1, q2, q3⟩ := HR.out wr hbr k hk'
   have K := HC.out rowsL[k] (List.getElem_mem hk') wr hbr
   unfold Rw.val at K
   have hkI : (k : Int) < 83 := by omega
   have HE : Hid (p rowsL[k] = true -> z = (k : Int)) := fun h => by rw [HZ.out]; exact idx_at p k hk' h HP.out
   have HN : Hid (p rowsL[k] = false -> ∀ j (hj : j < rowsL.length), j < k + 1 -> p rowsL[j] = false) := fun h j hj hjk => by
    by_cases e : j = k
    ·subst e; exact h
    ·exact HP.out j hj (by omega)
   generalize p rowsL[k] = pb at K HE HN
   generalize rowsL[k] = r at q0 q1 q2 q3 K
   clear hbr hpre hk'
   go_wp2_with fail
   refine K.mono ?_
   rintro e wG ⟨rfl, hbG⟩
   have HBG : Hid (Below w.heap.size w wG) := below_tr HB.out hbG
   clear K hbG q0 q1 q2 q3
   cases pb with
   | true =>
    have HEE : Hid (z = (k : Int)) := HE.out rfl
    go_wp2
    go_ret
    exact ⟨by rw [HEE.out]; rfl, HBG.out⟩
   | false =>
    have HNN : Hid _ := HN.out rfl
    clear HN HE
    go_wp2
    go_roundw
    case rel => exact ⟨k + 1, by omega, by go_num, HBG.out, HNN.out⟩
    case measure => simp [intOf]; omega
  ·have he : k = 83 := by omega
   subst he
   have HEE : Hid (z = -1) := by show _ = _; rw [HZ.out]; exact idx_none p (fun j hj => HP.out j hj (by rw [HL.out] at hj; exact hj))
   clear hbr hpre
   go_wp2
   go_ret
   exact ⟨by rw [HEE.out]; rfl, HB.out⟩
set_option maxHeartbeats 1000000 in
theorem found16_34 (p : Rw -> Bool) (p0 : Addr) (w : World) (hc : (∀ r ∈ rowsL, ∀ w', Below w.heap.size w w' -> Calls Tryz.prog 140 #[r.val, .pointer (some p0)] w' fun e w'' => e = .returned (.bool (p r)) /\ Below w'.heap.size w' w'')) :
  Calls Tryz.prog 74 #[.func (.func 140) #[] #[.pointer (some p0)]] w fun e w' => e = .returned (.tuple #[(foundR p).val, .bool (isFound p)]) /\ Below w.heap.size w w' := by
 obtain ⟨W, hW, hb, hz, c0, c1, c2, c3, g0, g1, g2, g3⟩ := box4 w (.string ⟨#[]⟩) (.int .u32 0) (.int .u32 0) (.string ⟨#[]⟩) 133
 have K27 := rows27 W
 have hrn := rowsAt_new W
 have hbn : Below W.heap.size W (W.alloc (.cells rowsA 133)) := (Below.refl _ _).alloc (Nat.le_refl _) _
 have HBW : Hid (Below w.heap.size w W) := hb
 have hsz : w.heap.size + 1 = W.heap.size := hz.symm
 have K28 := index28_34 p p0 W.heap.size (W.alloc (.cells rowsA 133)) hrn (fun r hr w' h => hc r hr w' (below_tr (below_tr hb hbn) h))
 have HRW : Hid (∀ w', Below (W.alloc (.cells rowsA 133)).heap.size (W.alloc (.cells rowsA 133)) w' -> RowsAt w' W.heap.size /\ Below w.heap.size w w' /\ Free w' ⟨w.heap.size, 0, none⟩ /\ Free w' ⟨w.heap.size, 1, none⟩ /\ Free w' ⟨w.heap.size, 2, none⟩ /\ Free w' ⟨w.heap.size, 3, none⟩) := fun w' h => ⟨hrn.keep h, below_tr hb (below_tr hbn h), (g0.keep hbn).keep h, (g1.keep hbn).keep h, (g2.keep hbn).keep h, (g3.keep hbn).keep h⟩
 have hl := rows_len
 have HL : Hid (rowsL.length = 83) := hl
 clear hl hc hrn hbn hb c0 c1 c2 c3 g0 g1 g2 g3
 rw [hz] at K27 K28 HRW
 obtain ⟨W2, hW2⟩ : ∃ W2, W.alloc (.cells rowsA 133) = W2 := ⟨_, rfl⟩
 rw [hW2] at K27 K28 HRW
 have hcs := idx_cases p
 have HF : Hid (foundR p = (rowsL.find? p).getD zeroR /\ isFound p = (rowsL.find? p).isSome) := ⟨rfl, rfl⟩
 generalize foundR p = R at HF |-
 generalize isFound p = fb at HF |-
 rcases hcs with ⟨hi, hf⟩ | ⟨k, hk, hi, hf⟩
 ·rw [hf] at HF
  rw [hi] at K28
  obtain ⟨hR, hfb⟩ := HF
  subst hR hfb
  show Calls _ _ _ _ fun e w' => e = .returned (.tuple #[.agg #[.string ⟨#[]⟩, .int .u32 0, .int .u32 0, .string ⟨#[]⟩], .bool false]) /\ Below w.heap.size w w'
  clear hf hi hW2 hsz hz
  go_enter Tryz.func74, Tryz.ntmps74
  go_wp2_with fail
  refine K27.mono ?_
  rintro e w1 ⟨rfl, rfl⟩
  go_wp2_with fail
  refine K28.mono ?_
  rintro e w3 ⟨rfl, hb3⟩
  obtain ⟨hra, hbw, f0, f1, f2, f3⟩ := HRW.out w3 hb3
  have q0 := f0.cell
  have q1 := f1.cell
  have q2 := f2.cell
  have q3 := f3.cell
  have z0 := f0.frozen
  have z1 := f1.frozen
  have z2 := f2.frozen
  have z3 := f3.frozen
  have hres := res4 w3 w.heap.size (.string ⟨#[]⟩) (.int .u32 0) (.int .u32 0) (.string ⟨#[]⟩) f0 f1 f2 f3
  simp only at hres
  have HBE := below4 (n := w.heap.size) hbw (Nat.le_refl _) (.string ⟨#[]⟩) (.int .u32 0) (.int .u32 0) (.string ⟨#[]⟩)
  obtain ⟨W9, hW9⟩ : ∃ z, (((w3.setCell ⟨w.heap.size, 0, none⟩ (.string ⟨#[]⟩)).setCell ⟨w.heap.size, 1, none⟩ (.int .u32 0)).setCell ⟨w.heap.size, 2, none⟩ (.int .u32 0)).setCell ⟨w.heap.size, 3, none⟩ (.string ⟨#[]⟩) = z := ⟨_, rfl⟩
  rw [hW9] at hres HBE
  have HBE : Hid _ := HBE
  obtain ⟨s0, s1, s2, s3⟩ := hres
  clear K27 K28 hbw hb3 hra
  go_wp2
  refine bodyPost_ret (v := .tuple #[.agg #[.string ⟨#[]⟩, .int .u32 0, .int .u32 0, .string ⟨#[]⟩], .bool false]) ?_ rfl ⟨rfl, HBE.out⟩
  rw [results_cell_tmp rfl]; simp [go_sem, s0, s1, s2, s3]
 ·rw [hf] at HF
  rw [hi] at K28
  obtain ⟨hR, hfb⟩ := HF
  simp only [Option.getD_some, Option.isSome_some] at hR hfb
  subst hfb
  have HRk : Hid (∀ w', RowsAt w' (w.heap.size + 1) -> w'.cell? ⟨w.heap.size + 1, k * 4, none⟩ = some (.string R.name) /\ w'.cell? ⟨w.heap.size + 1, k * 4 + 1, none⟩ = some (.int .u32 R.op) /\ w'.cell? ⟨w.heap.size + 1, k * 4 + 2, none⟩ = some (.int .u32 R.same) /\ w'.cell? ⟨w.heap.size + 1, k * 4 + 3, none⟩ = some (.string R.form)) := fun w' h => by rw [hR]; exact h k hk
  have hk83 : (k : Int) < 83 := by rw [HL.out] at hk; omega
  have hk0 : ¬ (k : Int) < 0 := by omega
  obtain ⟨name, op, same, form⟩ := R
  simp only at HRk
  show Calls _ _ _ _ fun e w' => e = .returned (.tuple #[.agg #[.string name, .int .u32 op, .int .u32 same, .string form], .bool true]) /\ Below w.heap.size w w'
  clear hf hi hW2 hsz hz hR hk
  go_enter Tryz.func74, Tryz.ntmps74
  go_wp2_with fail
  refine K27.mono ?_
  rintro e w1 ⟨rfl, rfl⟩
  go_wp2_with fail
  refine K28.mono ?_
  rintro e w3 ⟨rfl, hb3⟩
  obtain ⟨hra, hbw, f0, f1, f2, f3⟩ := HRW.out w3 hb3
  obtain ⟨u0, u1, u2, u3⟩ := HRk.out w3 hra
  have q0 := f0.cell
  have q1 := f1.cell
  have q2 := f2.cell
  have q3 := f3.cell
  have z0 := f0.frozen
  have z1 := f1.frozen
  have z2 := f2.frozen
  have z3 := f3.frozen
  have hres := res4 w3 w.heap.size (.string name) (.int .u32 op) (.int .u32 same) (.string form) f0 f1 f2 f3
  simp only at hres
  have HBE := below4 (n := w.heap.size) hbw (Nat.le_refl _) (.string name) (.int .u32 op) (.int .u32 same) (.string form)
  obtain ⟨W9, hW9⟩ : ∃ z, (((w3.setCell ⟨w.heap.size, 0, none⟩ (.string name)).setCell ⟨w.heap.size, 1, none⟩ (.int .u32 op)).setCell ⟨w.heap.size, 2, none⟩ (.int .u32 same)).setCell ⟨w.heap.size, 3, none⟩ (.string form) = z := ⟨_, rfl⟩
  rw [hW9] at hres HBE
  have HBE : Hid _ := HBE
  obtain ⟨s0, s1, s2, s3⟩ := hres
  clear K27 K28 hbw hb3 hra HRk
  go_wp2
  refine bodyPost_ret (v := .tuple #[.agg #[.string name, .int .u32 op, .int .u32 same, .string form], .bool true]) ?_ rfl ⟨rfl, HBE.out⟩
  rw [results_cell_tmp rfl]; simp [go_sem, s0, s1, s2, s3]
end Go.Proofs.YtimfipkbddpdmaaGreatDoor
