/- What is proved here: the instruction of a word. -/
import Derived.Test.YtglkkeelocdanaaDoorFn
namespace Go.Proofs.YtglkkeelocdanaaDoor
open Go.RowKit
set_option linter.unusedVariables false
set_option linter.unusedSimpArgs false
set_option maxRecDepth 100000
/-- Is x a word of a row? -/
def matchB (x : Nat) (r : Rw) : Bool := (r.op == x / 67108864) && belongB r.shape (insN r.shape x) x
theorem insN_imm (s : Sh) (x : Nat) (hx : x < 4294967296) : (insN s x).imm < 4294967296 := by
  show (x &&& s.great) / _ < _
  have h1 := Nat.and_le_left (n := x) (m := s.great)
  have h2 := Nat.div_le_self (x &&& s.great) (2 ^ tzN s.great)
  omega
set_option maxHeartbeats 1000000 in
theorem clo17 (r : Rw) (hr : RowOk r) (x : Nat) (hx : x < 4294967296) (pw pa : Addr) (b : Nat) (w : World) (hcw : w.cell? pw = some (.int .u32 (x : Int))) (hca : w.cell? pa = some (.map (some b))) (hm : LetM w b) (ht : Tab w) :
    Calls Tryd.prog 59 #[r.val, .pointer (some pw), .pointer (some pa)] w fun e w' => e = .returned (.bool (matchB x r)) ∧ Below w.heap.size w w' := by
  obtain ⟨W, hW, hb, hz, c0, c1, c2, c3, _⟩ := box4 w (.string r.name) (.int .u32 (r.op : Int)) (.int .u32 (r.same : Int)) (.string r.form) 69
  have hcw := keep_cell hb hcw
  have hca := keep_cell hb hca
  have K18 := shape18 r b W hr.fm (hm.keep hb)
  have HT : Hid (∀ w', Below W.heap.size W w' → Tab w') := fun w' h => ht.keep (below_tr hb h)
  have HB : Hid (∀ w', Below W.heap.size W w' → Below w.heap.size w w') := fun w' h => below_tr hb h
  by_cases ho : r.op = x / 67108864
  · have K20 : Hid (∀ w', Tab w' → Calls Tryd.prog 55 #[r.shape.val, .int .u32 (x : Int)] w' fun e w'' => e = .returned (insN r.shape x).val ∧ Below w'.heap.size w' w'') := fun w' h => ins20 r.shape x w' hx (by have := hr.few; omega) hr.great h
    have K19 : Hid (∀ w', Tab w' → Calls Tryd.prog 37 #[r.shape.val, (insN r.shape x).val, .int .u32 (x : Int)] w' fun e w'' => e = .returned (.bool (belongB r.shape (insN r.shape x) x)) ∧ Below w'.heap.size w' w'') := fun w' h => belong19 r.shape _ x w' hx (insN_imm _ _ hx) (by have := hr.few; omega) (by show r.same < _; have := hr.same; omega) hr.great h
    have hmb : matchB x r = belongB r.shape (insN r.shape x) x := by unfold matchB; rw [show (r.op == x / 67108864) = true from by simpa using ho, Bool.true_and]
    rw [hmb]
    generalize belongB r.shape (insN r.shape x) x = bb at K19 ⊢
    generalize insN r.shape x = I at K19 K20
    have ho' : ((r.op : Int) != (x : Int) / 67108864) = false := by simp; omega
    have hs : r.shape.val = .agg #[.string r.shape.name, .int .u32 (r.shape.op : Int), .int .u32 (r.shape.same : Int), .string r.shape.form, .int .u32 (r.shape.few : Int), .int .u32 (r.shape.great : Int)] := rfl
    rw [hs] at K18 K19 K20
    generalize r.shape = S at K18 K19 K20
    obtain ⟨name, op, same, form, few, great⟩ := S
    obtain ⟨n1, r1, r2, r3, r4, m1⟩ := I
    simp only [In.val] at K18 K19 K20
    obtain ⟨nm0, op0, sm0, fm0⟩ := r
    simp only [Rw.val] at K18 ho' c0 c1 c2 c3 hW ⊢
    clear ho hmb hs hr hm ht hx hb hz
    go_enter Tryd.func59, Tryd.ntmps59
    go_wp2_with fail
    refine K18.mono ?_
    rintro e wy0 ⟨rfl, hb0⟩
    have hcw := keep_cell hb0 hcw
    obtain ⟨V, hV, hbv, hzv, k0, k1, k2, k3, k4, k5⟩ := box6 wy0 (.string name) (.int .u32 (op : Int)) (.int .u32 (same : Int)) (.string form) (.int .u32 (few : Int)) (.int .u32 (great : Int)) 75
    have hcw := keep_cell hbv hcw
    have HBV : Hid (Below W.heap.size W V) := below_tr hb0 hbv
    have K20 : Hid (∀ w', Below V.heap.size V w' → _) := fun w' h => K20.out w' (HT.out w' (below_tr HBV.out h))
    have K19 : Hid (∀ w', Below V.heap.size V w' → _) := fun w' h => K19.out w' (HT.out w' (below_tr HBV.out h))
    clear hb0 hbv hzv hca K18 c0 c1 c2 c3
    go_wp2
    refine wp_region_slots (R := Ext) [⟨14, fun v _ => v = .agg #[.string name, .int .u32 (op : Int), .int .u32 (same : Int), .string form, .int .u32 (few : Int), .int .u32 (great : Int)], fun _ _ _ _ h => h⟩, ⟨15, fun v _ => v = .agg #[.string name, .int .u32 (op : Int), .int .u32 (same : Int), .string form, .int .u32 (few : Int), .int .u32 (great : Int)], fun _ _ _ _ h => h⟩, ⟨16, fun v _ => v = .int .u32 (x : Int), fun _ _ _ _ h => h⟩, ⟨17, fun v _ => v = .agg #[.string n1, .int .i64 r1, .int .i64 r2, .int .i64 r3, .int .i64 r4, .int .u32 (m1 : Int)], fun _ _ _ _ h => h⟩, ⟨18, fun v _ => v = .int .u32 (x : Int), fun _ _ _ _ h => h⟩, ⟨19, fun v _ => v = .bool bb, fun _ _ _ _ h => h⟩, ⟨4, fun v _ => v = .bool bb, fun _ _ _ _ h => h⟩] _ (by kernel_rfl) rfl (by kernel_rfl) (Below.drew (Below.refl _ _)) (fun _ _ _ h1 h2 => below_tr h1 h2) (fun QQ => ⟨?_, ?_, ?_, ?_, ?_, ?_, ?_, trivial⟩) (fun f wy hR hf => ?_)
    · intro A wx hR hout hdep K hK
      have h5 : A.tmps[5]?.getD undef = .pointer (some ⟨wy0.heap.size, 0, none⟩) := hout 5 (by kernel_rfl)
      refine if_yes (by kernel_rfl) ?_
      have hcw := keep_cell hR hcw
      have k0 := keep_cell hR k0
      have k1 := keep_cell hR k1
      have k2 := keep_cell hR k2
      have k3 := keep_cell hR k3
      have k4 := keep_cell hR k4
      have k5 := keep_cell hR k5
      simp [go_sem, h5, hcw, k0, k1, k2, k3, k4, k5]
      exact hK.out _ _ (Below.refl _ _) rfl
    · intro A wx hR hout hdep K hK
      have h5 : A.tmps[5]?.getD undef = .pointer (some ⟨wy0.heap.size, 0, none⟩) := hout 5 (by kernel_rfl)
      refine if_yes (by kernel_rfl) ?_
      have hcw := keep_cell hR hcw
      have k0 := keep_cell hR k0
      have k1 := keep_cell hR k1
      have k2 := keep_cell hR k2
      have k3 := keep_cell hR k3
      have k4 := keep_cell hR k4
      have k5 := keep_cell hR k5
      simp [go_sem, h5, hcw, k0, k1, k2, k3, k4, k5]
      exact hK.out _ _ (Below.refl _ _) rfl
    · intro A wx hR hout hdep K hK
      have h1 : A.tmps[1]?.getD undef = .pointer (some pw) := hout 1 (by kernel_rfl)
      refine if_yes (by kernel_rfl) ?_
      have hcw := keep_cell hR hcw
      have k0 := keep_cell hR k0
      have k1 := keep_cell hR k1
      have k2 := keep_cell hR k2
      have k3 := keep_cell hR k3
      have k4 := keep_cell hR k4
      have k5 := keep_cell hR k5
      simp [go_sem, h1, hcw, k0, k1, k2, k3, k4, k5]
      exact hK.out _ _ (Below.refl _ _) rfl
    · intro A wx hR hout hdep K hK
      have h15 : A.tmps[15]?.getD undef = .agg #[.string name, .int .u32 (op : Int), .int .u32 (same : Int), .string form, .int .u32 (few : Int), .int .u32 (great : Int)] := hdep 15 (by kernel_rfl)
      have h16 : A.tmps[16]?.getD undef = .int .u32 (x : Int) := hdep 16 (by kernel_rfl)
      refine if_yes (by kernel_rfl) ?_
      simp [go_sem, h15, h16]
      refine (K20.out wx hR).mono ?_
      rintro e wG ⟨rfl, hbG⟩
      exact hK.out _ _ hbG rfl
    · intro A wx hR hout hdep K hK
      have h1 : A.tmps[1]?.getD undef = .pointer (some pw) := hout 1 (by kernel_rfl)
      refine if_yes (by kernel_rfl) ?_
      have hcw := keep_cell hR hcw
      have k0 := keep_cell hR k0
      have k1 := keep_cell hR k1
      have k2 := keep_cell hR k2
      have k3 := keep_cell hR k3
      have k4 := keep_cell hR k4
      have k5 := keep_cell hR k5
      simp [go_sem, h1, hcw, k0, k1, k2, k3, k4, k5]
      exact hK.out _ _ (Below.refl _ _) rfl
    · intro A wx hR hout hdep K hK
      have h14 : A.tmps[14]?.getD undef = .agg #[.string name, .int .u32 (op : Int), .int .u32 (same : Int), .string form, .int .u32 (few : Int), .int .u32 (great : Int)] := hdep 14 (by kernel_rfl)
      have h17 : A.tmps[17]?.getD undef = .agg #[.string n1, .int .i64 r1, .int .i64 r2, .int .i64 r3, .int .i64 r4, .int .u32 (m1 : Int)] := hdep 17 (by kernel_rfl)
      have h18 : A.tmps[18]?.getD undef = .int .u32 (x : Int) := hdep 18 (by kernel_rfl)
      refine if_yes (by kernel_rfl) ?_
      simp [go_sem, h14, h17, h18]
      refine (K19.out wx hR).mono ?_
      rintro e wG ⟨rfl, hbG⟩
      exact hK.out _ _ hbG rfl
    · intro A wx hR hout hdep K hK
      have h19 : A.tmps[19]?.getD undef = .bool bb := hdep 19 (by kernel_rfl)
      refine if_yes (by kernel_rfl) ?_
      simp [go_sem, h19]
      exact hK.out _ _ (Below.refl _ _) rfl
    simp only [putSl, Act.put, List.setIfInBounds_toArray, List.set_cons_zero, List.set_cons_succ, show f 4 = .bool bb from hf 4 (by kernel_rfl)]
    have HBE : Hid (Below w.heap.size w wy) := HB.out _ (below_tr HBV.out hR)
    go_wp2
    go_ret
    exact ⟨rfl, HBE.out⟩
  · have hmb : matchB x r = false := by unfold matchB; rw [show (r.op == x / 67108864) = false from by simpa using ho, Bool.false_and]
    rw [hmb]
    have ho' : ((r.op : Int) != (x : Int) / 67108864) = true := by simp; omega
    obtain ⟨nm0, op0, sm0, fm0⟩ := r
    simp only [Rw.val] at ho' c0 c1 c2 c3 hW ⊢
    have HBE : Hid (Below w.heap.size w W) := hb
    clear ho hmb hr hm ht hx hb hz K18
    go_enter Tryd.func59, Tryd.ntmps59
    go_wp2
    go_ret
    exact ⟨rfl, HBE.out⟩
end Go.Proofs.YtglkkeelocdanaaDoor
namespace Go.Proofs.YtglkkeelocdanaaDoor
open Go.RowKit
set_option linter.unusedVariables false
set_option linter.unusedSimpArgs false
set_option maxRecDepth 100000
/-- The row of a word. -/
def rowOf (x : Nat) : Rw := foundR (matchB x)
def isWord (x : Nat) : Bool := isFound (matchB x)
def decN (x : Nat) : In := if isWord x then insN (rowOf x).shape x else ⟨⟨#[]⟩, 0, 0, 0, 0, 0⟩
theorem found_ok (p : Rw → Bool) : RowOk (foundR p) := by
  unfold foundR
  cases h : rowsL.find? p with
  | none => exact zero_ok
  | some r => exact row_ok (List.mem_of_find?_eq_some h)
/-- The blocks of a Decode, ahead of its letters. -/
theorem box16 (w : World) (x a b c d e f : Value) (s t : Nat) : ∃ W, (w.alloc (.cells #[x] s)).alloc (.cells #[a, b, c, d, e, f] t) = W ∧ Below w.heap.size w W ∧ W.heap.size = w.heap.size + 2 ∧ W.cell? ⟨w.heap.size, 0, none⟩ = some x ∧
    (Free W ⟨w.heap.size + 1, 0, none⟩ ∧ Free W ⟨w.heap.size + 1, 1, none⟩ ∧ Free W ⟨w.heap.size + 1, 2, none⟩ ∧ Free W ⟨w.heap.size + 1, 3, none⟩ ∧ Free W ⟨w.heap.size + 1, 4, none⟩ ∧ Free W ⟨w.heap.size + 1, 5, none⟩) := by
  have hz : w.heap.size + 1 = (w.alloc (.cells #[x] s)).heap.size := by simp
  refine ⟨_, rfl, ((Below.refl _ _).alloc (Nat.le_refl _) _).alloc (by simp) _, by simp, ?_, ⟨⟨a, ?_⟩, ?_⟩, ⟨⟨b, ?_⟩, ?_⟩, ⟨⟨c, ?_⟩, ?_⟩, ⟨⟨d, ?_⟩, ?_⟩, ⟨⟨e, ?_⟩, ?_⟩, ⟨⟨f, ?_⟩, ?_⟩⟩
  all_goals first | exact cell_old (cell_newA w _ _ _ _ _ rfl rfl) _ | exact cell_newA _ _ _ _ _ _ hz rfl | (rw [World.frozen?_alloc_at _ _ _ _ hz])
theorem box1 (w : World) (x : Value) (t : Nat) : ∃ W, w.alloc (.cells #[x] t) = W ∧ Below w.heap.size w W ∧ W.heap.size = w.heap.size + 1 ∧ W.cell? ⟨w.heap.size, 0, none⟩ = some x :=
  ⟨_, rfl, (Below.refl _ _).alloc (Nat.le_refl _) _, by simp, cell_newA w _ _ _ _ _ rfl rfl⟩
def F6 (w : World) (n : Nat) : Prop := Free w ⟨n, 0, none⟩ ∧ Free w ⟨n, 1, none⟩ ∧ Free w ⟨n, 2, none⟩ ∧ Free w ⟨n, 3, none⟩ ∧ Free w ⟨n, 4, none⟩ ∧ Free w ⟨n, 5, none⟩
theorem F6.keep {w w' : World} {n : Nat} (h : F6 w n) (hb : Below w.heap.size w w') : F6 w' n := ⟨h.1.keep hb, h.2.1.keep hb, h.2.2.1.keep hb, h.2.2.2.1.keep hb, h.2.2.2.2.1.keep hb, h.2.2.2.2.2.keep hb⟩
set_option maxHeartbeats 1000000 in
theorem decode8 (x : Nat) (hx : x < 4294967296) (w : World) (ht : Tab w) : Calls Tryd.prog 46 #[.int .u32 (x : Int)] w fun e w' => e = .returned (.tuple #[(decN x).val, .bool (isWord x)]) ∧ Below w.heap.size w w' := by
  obtain ⟨W, hW, hb, hz, cx, hfr⟩ := box16 w (.int .u32 (x : Int)) (.string ⟨#[]⟩) (.int .i64 0) (.int .i64 0) (.int .i64 0) (.int .i64 0) (.int .u32 0) 27 29
  have HFR : Hid (F6 W (w.heap.size + 1)) := hfr
  have HB : Hid (Below w.heap.size w W) := hb
  have HT : Hid (∀ w', Below W.heap.size W w' → Tab w') := fun w' h => ht.keep (below_tr hb h)
  have K15 := letters15 W
  have HX : Hid (x < 4294967296) := hx
  have hok : RowOk (rowOf x) := found_ok _
  have HOK : Hid (RowOk (rowOf x)) := hok
  have HFD : Hid (∀ w1 bl, w1.cell? ⟨w.heap.size, 0, none⟩ = some (.int .u32 (x : Int)) → ∀ pa, w1.cell? pa = some (.map (some bl)) → LetM w1 bl → Tab w1 → Calls Tryd.prog 52 #[.func (.func 59) #[] #[.pointer (some ⟨w.heap.size, 0, none⟩), .pointer (some pa)]] w1 fun e w' => e = .returned (.tuple #[(rowOf x).val, .bool (isWord x)]) ∧ Below w1.heap.size w1 w') := fun w1 bl h1 pa h2 h3 h4 => found16_17 (matchB x) _ pa w1 (fun r hr w' h => clo17 r (row_ok hr) x hx _ pa bl w' (keep_cell h h1) (keep_cell h h2) (h3.keep h) (h4.keep h))
  have HD : Hid (decN x = if isWord x then insN (rowOf x).shape x else ⟨⟨#[]⟩, 0, 0, 0, 0, 0⟩) := rfl
  generalize decN x = D at HD ⊢
  generalize isWord x = iw at HD HFD ⊢
  generalize rowOf x = R at HD HFD HOK
  clear ht hb hz hfr hx hok
  obtain ⟨name, op, same, form⟩ := R
  go_enter Tryd.func46, Tryd.ntmps46
  go_wp2_with fail
  refine K15.mono ?_
  rintro e w1 ⟨rfl, hb1, hlm⟩
  obtain ⟨w2, hw2, hb2, hz2, cm⟩ := box1 w1 (.map (some W.heap.size)) 77
  obtain ⟨bl, hbl⟩ : ∃ z, z = W.heap.size := ⟨_, rfl⟩
  rw [← hbl] at cm hlm hw2 ⊢
  have hlm2 := hlm.keep hb2
  have cx := keep_cell hb2 (keep_cell hb1 cx)
  have HB2 : Hid (Below W.heap.size W w2) := below_tr hb1 hb2
  have K16 := HFD.out w2 bl cx ⟨w1.heap.size, 0, none⟩ cm hlm2 (HT.out w2 HB2.out)
  unfold Rw.val at K16
  have HLM : Hid (LetM w2 bl) := hlm2
  clear hlm hlm2 hb1 hb2 hz2 hbl K15 HFD
  go_wp2_with fail
  refine K16.mono ?_
  rintro e w3 ⟨rfl, hb3⟩
  obtain ⟨w4, hw4, hb4, hz4, k0, k1, k2, k3, _⟩ := box4 w3 (.string name) (.int .u32 (op : Int)) (.int .u32 (same : Int)) (.string form) 69
  have cx := keep_cell hb4 (keep_cell hb3 cx)
  have cm := keep_cell hb4 (keep_cell hb3 cm)
  have HB4 : Hid (Below W.heap.size W w4) := below_tr HB2.out (below_tr hb3 hb4)
  have hlm4 : Hid (LetM w4 bl) := HLM.out.keep (below_tr hb3 hb4)
  clear K16 hb3 hb4 hz4
  cases iw with
  | false =>
    have HDD : Hid (D = ⟨⟨#[]⟩, 0, 0, 0, 0, 0⟩) := HD.out
    obtain ⟨wF, hwF⟩ : ∃ z, z = w4 := ⟨_, rfl⟩
    have F := HFR.out.keep HB4.out
    have hbF := below_tr HB.out HB4.out
    rw [← hwF] at F hbF k0 k1 k2 k3 cx cm hw4
    have q0 := F.1.cell
    have q1 := F.2.1.cell
    have q2 := F.2.2.1.cell
    have q3 := F.2.2.2.1.cell
    have q4 := F.2.2.2.2.1.cell
    have q5 := F.2.2.2.2.2.cell
    have z0 := F.1.frozen
    have z1 := F.2.1.frozen
    have z2 := F.2.2.1.frozen
    have z3 := F.2.2.2.1.frozen
    have z4 := F.2.2.2.2.1.frozen
    have z5 := F.2.2.2.2.2.frozen
    have hres := res6 wF (w.heap.size + 1) (.string ⟨#[]⟩) (.int .i64 0) (.int .i64 0) (.int .i64 0) (.int .i64 0) (.int .u32 0) F
    simp only at hres
    have HBE := below6 (n := w.heap.size + 1) hbF (by omega) (.string ⟨#[]⟩) (.int .i64 0) (.int .i64 0) (.int .i64 0) (.int .i64 0) (.int .u32 0)
    obtain ⟨W9, hW9⟩ : ∃ z, (((((wF.setCell ⟨w.heap.size + 1, 0, none⟩ (.string ⟨#[]⟩)).setCell ⟨w.heap.size + 1, 1, none⟩ (.int .i64 0)).setCell ⟨w.heap.size + 1, 2, none⟩ (.int .i64 0)).setCell ⟨w.heap.size + 1, 3, none⟩ (.int .i64 0)).setCell ⟨w.heap.size + 1, 4, none⟩ (.int .i64 0)).setCell ⟨w.heap.size + 1, 5, none⟩ (.int .u32 0) = z := ⟨_, rfl⟩
    rw [hW9] at hres HBE
    have HBE : Hid _ := HBE
    obtain ⟨s0, s1, s2, s3, s4, s5⟩ := hres
    clear F hbF
    clear hwF
    go_wp2
    refine bodyPost_ret (v := .tuple #[.agg #[.string ⟨#[]⟩, .int .i64 0, .int .i64 0, .int .i64 0, .int .i64 0, .int .u32 0], .bool false]) ?_ rfl ⟨by rw [HDD.out]; rfl, HBE.out⟩
    rw [results_cell_tmp rfl]; simp [go_sem, s0, s1, s2, s3, s4, s5]
  | true =>
    have hok := HOK.out
    have K18 : Hid (∀ w', Below w4.heap.size w4 w' → Calls Tryd.prog 35 #[.map (some bl), (⟨name, op, same, form⟩ : Rw).val] w' fun e w'' => e = .returned (⟨name, op, same, form⟩ : Rw).shape.val ∧ Below w'.heap.size w' w'') := fun w' h => shape18 _ bl w' hok.fm (hlm4.out.keep h)
    have K20 : Hid (∀ w', Below w4.heap.size w4 w' → Calls Tryd.prog 55 #[(⟨name, op, same, form⟩ : Rw).shape.val, .int .u32 (x : Int)] w' fun e w'' => e = .returned (insN (⟨name, op, same, form⟩ : Rw).shape x).val ∧ Below w'.heap.size w' w'') := fun w' h => ins20 _ x w' HX.out (by have := hok.few; omega) hok.great (HT.out w' (below_tr HB4.out h))
    have HDD : Hid (D = insN (⟨name, op, same, form⟩ : Rw).shape x) := HD.out
    generalize insN (⟨name, op, same, form⟩ : Rw).shape x = I at K20 HDD
    generalize (⟨name, op, same, form⟩ : Rw).shape = S at K18 K20
    obtain ⟨n1, r1, r2, r3, r4, m1⟩ := I
    obtain ⟨sn, so, ss, sf, sfw, sg⟩ := S
    simp only [Rw.val, In.val, Sh.val] at K18 K20
    clear hok HOK HD HLM
    go_wp2
    refine wp_region_cut (R := Ext) [⟨16, fun v _ => v = .map (some bl), fun _ _ _ _ h => h⟩, ⟨17, fun v _ => v = .agg #[.string name, .int .u32 (op : Int), .int .u32 (same : Int), .string form], fun _ _ _ _ h => h⟩, ⟨18, fun v _ => v = .agg #[.string sn, .int .u32 (so : Int), .int .u32 (ss : Int), .string sf, .int .u32 (sfw : Int), .int .u32 (sg : Int)], fun _ _ _ _ h => h⟩, ⟨19, fun v _ => v = .int .u32 (x : Int), fun _ _ _ _ h => h⟩, ⟨20, fun v _ => v = .agg #[.string n1, .int .i64 r1, .int .i64 r2, .int .i64 r3, .int .i64 r4, .int .u32 (m1 : Int)], fun _ _ _ _ h => h⟩] _ 5 (by kernel_rfl) rfl (by kernel_rfl) (by decide) (by kernel_rfl) (Below.drew (Below.refl _ _)) (fun _ _ _ h1 h2 => below_tr h1 h2) (fun QQ => ⟨?_, ?_, ?_, ?_, ?_, trivial⟩) (fun f wy hR hf A hA => ?_)
    · intro A wx hR hout hdep K hK
      have h4 : A.tmps[4]?.getD undef = .pointer (some ⟨w1.heap.size, 0, none⟩) := hout 4 (by kernel_rfl)
      refine if_yes (by kernel_rfl) ?_
      have cx := keep_cell hR cx
      have cm := keep_cell hR cm
      have k0 := keep_cell hR k0
      have k1 := keep_cell hR k1
      have k2 := keep_cell hR k2
      have k3 := keep_cell hR k3
      simp [go_sem, h4, cx, cm, k0, k1, k2, k3]
      exact hK.out _ _ (Below.refl _ _) rfl
    · intro A wx hR hout hdep K hK
      have h5 : A.tmps[5]?.getD undef = .pointer (some ⟨w3.heap.size, 0, none⟩) := hout 5 (by kernel_rfl)
      refine if_yes (by kernel_rfl) ?_
      have cx := keep_cell hR cx
      have cm := keep_cell hR cm
      have k0 := keep_cell hR k0
      have k1 := keep_cell hR k1
      have k2 := keep_cell hR k2
      have k3 := keep_cell hR k3
      simp [go_sem, h5, cx, cm, k0, k1, k2, k3]
      exact hK.out _ _ (Below.refl _ _) rfl
    · intro A wx hR hout hdep K hK
      have h16 : A.tmps[16]?.getD undef = .map (some bl) := hdep 16 (by kernel_rfl)
      have h17 : A.tmps[17]?.getD undef = .agg #[.string name, .int .u32 (op : Int), .int .u32 (same : Int), .string form] := hdep 17 (by kernel_rfl)
      refine if_yes (by kernel_rfl) ?_
      simp [go_sem, h16, h17]
      refine (K18.out wx hR).mono ?_
      rintro e wG ⟨rfl, hbG⟩
      exact hK.out _ _ hbG rfl
    · intro A wx hR hout hdep K hK
      have h1 : A.tmps[1]?.getD undef = .pointer (some ⟨w.heap.size, 0, none⟩) := hout 1 (by kernel_rfl)
      refine if_yes (by kernel_rfl) ?_
      have cx := keep_cell hR cx
      have cm := keep_cell hR cm
      have k0 := keep_cell hR k0
      have k1 := keep_cell hR k1
      have k2 := keep_cell hR k2
      have k3 := keep_cell hR k3
      simp [go_sem, h1, cx, cm, k0, k1, k2, k3]
      exact hK.out _ _ (Below.refl _ _) rfl
    · intro A wx hR hout hdep K hK
      have h18 : A.tmps[18]?.getD undef = .agg #[.string sn, .int .u32 (so : Int), .int .u32 (ss : Int), .string sf, .int .u32 (sfw : Int), .int .u32 (sg : Int)] := hdep 18 (by kernel_rfl)
      have h19 : A.tmps[19]?.getD undef = .int .u32 (x : Int) := hdep 19 (by kernel_rfl)
      refine if_yes (by kernel_rfl) ?_
      simp [go_sem, h18, h19]
      refine (K20.out wx hR).mono ?_
      rintro e wG ⟨rfl, hbG⟩
      exact hK.out _ _ hbG rfl
    have hv20 : f 20 = .agg #[.string n1, .int .i64 r1, .int .i64 r2, .int .i64 r3, .int .i64 r4, .int .u32 (m1 : Int)] := hf 20 (by kernel_rfl)
    simp only [putSl, List.take_succ_cons, List.take_zero, Act.put, List.setIfInBounds_toArray, List.set_cons_zero, List.set_cons_succ, hv20] at hA
    subst hA
    obtain ⟨wF, hwF⟩ : ∃ z, z = wy := ⟨_, rfl⟩
    have F := HFR.out.keep (below_tr HB4.out hR)
    have hbF := below_tr HB.out (below_tr HB4.out hR)
    rw [← hwF] at F hbF ⊢
    have q0 := F.1.cell
    have q1 := F.2.1.cell
    have q2 := F.2.2.1.cell
    have q3 := F.2.2.2.1.cell
    have q4 := F.2.2.2.2.1.cell
    have q5 := F.2.2.2.2.2.cell
    have z0 := F.1.frozen
    have z1 := F.2.1.frozen
    have z2 := F.2.2.1.frozen
    have z3 := F.2.2.2.1.frozen
    have z4 := F.2.2.2.2.1.frozen
    have z5 := F.2.2.2.2.2.frozen
    have hres := res6 wF (w.heap.size + 1) (.string n1) (.int .i64 r1) (.int .i64 r2) (.int .i64 r3) (.int .i64 r4) (.int .u32 (m1 : Int)) F
    simp only at hres
    have HBE := below6 (n := w.heap.size + 1) hbF (by omega) (.string n1) (.int .i64 r1) (.int .i64 r2) (.int .i64 r3) (.int .i64 r4) (.int .u32 (m1 : Int))
    obtain ⟨W9, hW9⟩ : ∃ z, (((((wF.setCell ⟨w.heap.size + 1, 0, none⟩ (.string n1)).setCell ⟨w.heap.size + 1, 1, none⟩ (.int .i64 r1)).setCell ⟨w.heap.size + 1, 2, none⟩ (.int .i64 r2)).setCell ⟨w.heap.size + 1, 3, none⟩ (.int .i64 r3)).setCell ⟨w.heap.size + 1, 4, none⟩ (.int .i64 r4)).setCell ⟨w.heap.size + 1, 5, none⟩ (.int .u32 (m1 : Int)) = z := ⟨_, rfl⟩
    rw [hW9] at hres HBE
    have HBE : Hid _ := HBE
    obtain ⟨s0, s1, s2, s3, s4, s5⟩ := hres
    clear F hbF
    clear hwF hR hf
    refine wpAny_ready (rs := [5]) (by kernel_rfl) (by decide) (AllReady.cons rfl ?_ AllReady.nil)
    intro K5 hK5
    refine if_yes (by kernel_rfl) ?_
    simp [go_sem, q0, q1, q2, q3, q4, q5, z0, z1, z2, z3, z4, z5, hW9]
    refine hK5 _ _ ?_
    refine wpAny_ready (rs := [6]) (by kernel_rfl) (by decide) (AllReady.cons rfl ?_ AllReady.nil)
    intro K6 hK6
    refine if_yes (by kernel_rfl) ?_
    simp [go_sem]
    refine hK6 _ _ ?_
    refine wpAny_done (by kernel_rfl) ?_ _
    go_wp2
    refine bodyPost_ret (v := .tuple #[.agg #[.string n1, .int .i64 r1, .int .i64 r2, .int .i64 r3, .int .i64 r4, .int .u32 (m1 : Int)], .bool true]) ?_ rfl ⟨by rw [HDD.out]; rfl, HBE.out⟩
    rw [results_cell_tmp rfl]; simp [go_sem, s0, s1, s2, s3, s4, s5]
end Go.Proofs.YtglkkeelocdanaaDoor
