/- What is proved here: the instruction of a word. -/
import Derived.Test.YtidehnfgiiobcaaDoorFd
namespace Go.Proofs.YtidehnfgiiobcaaDoor
open Go.RowKit
set_option linter.unusedVariables false
set_option linter.unusedSimpArgs false
set_option maxRecDepth 100000
/-- Is x a word of a row? -/
def matchB (x : Nat) (r : Rw) : Bool := (r.op == x / 67108864) && belongB r.shape (insN r.shape x) x
theorem insN_imm (s : Sh) (x : Nat) (hx : x < 4294967296) : (insN s x).imm < 4294967296 := by
  show (x &&& s.great) / _ < _
  have h1 := Nat.and_le_left (n := x) (m := s.great)
  have h2 := Nat.div_le_self (x &&& s.great) (2 ^ tzN s.great)
  omega
set_option maxHeartbeats 1000000 in
theorem clo17 (r : Rw) (hr : RowOk r) (x : Nat) (hx : x < 4294967296) (pw pa : Addr) (b : Nat) (w : World) (hcw : w.cell? pw = some (.int .u32 (x : Int))) (hca : w.cell? pa = some (.map (some b))) (hm : LetM w b) (ht : Tab w) :
    Calls Tryd.prog 17 #[r.val, .pointer (some pw), .pointer (some pa)] w fun e w' => e = .returned (.bool (matchB x r)) ∧ Below w.heap.size w w' := by
  obtain ⟨W, hW, hb, hz, c0, c1, c2, c3, _⟩ := box4 w (.string r.name) (.int .u32 (r.op : Int)) (.int .u32 (r.same : Int)) (.string r.form) 41
  have hcw := keep_cell hb hcw
  have hca := keep_cell hb hca
  have K18 := shape18 r b W hr.fm (hm.keep hb)
  have HT : Hid (∀ w', Below W.heap.size W w' → Tab w') := fun w' h => ht.keep (below_tr hb h)
  have HB : Hid (∀ w', Below W.heap.size W w' → Below w.heap.size w w') := fun w' h => below_tr hb h
  by_cases ho : r.op = x / 67108864
  · have K20 : Hid (∀ w', Tab w' → Calls Tryd.prog 20 #[r.shape.val, .int .u32 (x : Int)] w' fun e w'' => e = .returned (insN r.shape x).val ∧ Below w'.heap.size w' w'') := fun w' h => ins20 r.shape x w' hx (by have := hr.few; omega) hr.great h
    have K19 : Hid (∀ w', Tab w' → Calls Tryd.prog 19 #[r.shape.val, (insN r.shape x).val, .int .u32 (x : Int)] w' fun e w'' => e = .returned (.bool (belongB r.shape (insN r.shape x) x)) ∧ Below w'.heap.size w' w'') := fun w' h => belong19 r.shape _ x w' hx (insN_imm _ _ hx) (by have := hr.few; omega) (by show r.same < _; have := hr.same; omega) hr.great h
    have hmb : matchB x r = belongB r.shape (insN r.shape x) x := by unfold matchB; rw [show (r.op == x / 67108864) = true from by simpa using ho, Bool.true_and]
    rw [hmb]
    generalize belongB r.shape (insN r.shape x) x = bb at K19 ⊢
    generalize insN r.shape x = I at K19 K20
    have ho' : ((r.op : Int) != (x : Int) / 67108864) = false := by simp; omega
    have hs : r.shape.val = .agg #[.string r.shape.name, .int .u32 (r.shape.op : Int), .int .u32 (r.shape.same : Int), .string r.shape.form, .int .u32 (r.shape.few : Int), .int .u32 (r.shape.great : Int)] := rfl
    rw [hs] at K18 K19 K20
    generalize r.shape = S at K18 K19 K20
    obtain ⟨name, op, same, form, few, great⟩ := S
    obtain ⟨n1, r1, r2, r3, r4, m1⟩ := I
    simp only [In.val] at K18 K19 K20
    obtain ⟨nm0, op0, sm0, fm0⟩ := r
    simp only [Rw.val] at K18 ho' c0 c1 c2 c3 hW ⊢
    clear ho hmb hs hr hm ht hx hb hz
    go_enter Tryd.func17, Tryd.ntmps17
    go_wp2_with fail
    refine K18.mono ?_
    rintro e wy0 ⟨rfl, hb0⟩
    have hcw := keep_cell hb0 hcw
    obtain ⟨V, hV, hbv, hzv, k0, k1, k2, k3, k4, k5⟩ := box6 wy0 (.string name) (.int .u32 (op : Int)) (.int .u32 (same : Int)) (.string form) (.int .u32 (few : Int)) (.int .u32 (great : Int)) 47
    have hcw := keep_cell hbv hcw
    have HBV : Hid (Below W.heap.size W V) := below_tr hb0 hbv
    have K20 : Hid (∀ w', Below V.heap.size V w' → _) := fun w' h => K20.out w' (HT.out w' (below_tr HBV.out h))
    have K19 : Hid (∀ w', Below V.heap.size V w' → _) := fun w' h => K19.out w' (HT.out w' (below_tr HBV.out h))
    clear hb0 hbv hzv hca K18 c0 c1 c2 c3
    go_wp2
    refine wp_region_slots (R := Ext) [⟨14, fun v _ => v = .agg #[.string name, .int .u32 (op : Int), .int .u32 (same : Int), .string form, .int .u32 (few : Int), .int .u32 (great : Int)], fun _ _ _ _ h => h⟩, ⟨15, fun v _ => v = .agg #[.string name, .int .u32 (op : Int), .int .u32 (same : Int), .string form, .int .u32 (few : Int), .int .u32 (great : Int)], fun _ _ _ _ h => h⟩, ⟨16, fun v _ => v = .int .u32 (x : Int), fun _ _ _ _ h => h⟩, ⟨17, fun v _ => v = .agg #[.string n1, .int .i64 r1, .int .i64 r2, .int .i64 r3, .int .i64 r4, .int .u32 (m1 : Int)], fun _ _ _ _ h => h⟩, ⟨18, fun v _ => v = .int .u32 (x : Int), fun _ _ _ _ h => h⟩, ⟨19, fun v _ => v = .bool bb, fun _ _ _ _ h => h⟩, ⟨4, fun v _ => v = .bool bb, fun _ _ _ _ h => h⟩] _ (by kernel_rfl) rfl (by kernel_rfl) (Below.drew (Below.refl _ _)) (fun _ _ _ h1 h2 => below_tr h1 h2) (fun QQ => ⟨?_, ?_, ?_, ?_, ?_, ?_, ?_, trivial⟩) (fun f wy hR hf => ?_)
    · intro A wx hR hout hdep K hK
      have h5 : A.tmps[5]?.getD undef = .pointer (some ⟨wy0.heap.size, 0, none⟩) := hout 5 (by kernel_rfl)
      refine if_yes (by kernel_rfl) ?_
      have hcw := keep_cell hR hcw
      have k0 := keep_cell hR k0
      have k1 := keep_cell hR k1
      have k2 := keep_cell hR k2
      have k3 := keep_cell hR k3
      have k4 := keep_cell hR k4
      have k5 := keep_cell hR k5
      simp [go_sem, h5, hcw, k0, k1, k2, k3, k4, k5]
      exact hK.out _ _ (Below.refl _ _) rfl
    · intro A wx hR hout hdep K hK
      have h5 : A.tmps[5]?.getD undef = .pointer (some ⟨wy0.heap.size, 0, none⟩) := hout 5 (by kernel_rfl)
      refine if_yes (by kernel_rfl) ?_
      have hcw := keep_cell hR hcw
      have k0 := keep_cell hR k0
      have k1 := keep_cell hR k1
      have k2 := keep_cell hR k2
      have k3 := keep_cell hR k3
      have k4 := keep_cell hR k4
      have k5 := keep_cell hR k5
      simp [go_sem, h5, hcw, k0, k1, k2, k3, k4, k5]
      exact hK.out _ _ (Below.refl _ _) rfl
    · intro A wx hR hout hdep K hK
      have h1 : A.tmps[1]?.getD undef = .pointer (some pw) := hout 1 (by kernel_rfl)
      refine if_yes (by kernel_rfl) ?_
      have hcw := keep_cell hR hcw
      have k0 := keep_cell hR k0
      have k1 := keep_cell hR k1
      have k2 := keep_cell hR k2
      have k3 := keep_cell hR k3
      have k4 := keep_cell hR k4
      have k5 := keep_cell hR k5
      simp [go_sem, h1, hcw, k0, k1, k2, k3, k4, k5]
      exact hK.out _ _ (Below.refl _ _) rfl
    · intro A wx hR hout hdep K hK
      have h15 : A.tmps[15]?.getD undef = .agg #[.string name, .int .u32 (op : Int), .int .u32 (same : Int), .string form, .int .u32 (few : Int), .int .u32 (great : Int)] := hdep 15 (by kernel_rfl)
      have h16 : A.tmps[16]?.getD undef = .int .u32 (x : Int) := hdep 16 (by kernel_rfl)
      refine if_yes (by kernel_rfl) ?_
      simp [go_sem, h15, h16]
      refine (K20.out wx hR).mono ?_
      rintro e wG ⟨rfl, hbG⟩
      exact hK.out _ _ hbG rfl
    · intro A wx hR hout hdep K hK
      have h1 : A.tmps[1]?.getD undef = .pointer (some pw) := hout 1 (by kernel_rfl)
      refine if_yes (by kernel_rfl) ?_
      have hcw := keep_cell hR hcw
      have k0 := keep_cell hR k0
      have k1 := keep_cell hR k1
      have k2 := keep_cell hR k2
      have k3 := keep_cell hR k3
      have k4 := keep_cell hR k4
      have k5 := keep_cell hR k5
      simp [go_sem, h1, hcw, k0, k1, k2, k3, k4, k5]
      exact hK.out _ _ (Below.refl _ _) rfl
    · intro A wx hR hout hdep K hK
      have h14 : A.tmps[14]?.getD undef = .agg #[.string name, .int .u32 (op : Int), .int .u32 (same : Int), .string form, .int .u32 (few : Int), .int .u32 (great : Int)] := hdep 14 (by kernel_rfl)
      have h17 : A.tmps[17]?.getD undef = .agg #[.string n1, .int .i64 r1, .int .i64 r2, .int .i64 r3, .int .i64 r4, .int .u32 (m1 : Int)] := hdep 17 (by kernel_rfl)
      have h18 : A.tmps[18]?.getD undef = .int .u32 (x : Int) := hdep 18 (by kernel_rfl)
      refine if_yes (by kernel_rfl) ?_
      simp [go_sem, h14, h17, h18]
      refine (K19.out wx hR).mono ?_
      rintro e wG ⟨rfl, hbG⟩
      exact hK.out _ _ hbG rfl
    · intro A wx hR hout hdep K hK
      have h19 : A.tmps[19]?.getD undef = .bool bb := hdep 19 (by kernel_rfl)
      refine if_yes (by kernel_rfl) ?_
      simp [go_sem, h19]
      exact hK.out _ _ (Below.refl _ _) rfl
    simp only [putSl, Act.put, List.setIfInBounds_toArray, List.set_cons_zero, List.set_cons_succ, show f 4 = .bool bb from hf 4 (by kernel_rfl)]
    have HBE : Hid (Below w.heap.size w wy) := HB.out _ (below_tr HBV.out hR)
    go_wp2
    go_ret
    exact ⟨rfl, HBE.out⟩
  · have hmb : matchB x r = false := by unfold matchB; rw [show (r.op == x / 67108864) = false from by simpa using ho, Bool.false_and]
    rw [hmb]
    have ho' : ((r.op : Int) != (x : Int) / 67108864) = true := by simp; omega
    obtain ⟨nm0, op0, sm0, fm0⟩ := r
    simp only [Rw.val] at ho' c0 c1 c2 c3 hW ⊢
    have HBE : Hid (Below w.heap.size w W) := hb
    clear ho hmb hr hm ht hx hb hz K18
    go_enter Tryd.func17, Tryd.ntmps17
    go_wp2
    go_ret
    exact ⟨rfl, HBE.out⟩
end Go.Proofs.YtidehnfgiiobcaaDoor
