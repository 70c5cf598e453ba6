/- What is proved here: bits taken out and put in. -/
import Derived.Test.YtogokbefpgaciaaDoorAe
namespace Go.Proofs.YtogokbefpgaciaaDoor
open Go.RowKit
set_option linter.unusedVariables false
set_option linter.unusedSimpArgs false
set_option maxRecDepth 100000
theorem low_lt (n : Nat) (hn : n ≤ 32) : lowN n < 4294967296 := by
  have := Nat.pow_le_pow_right (show 2 > 0 by decide) hn
  have h1 : 0 < 2 ^ n := Nat.pow_pos (by decide)
  unfold lowN; omega
theorem andNot_u32 (a m : Nat) (ha : a < 4294967296) (hm : m < 4294967296) : bits .andNot .u32 (a : Int) (m : Int) = ((a &&& (4294967295 - m) : Nat) : Int) := by
  have h : a &&& (4294967295 - m) < 4294967296 := Nat.lt_of_le_of_lt Nat.and_le_left ha
  show IntKind.u32.wrap (((BitVec.ofInt 32 (a : Int) &&& ~~~ BitVec.ofInt 32 (m : Int)).toNat : Nat) : Int) = _
  rw [BitVec.toNat_and, BitVec.toNat_not, BitVec.toNat_ofInt, BitVec.toNat_ofInt, IntKind.wrap_u32]
  have ea : ((a : Int) % ((2 ^ 32 : Nat) : Int)).toNat = a := by omega
  have eb : ((m : Int) % ((2 ^ 32 : Nat) : Int)).toNat = m := by omega
  rw [ea, eb, show 2 ^ 32 - 1 - m = 4294967295 - m from rfl]
  omega
set_option maxHeartbeats 1000000 in
theorem inserted77 (a b m : Nat) (ha : a < 4294967296) (hb : b < 4294967296) (hm : m < 4294967296) (w : World) : Calls Tryd.prog 77 #[.int .u32 (a : Int), .int .u32 (b : Int), .int .u32 (m : Int)] w fun e w' => e = .returned (.int .u32 (insM a b m : Int)) ∧ Below w.heap.size w w' := by
  have l1 : a &&& (4294967295 - m) < 4294967296 := Nat.lt_of_le_of_lt Nat.and_le_left ha
  have l2 : b &&& m < 4294967296 := Nat.lt_of_le_of_lt Nat.and_le_left hb
  have h1 := and_u32 b m hb hm
  have h2 := andNot_u32 a m ha hm
  have h3 : Hid (bits .or .u32 ((a &&& (4294967295 - m) : Nat) : Int) ((b &&& m : Nat) : Int) = ((insM a b m : Nat) : Int)) := or_u32 _ _ l1 l2
  generalize insM a b m = z at h3 ⊢
  go_enter Tryd.func77, Tryd.ntmps77
  go_wp2
  go_ret
  exact ⟨ret_u32 h3.out, Below.refl _ _⟩
set_option maxHeartbeats 1000000 in
theorem w_ext (x : Tk) (hx : x.Ok) (h0 : 0 ≤ x.sa ∧ x.sa < 32 ∧ 0 ≤ x.rd ∧ x.rd < 32) (w : World) : Calls Tryd.prog 74 #[x.val] w fun e w' => Told (workN 29 x) e ∧ Below w.heap.size w w' := by
  obtain ⟨W, hW, hb, hz, c0, c1, c2, c3, c4, c5⟩ := box6 w (.int .u32 (x.s : Int)) (.int .u32 (x.t : Int)) (.int .u32 (x.imm : Int)) (.int .u32 (x.simm : Int)) (.int .i64 x.sa) (.int .i64 x.rd) 44
  have HB : Hid (Below w.heap.size w W) := hb
  obtain ⟨xs, xt, xi, xm, sa, rd⟩ := x
  simp only [Tk.val] at hx c0 c1 c2 c3 c4 c5 hW ⊢
  obtain ⟨g1, g2, g3, g4⟩ := h0
  try simp only at g1 g2 g3 g4
  obtain ⟨n, rfl⟩ := Int.eq_ofNat_of_zero_le g1
  obtain ⟨r0, rfl⟩ := Int.eq_ofNat_of_zero_le g3
  have hn : n < 32 := by omega
  have hn2 : min n 64 = n := by omega
  have hn3 : ¬ ((n : Int) < 0) := by omega
  have h1 := hx.s
  try simp only at h1
  have hr1 : r0 + 1 ≤ 32 := by omega
  have hw : IntKind.i64.wrap ((r0 : Int) + 1) = ((r0 + 1 : Nat) : Int) := by rw [IntKind.wrap_i64]; omega
  obtain ⟨r, hr⟩ : ∃ r, r = workN 29 ⟨xs, xt, xi, xm, (n : Int), (r0 : Int)⟩ := ⟨_, rfl⟩
  rw [← hr]
  have HR : Hid (r = some (xs / 2 ^ n &&& lowN (r0 + 1))) := hr
  have K1 : Hid (∀ wx, Calls Tryd.prog 75 #[.int .i64 ((r0 + 1 : Nat) : Int)] wx fun e w' => e = .returned (.int .u32 (lowN (r0 + 1) : Int)) ∧ w' = wx) := fun wx => lowest75 _ hr1 wx
  have hlow := low_lt (r0 + 1) hr1
  have hdl : xs / 2 ^ n < 4294967296 := Nat.lt_of_le_of_lt (Nat.div_le_self _ _) h1
  have hdiv : (xs : Int) / 2 ^ n = ((xs / 2 ^ n : Nat) : Int) := by simp
  have hand := and_u32 _ _ hdl hlow
  generalize lowN (r0 + 1) = lo at HR K1 hand
  generalize xs / 2 ^ n = dv at HR hdiv hand
  generalize dv &&& lo = o at HR hand
  obtain ⟨r1, hr1'⟩ : ∃ r1, r1 = r0 + 1 := ⟨_, rfl⟩
  rw [← hr1'] at hw K1
  clear hr hx hz h1 hb hlow hdl hr1 hr1'
  go_enter Tryd.func74, Tryd.ntmps74
  go_wp2
  refine wp_region_slots (R := Ext) [⟨3, fun v _ => v = (.pointer (some ⟨w.heap.size, 0, none⟩)), fun _ _ _ _ h => h⟩, ⟨4, fun v _ => v = (.int .u32 (xs : Int)), fun _ _ _ _ h => h⟩, ⟨5, fun v _ => v = (.pointer (some ⟨w.heap.size, 4, none⟩)), fun _ _ _ _ h => h⟩, ⟨6, fun v _ => v = (.int .i64 (n : Int)), fun _ _ _ _ h => h⟩, ⟨7, fun v _ => v = (.int .u32 (dv : Int)), fun _ _ _ _ h => h⟩, ⟨8, fun v _ => v = (.pointer (some ⟨w.heap.size, 5, none⟩)), fun _ _ _ _ h => h⟩, ⟨9, fun v _ => v = (.int .i64 (r0 : Int)), fun _ _ _ _ h => h⟩, ⟨10, fun v _ => v = (.int .i64 (r1 : Int)), fun _ _ _ _ h => h⟩, ⟨11, fun v _ => v = (.int .u32 (lo : Int)), fun _ _ _ _ h => h⟩, ⟨12, fun v _ => v = (.int .u32 (o : Int)), fun _ _ _ _ h => h⟩, ⟨2, fun v _ => v = (.int .u32 (o : Int)), fun _ _ _ _ h => h⟩] _ (by kernel_rfl) rfl (by kernel_rfl) (Below.drew (Below.refl _ _)) (fun _ _ _ h1 h2 => below_tr h1 h2) (fun QQ => ⟨?_, ?_, ?_, ?_, ?_, ?_, ?_, ?_, ?_, ?_, ?_, trivial⟩) (fun f wy hR hf => ?_)
  · intro A wx hR hout hdep K hK
    have h1 : A.tmps[1]?.getD undef = (.pointer (some ⟨w.heap.size, 0, none⟩)) := hout 1 (by kernel_rfl)
    refine if_yes (by kernel_rfl) ?_
    simp [go_sem, h1, hn2, hn3, hdiv, hw, hand]
    exact hK.out _ _ (Below.refl _ _) rfl
  · intro A wx hR hout hdep K hK
    have h3 : A.tmps[3]?.getD undef = (.pointer (some ⟨w.heap.size, 0, none⟩)) := hdep 3 (by kernel_rfl)
    refine if_yes (by kernel_rfl) ?_
    have c0 := keep_cell hR c0
    have c1 := keep_cell hR c1
    have c2 := keep_cell hR c2
    have c3 := keep_cell hR c3
    have c4 := keep_cell hR c4
    have c5 := keep_cell hR c5
    simp [go_sem, h3, c0, c1, c2, c3, c4, c5, hn2, hn3, hdiv, hw, hand]
    exact hK.out _ _ (Below.refl _ _) rfl
  · intro A wx hR hout hdep K hK
    have h1 : A.tmps[1]?.getD undef = (.pointer (some ⟨w.heap.size, 0, none⟩)) := hout 1 (by kernel_rfl)
    refine if_yes (by kernel_rfl) ?_
    simp [go_sem, h1, hn2, hn3, hdiv, hw, hand]
    exact hK.out _ _ (Below.refl _ _) rfl
  · intro A wx hR hout hdep K hK
    have h5 : A.tmps[5]?.getD undef = (.pointer (some ⟨w.heap.size, 4, none⟩)) := hdep 5 (by kernel_rfl)
    refine if_yes (by kernel_rfl) ?_
    have c0 := keep_cell hR c0
    have c1 := keep_cell hR c1
    have c2 := keep_cell hR c2
    have c3 := keep_cell hR c3
    have c4 := keep_cell hR c4
    have c5 := keep_cell hR c5
    simp [go_sem, h5, c0, c1, c2, c3, c4, c5, hn2, hn3, hdiv, hw, hand]
    exact hK.out _ _ (Below.refl _ _) rfl
  · intro A wx hR hout hdep K hK
    have h4 : A.tmps[4]?.getD undef = (.int .u32 (xs : Int)) := hdep 4 (by kernel_rfl)
    have h6 : A.tmps[6]?.getD undef = (.int .i64 (n : Int)) := hdep 6 (by kernel_rfl)
    refine if_yes (by kernel_rfl) ?_
    simp [go_sem, h4, h6, hn2, hn3, hdiv, hw, hand]
    exact hK.out _ _ (Below.refl _ _) rfl
  · intro A wx hR hout hdep K hK
    have h1 : A.tmps[1]?.getD undef = (.pointer (some ⟨w.heap.size, 0, none⟩)) := hout 1 (by kernel_rfl)
    refine if_yes (by kernel_rfl) ?_
    simp [go_sem, h1, hn2, hn3, hdiv, hw, hand]
    exact hK.out _ _ (Below.refl _ _) rfl
  · intro A wx hR hout hdep K hK
    have h8 : A.tmps[8]?.getD undef = (.pointer (some ⟨w.heap.size, 5, none⟩)) := hdep 8 (by kernel_rfl)
    refine if_yes (by kernel_rfl) ?_
    have c0 := keep_cell hR c0
    have c1 := keep_cell hR c1
    have c2 := keep_cell hR c2
    have c3 := keep_cell hR c3
    have c4 := keep_cell hR c4
    have c5 := keep_cell hR c5
    simp [go_sem, h8, c0, c1, c2, c3, c4, c5, hn2, hn3, hdiv, hw, hand]
    exact hK.out _ _ (Below.refl _ _) rfl
  · intro A wx hR hout hdep K hK
    have h9 : A.tmps[9]?.getD undef = (.int .i64 (r0 : Int)) := hdep 9 (by kernel_rfl)
    refine if_yes (by kernel_rfl) ?_
    simp [go_sem, h9, hn2, hn3, hdiv, hw, hand]
    exact hK.out _ _ (Below.refl _ _) rfl
  · intro A wx hR hout hdep K hK
    have h10 : A.tmps[10]?.getD undef = (.int .i64 (r1 : Int)) := hdep 10 (by kernel_rfl)
    refine if_yes (by kernel_rfl) ?_
    simp [go_sem, h10, hn2, hn3, hdiv, hw, hand]
    refine (K1.out wx).mono ?_
    rintro e wG ⟨rfl, rfl⟩
    exact hK.out _ _ (Below.refl _ _) rfl
  · intro A wx hR hout hdep K hK
    have h7 : A.tmps[7]?.getD undef = (.int .u32 (dv : Int)) := hdep 7 (by kernel_rfl)
    have h11 : A.tmps[11]?.getD undef = (.int .u32 (lo : Int)) := hdep 11 (by kernel_rfl)
    refine if_yes (by kernel_rfl) ?_
    simp [go_sem, h7, h11, hn2, hn3, hdiv, hw, hand]
    exact hK.out _ _ (Below.refl _ _) rfl
  · intro A wx hR hout hdep K hK
    have h12 : A.tmps[12]?.getD undef = (.int .u32 (o : Int)) := hdep 12 (by kernel_rfl)
    refine if_yes (by kernel_rfl) ?_
    simp [go_sem, h12, hn2, hn3, hdiv, hw, hand]
    exact hK.out _ _ (Below.refl _ _) rfl
  simp only [putSl, Act.put, List.setIfInBounds_toArray, List.set_cons_zero, List.set_cons_succ, show f 2 = (.int .u32 (o : Int)) from hf 2 (by kernel_rfl)]
  have HBE : Hid (Below w.heap.size w wy) := below_tr HB.out hR
  go_wp2
  go_ret
  exact ⟨by rw [HR.out]; rfl, HBE.out⟩
set_option maxHeartbeats 1000000 in
theorem w_ins (x : Tk) (hx : x.Ok) (h0 : 0 ≤ x.sa ∧ x.sa < 32 ∧ 0 ≤ x.rd ∧ x.rd < 32) (h1 : x.sa ≤ x.rd) (w : World) : Calls Tryd.prog 76 #[x.val] w fun e w' => Told (workN 30 x) e ∧ Below w.heap.size w w' := by
  obtain ⟨W, hW, hb, hz, c0, c1, c2, c3, c4, c5⟩ := box6 w (.int .u32 (x.s : Int)) (.int .u32 (x.t : Int)) (.int .u32 (x.imm : Int)) (.int .u32 (x.simm : Int)) (.int .i64 x.sa) (.int .i64 x.rd) 44
  have HB : Hid (Below w.heap.size w W) := hb
  obtain ⟨xs, xt, xi, xm, sa, rd⟩ := x
  simp only [Tk.val] at hx c0 c1 c2 c3 c4 c5 hW ⊢
  obtain ⟨g1, g2, g3, g4⟩ := h0
  try simp only at g1 g2 g3 g4
  obtain ⟨n, rfl⟩ := Int.eq_ofNat_of_zero_le g1
  obtain ⟨r0, rfl⟩ := Int.eq_ofNat_of_zero_le g3
  have hn : n < 32 := by omega
  have hn2 : min n 64 = n := by omega
  have hn3 : ¬ ((n : Int) < 0) := by omega
  try simp only at h1
  have hle : n ≤ r0 := by omega
  have e1 := hx.s
  have e2 := hx.t
  try simp only at e1 e2
  have hr1 : r0 - n + 1 ≤ 32 := by omega
  have hw1 : IntKind.i64.wrap ((r0 : Int) - (n : Int)) = ((r0 - n : Nat) : Int) := by rw [IntKind.wrap_i64]; omega
  have hw2 : IntKind.i64.wrap (((r0 - n : Nat) : Int) + 1) = ((r0 - n + 1 : Nat) : Int) := by rw [IntKind.wrap_i64]; omega
  obtain ⟨r, hr⟩ : ∃ r, r = workN 30 ⟨xs, xt, xi, xm, (n : Int), (r0 : Int)⟩ := ⟨_, rfl⟩
  rw [← hr]
  have HR : Hid (r = some (insM xt (xs * 2 ^ n % 4294967296) (lowN (r0 - n + 1) * 2 ^ n % 4294967296))) := hr
  have K1 : Hid (∀ wx, Calls Tryd.prog 75 #[.int .i64 ((r0 - n + 1 : Nat) : Int)] wx fun e w' => e = .returned (.int .u32 (lowN (r0 - n + 1) : Int)) ∧ w' = wx) := fun wx => lowest75 _ hr1 wx
  have K2 : Hid (∀ wx, Calls Tryd.prog 77 #[.int .u32 (xt : Int), .int .u32 ((xs * 2 ^ n % 4294967296 : Nat) : Int), .int .u32 ((lowN (r0 - n + 1) * 2 ^ n % 4294967296 : Nat) : Int)] wx fun e w' => e = .returned (.int .u32 (insM xt (xs * 2 ^ n % 4294967296) (lowN (r0 - n + 1) * 2 ^ n % 4294967296) : Int)) ∧ Below wx.heap.size wx w') := fun wx => inserted77 _ _ _ e2 (by omega) (by omega) wx
  generalize lowN (r0 - n + 1) = lo at HR K1 K2
  have m1 : IntKind.u32.wrap ((xs : Int) * 2 ^ n) = ((xs * 2 ^ n % 4294967296 : Nat) : Int) := by rw [IntKind.wrap_u32]; simp
  have m2 : IntKind.u32.wrap ((lo : Int) * 2 ^ n) = ((lo * 2 ^ n % 4294967296 : Nat) : Int) := by rw [IntKind.wrap_u32]; simp
  generalize xs * 2 ^ n % 4294967296 = p at HR K2 m1
  generalize lo * 2 ^ n % 4294967296 = q at HR K2 m2
  generalize insM xt p q = o at HR K2
  obtain ⟨r1, hr1'⟩ : ∃ r1, r1 = r0 - n := ⟨_, rfl⟩
  obtain ⟨r2, hr2'⟩ : ∃ r2, r2 = r0 - n + 1 := ⟨_, rfl⟩
  rw [← hr2'] at hw2 K1
  rw [← hr1'] at hw1 hw2
  clear hr hx hz h1 hb hr1 hr1' hr2' e1 e2 hle
  go_enter Tryd.func76, Tryd.ntmps76
  go_wp2
  refine wp_region_slots (R := Ext) [⟨3, fun v _ => v = (.pointer (some ⟨w.heap.size, 1, none⟩)), fun _ _ _ _ h => h⟩, ⟨4, fun v _ => v = (.int .u32 (xt : Int)), fun _ _ _ _ h => h⟩, ⟨5, fun v _ => v = (.pointer (some ⟨w.heap.size, 0, none⟩)), fun _ _ _ _ h => h⟩, ⟨6, fun v _ => v = (.int .u32 (xs : Int)), fun _ _ _ _ h => h⟩, ⟨7, fun v _ => v = (.pointer (some ⟨w.heap.size, 4, none⟩)), fun _ _ _ _ h => h⟩, ⟨8, fun v _ => v = (.int .i64 (n : Int)), fun _ _ _ _ h => h⟩, ⟨9, fun v _ => v = (.int .u32 (p : Int)), fun _ _ _ _ h => h⟩, ⟨10, fun v _ => v = (.pointer (some ⟨w.heap.size, 5, none⟩)), fun _ _ _ _ h => h⟩, ⟨11, fun v _ => v = (.int .i64 (r0 : Int)), fun _ _ _ _ h => h⟩, ⟨12, fun v _ => v = (.pointer (some ⟨w.heap.size, 4, none⟩)), fun _ _ _ _ h => h⟩, ⟨13, fun v _ => v = (.int .i64 (n : Int)), fun _ _ _ _ h => h⟩, ⟨14, fun v _ => v = (.int .i64 (r1 : Int)), fun _ _ _ _ h => h⟩, ⟨15, fun v _ => v = (.int .i64 (r2 : Int)), fun _ _ _ _ h => h⟩, ⟨16, fun v _ => v = (.int .u32 (lo : Int)), fun _ _ _ _ h => h⟩, ⟨17, fun v _ => v = (.pointer (some ⟨w.heap.size, 4, none⟩)), fun _ _ _ _ h => h⟩, ⟨18, fun v _ => v = (.int .i64 (n : Int)), fun _ _ _ _ h => h⟩, ⟨19, fun v _ => v = (.int .u32 (q : Int)), fun _ _ _ _ h => h⟩, ⟨20, fun v _ => v = (.int .u32 (o : Int)), fun _ _ _ _ h => h⟩, ⟨2, fun v _ => v = (.int .u32 (o : Int)), fun _ _ _ _ h => h⟩] _ (by kernel_rfl) rfl (by kernel_rfl) (Below.drew (Below.refl _ _)) (fun _ _ _ h1 h2 => below_tr h1 h2) (fun QQ => ⟨?_, ?_, ?_, ?_, ?_, ?_, ?_, ?_, ?_, ?_, ?_, ?_, ?_, ?_, ?_, ?_, ?_, ?_, ?_, trivial⟩) (fun f wy hR hf => ?_)
  · intro A wx hR hout hdep K hK
    have h1 : A.tmps[1]?.getD undef = (.pointer (some ⟨w.heap.size, 0, none⟩)) := hout 1 (by kernel_rfl)
    refine if_yes (by kernel_rfl) ?_
    simp [go_sem, h1, hn2, hn3, hw1, hw2, m1, m2]
    exact hK.out _ _ (Below.refl _ _) rfl
  · intro A wx hR hout hdep K hK
    have h3 : A.tmps[3]?.getD undef = (.pointer (some ⟨w.heap.size, 1, none⟩)) := hdep 3 (by kernel_rfl)
    refine if_yes (by kernel_rfl) ?_
    have c0 := keep_cell hR c0
    have c1 := keep_cell hR c1
    have c2 := keep_cell hR c2
    have c3 := keep_cell hR c3
    have c4 := keep_cell hR c4
    have c5 := keep_cell hR c5
    simp [go_sem, h3, c0, c1, c2, c3, c4, c5, hn2, hn3, hw1, hw2, m1, m2]
    exact hK.out _ _ (Below.refl _ _) rfl
  · intro A wx hR hout hdep K hK
    have h1 : A.tmps[1]?.getD undef = (.pointer (some ⟨w.heap.size, 0, none⟩)) := hout 1 (by kernel_rfl)
    refine if_yes (by kernel_rfl) ?_
    simp [go_sem, h1, hn2, hn3, hw1, hw2, m1, m2]
    exact hK.out _ _ (Below.refl _ _) rfl
  · intro A wx hR hout hdep K hK
    have h5 : A.tmps[5]?.getD undef = (.pointer (some ⟨w.heap.size, 0, none⟩)) := hdep 5 (by kernel_rfl)
    refine if_yes (by kernel_rfl) ?_
    have c0 := keep_cell hR c0
    have c1 := keep_cell hR c1
    have c2 := keep_cell hR c2
    have c3 := keep_cell hR c3
    have c4 := keep_cell hR c4
    have c5 := keep_cell hR c5
    simp [go_sem, h5, c0, c1, c2, c3, c4, c5, hn2, hn3, hw1, hw2, m1, m2]
    exact hK.out _ _ (Below.refl _ _) rfl
  · intro A wx hR hout hdep K hK
    have h1 : A.tmps[1]?.getD undef = (.pointer (some ⟨w.heap.size, 0, none⟩)) := hout 1 (by kernel_rfl)
    refine if_yes (by kernel_rfl) ?_
    simp [go_sem, h1, hn2, hn3, hw1, hw2, m1, m2]
    exact hK.out _ _ (Below.refl _ _) rfl
  · intro A wx hR hout hdep K hK
    have h7 : A.tmps[7]?.getD undef = (.pointer (some ⟨w.heap.size, 4, none⟩)) := hdep 7 (by kernel_rfl)
    refine if_yes (by kernel_rfl) ?_
    have c0 := keep_cell hR c0
    have c1 := keep_cell hR c1
    have c2 := keep_cell hR c2
    have c3 := keep_cell hR c3
    have c4 := keep_cell hR c4
    have c5 := keep_cell hR c5
    simp [go_sem, h7, c0, c1, c2, c3, c4, c5, hn2, hn3, hw1, hw2, m1, m2]
    exact hK.out _ _ (Below.refl _ _) rfl
  · intro A wx hR hout hdep K hK
    have h6 : A.tmps[6]?.getD undef = (.int .u32 (xs : Int)) := hdep 6 (by kernel_rfl)
    have h8 : A.tmps[8]?.getD undef = (.int .i64 (n : Int)) := hdep 8 (by kernel_rfl)
    refine if_yes (by kernel_rfl) ?_
    simp [go_sem, h6, h8, hn2, hn3, hw1, hw2, m1, m2]
    exact hK.out _ _ (Below.refl _ _) rfl
  · intro A wx hR hout hdep K hK
    have h1 : A.tmps[1]?.getD undef = (.pointer (some ⟨w.heap.size, 0, none⟩)) := hout 1 (by kernel_rfl)
    refine if_yes (by kernel_rfl) ?_
    simp [go_sem, h1, hn2, hn3, hw1, hw2, m1, m2]
    exact hK.out _ _ (Below.refl _ _) rfl
  · intro A wx hR hout hdep K hK
    have h10 : A.tmps[10]?.getD undef = (.pointer (some ⟨w.heap.size, 5, none⟩)) := hdep 10 (by kernel_rfl)
    refine if_yes (by kernel_rfl) ?_
    have c0 := keep_cell hR c0
    have c1 := keep_cell hR c1
    have c2 := keep_cell hR c2
    have c3 := keep_cell hR c3
    have c4 := keep_cell hR c4
    have c5 := keep_cell hR c5
    simp [go_sem, h10, c0, c1, c2, c3, c4, c5, hn2, hn3, hw1, hw2, m1, m2]
    exact hK.out _ _ (Below.refl _ _) rfl
  · intro A wx hR hout hdep K hK
    have h1 : A.tmps[1]?.getD undef = (.pointer (some ⟨w.heap.size, 0, none⟩)) := hout 1 (by kernel_rfl)
    refine if_yes (by kernel_rfl) ?_
    simp [go_sem, h1, hn2, hn3, hw1, hw2, m1, m2]
    exact hK.out _ _ (Below.refl _ _) rfl
  · intro A wx hR hout hdep K hK
    have h12 : A.tmps[12]?.getD undef = (.pointer (some ⟨w.heap.size, 4, none⟩)) := hdep 12 (by kernel_rfl)
    refine if_yes (by kernel_rfl) ?_
    have c0 := keep_cell hR c0
    have c1 := keep_cell hR c1
    have c2 := keep_cell hR c2
    have c3 := keep_cell hR c3
    have c4 := keep_cell hR c4
    have c5 := keep_cell hR c5
    simp [go_sem, h12, c0, c1, c2, c3, c4, c5, hn2, hn3, hw1, hw2, m1, m2]
    exact hK.out _ _ (Below.refl _ _) rfl
  · intro A wx hR hout hdep K hK
    have h11 : A.tmps[11]?.getD undef = (.int .i64 (r0 : Int)) := hdep 11 (by kernel_rfl)
    have h13 : A.tmps[13]?.getD undef = (.int .i64 (n : Int)) := hdep 13 (by kernel_rfl)
    refine if_yes (by kernel_rfl) ?_
    simp [go_sem, h11, h13, hn2, hn3, hw1, hw2, m1, m2]
    exact hK.out _ _ (Below.refl _ _) rfl
  · intro A wx hR hout hdep K hK
    have h14 : A.tmps[14]?.getD undef = (.int .i64 (r1 : Int)) := hdep 14 (by kernel_rfl)
    refine if_yes (by kernel_rfl) ?_
    simp [go_sem, h14, hn2, hn3, hw1, hw2, m1, m2]
    exact hK.out _ _ (Below.refl _ _) rfl
  · intro A wx hR hout hdep K hK
    have h15 : A.tmps[15]?.getD undef = (.int .i64 (r2 : Int)) := hdep 15 (by kernel_rfl)
    refine if_yes (by kernel_rfl) ?_
    simp [go_sem, h15, hn2, hn3, hw1, hw2, m1, m2]
    refine (K1.out wx).mono ?_
    rintro e wG ⟨rfl, rfl⟩
    exact hK.out _ _ (Below.refl _ _) rfl
  · intro A wx hR hout hdep K hK
    have h1 : A.tmps[1]?.getD undef = (.pointer (some ⟨w.heap.size, 0, none⟩)) := hout 1 (by kernel_rfl)
    refine if_yes (by kernel_rfl) ?_
    simp [go_sem, h1, hn2, hn3, hw1, hw2, m1, m2]
    exact hK.out _ _ (Below.refl _ _) rfl
  · intro A wx hR hout hdep K hK
    have h17 : A.tmps[17]?.getD undef = (.pointer (some ⟨w.heap.size, 4, none⟩)) := hdep 17 (by kernel_rfl)
    refine if_yes (by kernel_rfl) ?_
    have c0 := keep_cell hR c0
    have c1 := keep_cell hR c1
    have c2 := keep_cell hR c2
    have c3 := keep_cell hR c3
    have c4 := keep_cell hR c4
    have c5 := keep_cell hR c5
    simp [go_sem, h17, c0, c1, c2, c3, c4, c5, hn2, hn3, hw1, hw2, m1, m2]
    exact hK.out _ _ (Below.refl _ _) rfl
  · intro A wx hR hout hdep K hK
    have h16 : A.tmps[16]?.getD undef = (.int .u32 (lo : Int)) := hdep 16 (by kernel_rfl)
    have h18 : A.tmps[18]?.getD undef = (.int .i64 (n : Int)) := hdep 18 (by kernel_rfl)
    refine if_yes (by kernel_rfl) ?_
    simp [go_sem, h16, h18, hn2, hn3, hw1, hw2, m1, m2]
    exact hK.out _ _ (Below.refl _ _) rfl
  · intro A wx hR hout hdep K hK
    have h4 : A.tmps[4]?.getD undef = (.int .u32 (xt : Int)) := hdep 4 (by kernel_rfl)
    have h9 : A.tmps[9]?.getD undef = (.int .u32 (p : Int)) := hdep 9 (by kernel_rfl)
    have h19 : A.tmps[19]?.getD undef = (.int .u32 (q : Int)) := hdep 19 (by kernel_rfl)
    refine if_yes (by kernel_rfl) ?_
    simp [go_sem, h4, h9, h19, hn2, hn3, hw1, hw2, m1, m2]
    refine (K2.out wx).mono ?_
    rintro e wG ⟨rfl, hbG⟩
    exact hK.out _ _ hbG rfl
  · intro A wx hR hout hdep K hK
    have h20 : A.tmps[20]?.getD undef = (.int .u32 (o : Int)) := hdep 20 (by kernel_rfl)
    refine if_yes (by kernel_rfl) ?_
    simp [go_sem, h20, hn2, hn3, hw1, hw2, m1, m2]
    exact hK.out _ _ (Below.refl _ _) rfl
  simp only [putSl, Act.put, List.setIfInBounds_toArray, List.set_cons_zero, List.set_cons_succ, show f 2 = (.int .u32 (o : Int)) from hf 2 (by kernel_rfl)]
  have HBE : Hid (Below w.heap.size w wy) := below_tr HB.out hR
  go_wp2
  go_ret
  exact ⟨by rw [HR.out]; rfl, HBE.out⟩
end Go.Proofs.YtogokbefpgaciaaDoor
