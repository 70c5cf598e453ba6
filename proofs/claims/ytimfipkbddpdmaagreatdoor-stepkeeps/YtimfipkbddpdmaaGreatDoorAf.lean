import Derived.Test.YtimfipkbddpdmaaGreatDoorVals
import Derived.Test.YtimfipkbddpdmaaGreatDoorAd
set_option linter.unusedVariables false
set_option linter.unusedSimpArgs false
set_option maxRecDepth 100000
open Go Go.RowKit
namespace Go.Proofs.YtimfipkbddpdmaaGreatDoor
set_option maxHeartbeats 1000000 in
theorem w_add (x : Tk) (hx : x.Ok) (w : World) : Calls Tryz.prog 153 #[x.val] w fun e w' => Told (workN 0 x) e /\ Below w.heap.size w w' := by
 obtain ⟨W, hW, hb, hz, c0, c1, c2, c3, c4, c5⟩ := box6 w (.int .u32 x.s) (.int .u32 x.t) (.int .u32 x.imm) (.int .u32 x.simm) (.int .i64 x.sa) (.int .i64 x.rd) 192
 have HB : Hid (Below w.heap.size w W) := hb
 obtain ⟨xs, xt, xi, xm, sa, rd⟩ := x
 simp only [Tk.val] at hx c0 c1 c2 c3 c4 c5 hW |-
 have l1 := sg_lo xs hx.s
 have l2 := sg_lo xt hx.t
 try simp only at l1 l2
 have h1 := hx.s
 have h2 := hx.t
 try simp only at h1 h2
 obtain ⟨r, hr⟩ : ∃ r, r = workN 0 ⟨xs, xt, xi, xm, sa, rd⟩ := ⟨_, rfl⟩
 rw [<- hr]
 have HR : Hid (r = chk (sg xs + sg xt)) := hr
 have hadd : IntKind.i64.wrap (sg xs + sg xt) = sg xs + sg xt := by rw [IntKind.wrap_i64]; omega
 have K1 : Hid (∀ wx, Calls Tryz.prog 105 #[.int .u32 xs] wx fun e w' => e = .returned (.int .i64 (sg xs)) /\ w' = wx) := fun wx => signed26 _ h1 wx
 have K2 : Hid (∀ wx, Calls Tryz.prog 105 #[.int .u32 xt] wx fun e w' => e = .returned (.int .i64 (sg xt)) /\ w' = wx) := fun wx => signed26 _ h2 wx
 generalize sg xs = p at l1 hadd HR K1
 generalize sg xt = q at l2 hadd HR K2
 clear hr hx hz h1 h2 l1 l2 hb
 go_enter Tryz.func153, Tryz.ntmps153
 go_wp2
 refine wp_region_vals [.pointer (some ⟨w.heap.size, 0, none⟩), .int .u32 xs, .int .i64 p, .pointer (some ⟨w.heap.size, 1, none⟩), .int .u32 xt, .int .i64 q, .int .i64 (p + q)] _ 7 (by kernel_rfl) rfl (by kernel_rfl) (by decide) (by kernel_rfl) (by kernel_rfl) (fun C hC => ?_)
 simp only [putVs, List.take_succ_cons, List.take_zero, Act.put, List.setIfInBounds_toArray, List.set_cons_zero, List.set_cons_succ] at hC
 subst hC
 refine ⟨?_, fun wy hR => ?_⟩
 ·repeat' refine And.intro ?_ ?_
  all_goals first | exact True.intro | intro wx hR
  all_goals try (refine yes ?_; have c0 := keep_cell hR c0; have c1 := keep_cell hR c1; have c2 := keep_cell hR c2; have c3 := keep_cell hR c3; have c4 := keep_cell hR c4; have c5 := keep_cell hR c5; simp [go_sem, hadd, c0, c1, c2, c3, c4, c5]; exact lands)
  ·refine yes ?_
   simp [go_sem, hadd]
   refine (K1.out wx).mono ?_
   rintro e wG ⟨rfl, rfl⟩
   exact lands
  ·refine yes ?_
   simp [go_sem, hadd]
   refine (K2.out wx).mono ?_
   rintro e wG ⟨rfl, rfl⟩
   exact lands
 have HBE : Hid (Below w.heap.size w wy) := below_tr HB.out hR
 refine ready1 7 fun K7 hK7 => yes ?_
 by_cases hc : -2147483648 <= p + q /\ p + q <= 2147483647
 ·have HRR : Hid (r = some (outN (p + q))) := by show _ = _; rw [HR.out, chk, if_pos hc]
  simp [go_sem]
  refine (checked42_ok _ hc wy).mono ?_
  rintro e wG ⟨rfl, rfl⟩
  refine hK7 _ _ ?_
  refine ready1 8 fun K8 hK8 => yes ?_
  simp [go_sem]
  refine hK8 _ _ ?_
  refine wpAny_done (by kernel_rfl) ?_ _
  go_wp2
  go_ret
  exact ⟨by rw [HRR.out]; rfl, HBE.out⟩
 ·have HRR : Hid (r = none) := by show _ = _; rw [HR.out, chk, if_neg hc]
  simp [go_sem]
  refine (checked42_no _ hc wy).mono ?_
  rintro e wG ⟨rfl, rfl⟩
  go_wp2_with fail
  exact ⟨rfl, by rw [HRR.out]; exact ⟨_, rfl⟩, HBE.out⟩
set_option maxHeartbeats 1000000 in
theorem w_sub (x : Tk) (hx : x.Ok) (w : World) : Calls Tryz.prog 155 #[x.val] w fun e w' => Told (workN 1 x) e /\ Below w.heap.size w w' := by
 obtain ⟨W, hW, hb, hz, c0, c1, c2, c3, c4, c5⟩ := box6 w (.int .u32 x.s) (.int .u32 x.t) (.int .u32 x.imm) (.int .u32 x.simm) (.int .i64 x.sa) (.int .i64 x.rd) 192
 have HB : Hid (Below w.heap.size w W) := hb
 obtain ⟨xs, xt, xi, xm, sa, rd⟩ := x
 simp only [Tk.val] at hx c0 c1 c2 c3 c4 c5 hW |-
 have l1 := sg_lo xs hx.s
 have l2 := sg_lo xt hx.t
 try simp only at l1 l2
 have h1 := hx.s
 have h2 := hx.t
 try simp only at h1 h2
 obtain ⟨r, hr⟩ : ∃ r, r = workN 1 ⟨xs, xt, xi, xm, sa, rd⟩ := ⟨_, rfl⟩
 rw [<- hr]
 have HR : Hid (r = chk (sg xs - sg xt)) := hr
 have hadd : IntKind.i64.wrap (sg xs - sg xt) = sg xs - sg xt := by rw [IntKind.wrap_i64]; omega
 have K1 : Hid (∀ wx, Calls Tryz.prog 105 #[.int .u32 xs] wx fun e w' => e = .returned (.int .i64 (sg xs)) /\ w' = wx) := fun wx => signed26 _ h1 wx
 have K2 : Hid (∀ wx, Calls Tryz.prog 105 #[.int .u32 xt] wx fun e w' => e = .returned (.int .i64 (sg xt)) /\ w' = wx) := fun wx => signed26 _ h2 wx
 generalize sg xs = p at l1 hadd HR K1
 generalize sg xt = q at l2 hadd HR K2
 clear hr hx hz h1 h2 l1 l2 hb
 go_enter Tryz.func155, Tryz.ntmps155
 go_wp2
 refine wp_region_vals [.pointer (some ⟨w.heap.size, 0, none⟩), .int .u32 xs, .int .i64 p, .pointer (some ⟨w.heap.size, 1, none⟩), .int .u32 xt, .int .i64 q, .int .i64 (p - q)] _ 7 (by kernel_rfl) rfl (by kernel_rfl) (by decide) (by kernel_rfl) (by kernel_rfl) (fun C hC => ?_)
 simp only [putVs, List.take_succ_cons, List.take_zero, Act.put, List.setIfInBounds_toArray, List.set_cons_zero, List.set_cons_succ] at hC
 subst hC
 refine ⟨?_, fun wy hR => ?_⟩
 ·repeat' refine And.intro ?_ ?_
  all_goals first | exact True.intro | intro wx hR
  all_goals try (refine yes ?_; have c0 := keep_cell hR c0; have c1 := keep_cell hR c1; have c2 := keep_cell hR c2; have c3 := keep_cell hR c3; have c4 := keep_cell hR c4; have c5 := keep_cell hR c5; simp [go_sem, hadd, c0, c1, c2, c3, c4, c5]; exact lands)
  ·refine yes ?_
   simp [go_sem, hadd]
   refine (K1.out wx).mono ?_
   rintro e wG ⟨rfl, rfl⟩
   exact lands
  ·refine yes ?_
   simp [go_sem, hadd]
   refine (K2.out wx).mono ?_
   rintro e wG ⟨rfl, rfl⟩
   exact lands
 have HBE : Hid (Below w.heap.size w wy) := below_tr HB.out hR
 refine ready1 7 fun K7 hK7 => yes ?_
 by_cases hc : -2147483648 <= p - q /\ p - q <= 2147483647
 ·have HRR : Hid (r = some (outN (p - q))) := by show _ = _; rw [HR.out, chk, if_pos hc]
  simp [go_sem]
  refine (checked42_ok _ hc wy).mono ?_
  rintro e wG ⟨rfl, rfl⟩
  refine hK7 _ _ ?_
  refine ready1 8 fun K8 hK8 => yes ?_
  simp [go_sem]
  refine hK8 _ _ ?_
  refine wpAny_done (by kernel_rfl) ?_ _
  go_wp2
  go_ret
  exact ⟨by rw [HRR.out]; rfl, HBE.out⟩
 ·have HRR : Hid (r = none) := by show _ = _; rw [HR.out, chk, if_neg hc]
  simp [go_sem]
  refine (checked42_no _ hc wy).mono ?_
  rintro e wG ⟨rfl, rfl⟩
  go_wp2_with fail
  exact ⟨rfl, by rw [HRR.out]; exact ⟨_, rfl⟩, HBE.out⟩
set_option maxHeartbeats 1000000 in
theorem w_addi (x : Tk) (hx : x.Ok) (w : World) : Calls Tryz.prog 156 #[x.val] w fun e w' => Told (workN 2 x) e /\ Below w.heap.size w w' := by
 obtain ⟨W, hW, hb, hz, c0, c1, c2, c3, c4, c5⟩ := box6 w (.int .u32 x.s) (.int .u32 x.t) (.int .u32 x.imm) (.int .u32 x.simm) (.int .i64 x.sa) (.int .i64 x.rd) 192
 have HB : Hid (Below w.heap.size w W) := hb
 obtain ⟨xs, xt, xi, xm, sa, rd⟩ := x
 simp only [Tk.val] at hx c0 c1 c2 c3 c4 c5 hW |-
 have l1 := sg_lo xs hx.s
 have l2 := sg_lo xm hx.simm
 try simp only at l1 l2
 have h1 := hx.s
 have h2 := hx.simm
 try simp only at h1 h2
 obtain ⟨r, hr⟩ : ∃ r, r = workN 2 ⟨xs, xt, xi, xm, sa, rd⟩ := ⟨_, rfl⟩
 rw [<- hr]
 have HR : Hid (r = chk (sg xs + sg xm)) := hr
 have hadd : IntKind.i64.wrap (sg xs + sg xm) = sg xs + sg xm := by rw [IntKind.wrap_i64]; omega
 have K1 : Hid (∀ wx, Calls Tryz.prog 105 #[.int .u32 xs] wx fun e w' => e = .returned (.int .i64 (sg xs)) /\ w' = wx) := fun wx => signed26 _ h1 wx
 have K2 : Hid (∀ wx, Calls Tryz.prog 105 #[.int .u32 xm] wx fun e w' => e = .returned (.int .i64 (sg xm)) /\ w' = wx) := fun wx => signed26 _ h2 wx
 generalize sg xs = p at l1 hadd HR K1
 generalize sg xm = q at l2 hadd HR K2
 clear hr hx hz h1 h2 l1 l2 hb
 go_enter Tryz.func156, Tryz.ntmps156
 go_wp2
 refine wp_region_vals [.pointer (some ⟨w.heap.size, 0, none⟩), .int .u32 xs, .int .i64 p, .pointer (some ⟨w.heap.size, 3, none⟩), .int .u32 xm, .int .i64 q, .int .i64 (p + q)] _ 7 (by kernel_rfl) rfl (by kernel_rfl) (by decide) (by kernel_rfl) (by kernel_rfl) (fun C hC => ?_)
 simp only [putVs, List.take_succ_cons, List.take_zero, Act.put, List.setIfInBounds_toArray, List.set_cons_zero, List.set_cons_succ] at hC
 subst hC
 refine ⟨?_, fun wy hR => ?_⟩
 ·repeat' refine And.intro ?_ ?_
  all_goals first | exact True.intro | intro wx hR
  all_goals try (refine yes ?_; have c0 := keep_cell hR c0; have c1 := keep_cell hR c1; have c2 := keep_cell hR c2; have c3 := keep_cell hR c3; have c4 := keep_cell hR c4; have c5 := keep_cell hR c5; simp [go_sem, hadd, c0, c1, c2, c3, c4, c5]; exact lands)
  ·refine yes ?_
   simp [go_sem, hadd]
   refine (K1.out wx).mono ?_
   rintro e wG ⟨rfl, rfl⟩
   exact lands
  ·refine yes ?_
   simp [go_sem, hadd]
   refine (K2.out wx).mono ?_
   rintro e wG ⟨rfl, rfl⟩
   exact lands
 have HBE : Hid (Below w.heap.size w wy) := below_tr HB.out hR
 refine ready1 7 fun K7 hK7 => yes ?_
 by_cases hc : -2147483648 <= p + q /\ p + q <= 2147483647
 ·have HRR : Hid (r = some (outN (p + q))) := by show _ = _; rw [HR.out, chk, if_pos hc]
  simp [go_sem]
  refine (checked42_ok _ hc wy).mono ?_
  rintro e wG ⟨rfl, rfl⟩
  refine hK7 _ _ ?_
  refine ready1 8 fun K8 hK8 => yes ?_
  simp [go_sem]
  refine hK8 _ _ ?_
  refine wpAny_done (by kernel_rfl) ?_ _
  go_wp2
  go_ret
  exact ⟨by rw [HRR.out]; rfl, HBE.out⟩
 ·have HRR : Hid (r = none) := by show _ = _; rw [HR.out, chk, if_neg hc]
  simp [go_sem]
  refine (checked42_no _ hc wy).mono ?_
  rintro e wG ⟨rfl, rfl⟩
  go_wp2_with fail
  exact ⟨rfl, by rw [HRR.out]; exact ⟨_, rfl⟩, HBE.out⟩
set_option maxHeartbeats 1000000 in
theorem w_slt (x : Tk) (hx : x.Ok) (w : World) : Calls Tryz.prog 167 #[x.val] w fun e w' => Told (workN 13 x) e /\ Below w.heap.size w w' := by
 obtain ⟨W, hW, hb, hz, c0, c1, c2, c3, c4, c5⟩ := box6 w (.int .u32 x.s) (.int .u32 x.t) (.int .u32 x.imm) (.int .u32 x.simm) (.int .i64 x.sa) (.int .i64 x.rd) 192
 have HB : Hid (Below w.heap.size w W) := hb
 obtain ⟨xs, xt, xi, xm, sa, rd⟩ := x
 simp only [Tk.val] at hx c0 c1 c2 c3 c4 c5 hW |-
 have h1 := hx.s
 have h2 := hx.t
 try simp only at h1 h2
 obtain ⟨r, hr⟩ : ∃ r, r = workN 13 ⟨xs, xt, xi, xm, sa, rd⟩ := ⟨_, rfl⟩
 rw [<- hr]
 have HR : Hid (r = some (bitN (decide (sg xs < sg xt)))) := hr
 have K1 : Hid (∀ wx, Calls Tryz.prog 105 #[.int .u32 xs] wx fun e w' => e = .returned (.int .i64 (sg xs)) /\ w' = wx) := fun wx => signed26 _ h1 wx
 have K2 : Hid (∀ wx, Calls Tryz.prog 105 #[.int .u32 xt] wx fun e w' => e = .returned (.int .i64 (sg xt)) /\ w' = wx) := fun wx => signed26 _ h2 wx
 generalize sg xs = p at HR K1
 generalize sg xt = q at HR K2
 clear hr hx hz h1 h2 hb
 go_enter Tryz.func167, Tryz.ntmps167
 go_wp2
 refine wp_region_valsA [.pointer (some ⟨w.heap.size, 0, none⟩), .int .u32 xs, .int .i64 p, .pointer (some ⟨w.heap.size, 1, none⟩), .int .u32 xt, .int .i64 q, .bool (decide (p < q)), .int .u32 (bitN (decide (p < q)) : Int), .int .u32 (bitN (decide (p < q)) : Int)] _ (by kernel_rfl) rfl (by kernel_rfl) (by kernel_rfl) (by kernel_rfl) (fun C hC => ?_)
 simp only [putVs, List.take_succ_cons, List.take_zero, Act.put, List.setIfInBounds_toArray, List.set_cons_zero, List.set_cons_succ] at hC
 subst hC
 refine ⟨?_, fun wy hR => ?_⟩
 ·repeat' refine And.intro ?_ ?_
  all_goals first | exact True.intro | intro wx hR
  all_goals try (refine yes ?_; have c0 := keep_cell hR c0; have c1 := keep_cell hR c1; have c2 := keep_cell hR c2; have c3 := keep_cell hR c3; have c4 := keep_cell hR c4; have c5 := keep_cell hR c5; simp [go_sem, c0, c1, c2, c3, c4, c5]; exact lands)
  ·refine yes ?_
   simp [go_sem]
   refine (K1.out wx).mono ?_
   rintro e wG ⟨rfl, rfl⟩
   exact lands
  ·refine yes ?_
   simp [go_sem]
   refine (K2.out wx).mono ?_
   rintro e wG ⟨rfl, rfl⟩
   exact lands
  ·refine yes ?_
   simp [go_sem]
   refine (truth56 _ wx).mono ?_
   rintro e wG ⟨rfl, rfl⟩
   exact lands
 have HBE : Hid (Below w.heap.size w wy) := below_tr HB.out hR
 go_wp2
 go_ret
 exact ⟨by rw [HR.out]; rfl, HBE.out⟩
set_option maxHeartbeats 1000000 in
theorem w_slti (x : Tk) (hx : x.Ok) (w : World) : Calls Tryz.prog 170 #[x.val] w fun e w' => Told (workN 15 x) e /\ Below w.heap.size w w' := by
 obtain ⟨W, hW, hb, hz, c0, c1, c2, c3, c4, c5⟩ := box6 w (.int .u32 x.s) (.int .u32 x.t) (.int .u32 x.imm) (.int .u32 x.simm) (.int .i64 x.sa) (.int .i64 x.rd) 192
 have HB : Hid (Below w.heap.size w W) := hb
 obtain ⟨xs, xt, xi, xm, sa, rd⟩ := x
 simp only [Tk.val] at hx c0 c1 c2 c3 c4 c5 hW |-
 have h1 := hx.s
 have h2 := hx.simm
 try simp only at h1 h2
 obtain ⟨r, hr⟩ : ∃ r, r = workN 15 ⟨xs, xt, xi, xm, sa, rd⟩ := ⟨_, rfl⟩
 rw [<- hr]
 have HR : Hid (r = some (bitN (decide (sg xs < sg xm)))) := hr
 have K1 : Hid (∀ wx, Calls Tryz.prog 105 #[.int .u32 xs] wx fun e w' => e = .returned (.int .i64 (sg xs)) /\ w' = wx) := fun wx => signed26 _ h1 wx
 have K2 : Hid (∀ wx, Calls Tryz.prog 105 #[.int .u32 xm] wx fun e w' => e = .returned (.int .i64 (sg xm)) /\ w' = wx) := fun wx => signed26 _ h2 wx
 generalize sg xs = p at HR K1
 generalize sg xm = q at HR K2
 clear hr hx hz h1 h2 hb
 go_enter Tryz.func170, Tryz.ntmps170
 go_wp2
 refine wp_region_valsA [.pointer (some ⟨w.heap.size, 0, none⟩), .int .u32 xs, .int .i64 p, .pointer (some ⟨w.heap.size, 3, none⟩), .int .u32 xm, .int .i64 q, .bool (decide (p < q)), .int .u32 (bitN (decide (p < q)) : Int), .int .u32 (bitN (decide (p < q)) : Int)] _ (by kernel_rfl) rfl (by kernel_rfl) (by kernel_rfl) (by kernel_rfl) (fun C hC => ?_)
 simp only [putVs, List.take_succ_cons, List.take_zero, Act.put, List.setIfInBounds_toArray, List.set_cons_zero, List.set_cons_succ] at hC
 subst hC
 refine ⟨?_, fun wy hR => ?_⟩
 ·repeat' refine And.intro ?_ ?_
  all_goals first | exact True.intro | intro wx hR
  all_goals try (refine yes ?_; have c0 := keep_cell hR c0; have c1 := keep_cell hR c1; have c2 := keep_cell hR c2; have c3 := keep_cell hR c3; have c4 := keep_cell hR c4; have c5 := keep_cell hR c5; simp [go_sem, c0, c1, c2, c3, c4, c5]; exact lands)
  ·refine yes ?_
   simp [go_sem]
   refine (K1.out wx).mono ?_
   rintro e wG ⟨rfl, rfl⟩
   exact lands
  ·refine yes ?_
   simp [go_sem]
   refine (K2.out wx).mono ?_
   rintro e wG ⟨rfl, rfl⟩
   exact lands
  ·refine yes ?_
   simp [go_sem]
   refine (truth56 _ wx).mono ?_
   rintro e wG ⟨rfl, rfl⟩
   exact lands
 have HBE : Hid (Below w.heap.size w wy) := below_tr HB.out hR
 go_wp2
 go_ret
 exact ⟨by rw [HR.out]; rfl, HBE.out⟩
theorem wrap_div (p : Int) (n : Nat) (h1 : -2147483648 <= p) (h2 : p < 2147483648) : wrap64 (p / 2 ^ n) = p / 2 ^ n := by
 have hp : (0 : Int) < 2 ^ n := Int.pow_pos (by decide)
 have a : -2147483648 <= p / 2 ^ n := by
  rw [Int.le_ediv_iff_mul_le hp]
  have : (1 : Int) <= 2 ^ n := hp
  generalize (2 : Int) ^ n = z at this
  omega
 have b : p / 2 ^ n <= 2147483647 := by
  have : (1 : Int) <= 2 ^ n := hp
  by_cases h : 0 <= p
  ·exact Int.le_trans (Int.ediv_le_self _ h) (by omega)
  ·have h3 : p / 2 ^ n < 0 := Int.ediv_neg_of_neg_of_pos (by omega) hp
   omega
 unfold wrap64; omega
set_option maxHeartbeats 1000000 in
theorem w_sra (x : Tk) (hx : x.Ok) (h0 : 0 <= x.sa /\ x.sa < 32) (w : World) : Calls Tryz.prog 175 #[x.val] w fun e w' => Told (workN 20 x) e /\ Below w.heap.size w w' := by
 obtain ⟨W, hW, hb, hz, c0, c1, c2, c3, c4, c5⟩ := box6 w (.int .u32 x.s) (.int .u32 x.t) (.int .u32 x.imm) (.int .u32 x.simm) (.int .i64 x.sa) (.int .i64 x.rd) 192
 have HB : Hid (Below w.heap.size w W) := hb
 obtain ⟨xs, xt, xi, xm, sa, rd⟩ := x
 simp only [Tk.val] at hx c0 c1 c2 c3 c4 c5 hW |-
 have h1 := hx.t
 try simp only at h1
 obtain ⟨g1, g2⟩ := h0
 try simp only at g1 g2
 obtain ⟨n, rfl⟩ := Int.eq_ofNat_of_zero_le g1
 have hn : n < 32 := by omega
 have hn2 : min n 64 = n := by omega
 have hn3 : ¬ ((n : Int) < 0) := by omega
 obtain ⟨r, hr⟩ : ∃ r, r = workN 20 ⟨xs, xt, xi, xm, (n : Int), rd⟩ := ⟨_, rfl⟩
 rw [<- hr]
 have HR : Hid (r = some (outN (sg xt / 2 ^ n))) := by show _ = _; rw [hr]; rfl
 have K1 : Hid (∀ wx, Calls Tryz.prog 105 #[.int .u32 xt] wx fun e w' => e = .returned (.int .i64 (sg xt)) /\ w' = wx) := fun wx => signed26 _ h1 wx
 have lo := sg_lo xt h1
 have hdv : wrap64 (sg xt / 2 ^ n) = sg xt / 2 ^ n := wrap_div _ n lo.1 lo.2
 generalize sg xt = p at HR K1 hdv
 have hou : IntKind.u32.wrap (p / 2 ^ n) = ((outN (p / 2 ^ n) : Nat) : Int) := by rw [IntKind.wrap_u32]; exact (outN_is _).symm
 generalize outN (p / 2 ^ n) = o at HR hou
 clear hr hx hz h1 hb lo
 go_enter Tryz.func175, Tryz.ntmps175
 go_wp2
 refine wp_region_valsA [.pointer (some ⟨w.heap.size, 1, none⟩), .int .u32 xt, .int .i64 p, .pointer (some ⟨w.heap.size, 4, none⟩), .int .i64 n, .int .i64 (p / 2 ^ n), .int .u32 o, .int .u32 o] _ (by kernel_rfl) rfl (by kernel_rfl) (by kernel_rfl) (by kernel_rfl) (fun C hC => ?_)
 simp only [putVs, List.take_succ_cons, List.take_zero, Act.put, List.setIfInBounds_toArray, List.set_cons_zero, List.set_cons_succ] at hC
 subst hC
 refine ⟨?_, fun wy hR => ?_⟩
 ·repeat' refine And.intro ?_ ?_
  all_goals first | exact True.intro | intro wx hR
  all_goals try (refine yes ?_; have c0 := keep_cell hR c0; have c1 := keep_cell hR c1; have c2 := keep_cell hR c2; have c3 := keep_cell hR c3; have c4 := keep_cell hR c4; have c5 := keep_cell hR c5; simp [go_sem, hn2, hn3, hdv, hou, c0, c1, c2, c3, c4, c5]; exact lands)
  ·refine yes ?_
   simp [go_sem, hn2, hn3, hdv, hou]
   refine (K1.out wx).mono ?_
   rintro e wG ⟨rfl, rfl⟩
   exact lands
 have HBE : Hid (Below w.heap.size w wy) := below_tr HB.out hR
 go_wp2
 go_ret
 exact ⟨by rw [HR.out]; rfl, HBE.out⟩
set_option maxHeartbeats 1000000 in
theorem w_srav (x : Tk) (hx : x.Ok) (w : World) : Calls Tryz.prog 178 #[x.val] w fun e w' => Told (workN 23 x) e /\ Below w.heap.size w w' := by
 obtain ⟨W, hW, hb, hz, c0, c1, c2, c3, c4, c5⟩ := box6 w (.int .u32 x.s) (.int .u32 x.t) (.int .u32 x.imm) (.int .u32 x.simm) (.int .i64 x.sa) (.int .i64 x.rd) 192
 have HB : Hid (Below w.heap.size w W) := hb
 obtain ⟨xs, xt, xi, xm, sa, rd⟩ := x
 simp only [Tk.val] at hx c0 c1 c2 c3 c4 c5 hW |-
 have h1 := hx.t
 try simp only at h1
 have hm : (xs : Int).tmod 32 = ((xs % 32 : Nat) : Int) := by rw [Int.tmod_eq_emod_of_nonneg (by omega)]; omega
 obtain ⟨n, en⟩ : ∃ n, n = xs % 32 := ⟨_, rfl⟩
 have hn : n < 32 := by omega
 have hn2 : min n 64 = n := by omega
 have hn3 : ¬ ((n : Int) < 0) := by omega
 obtain ⟨r, hr⟩ : ∃ r, r = workN 23 ⟨xs, xt, xi, xm, sa, rd⟩ := ⟨_, rfl⟩
 rw [<- hr]
 have HR : Hid (r = some (outN (sg xt / 2 ^ n))) := by show _ = _; rw [hr]; rw [en]; rfl
 rw [<- en] at hm
 clear en
 have K1 : Hid (∀ wx, Calls Tryz.prog 105 #[.int .u32 xt] wx fun e w' => e = .returned (.int .i64 (sg xt)) /\ w' = wx) := fun wx => signed26 _ h1 wx
 have lo := sg_lo xt h1
 have hdv : wrap64 (sg xt / 2 ^ n) = sg xt / 2 ^ n := wrap_div _ n lo.1 lo.2
 generalize sg xt = p at HR K1 hdv
 have hou : IntKind.u32.wrap (p / 2 ^ n) = ((outN (p / 2 ^ n) : Nat) : Int) := by rw [IntKind.wrap_u32]; exact (outN_is _).symm
 generalize outN (p / 2 ^ n) = o at HR hou
 clear hr hx hz h1 hb lo
 go_enter Tryz.func178, Tryz.ntmps178
 go_wp2
 refine wp_region_valsA [.pointer (some ⟨w.heap.size, 1, none⟩), .int .u32 xt, .int .i64 p, .pointer (some ⟨w.heap.size, 0, none⟩), .int .u32 xs, .int .u32 n, .int .i64 (p / 2 ^ n), .int .u32 o, .int .u32 o] _ (by kernel_rfl) rfl (by kernel_rfl) (by kernel_rfl) (by kernel_rfl) (fun C hC => ?_)
 simp only [putVs, List.take_succ_cons, List.take_zero, Act.put, List.setIfInBounds_toArray, List.set_cons_zero, List.set_cons_succ] at hC
 subst hC
 refine ⟨?_, fun wy hR => ?_⟩
 ·repeat' refine And.intro ?_ ?_
  all_goals first | exact True.intro | intro wx hR
  all_goals try (refine yes ?_; have c0 := keep_cell hR c0; have c1 := keep_cell hR c1; have c2 := keep_cell hR c2; have c3 := keep_cell hR c3; have c4 := keep_cell hR c4; have c5 := keep_cell hR c5; simp [go_sem, hn2, hn3, hdv, hou, hm, c0, c1, c2, c3, c4, c5]; exact lands)
  ·refine yes ?_
   simp [go_sem, hn2, hn3, hdv, hou, hm]
   refine (K1.out wx).mono ?_
   rintro e wG ⟨rfl, rfl⟩
   exact lands
 have HBE : Hid (Below w.heap.size w wy) := below_tr HB.out hR
 go_wp2
 go_ret
 exact ⟨by rw [HR.out]; rfl, HBE.out⟩
theorem low_lt (n : Nat) (hn : n <= 32) : lowN n < 4294967296 := by
 have := Nat.pow_le_pow_right (show 2 > 0 by decide) hn
 have h1 : 0 < 2 ^ n := Nat.pow_pos (by decide)
 unfold lowN; omega
theorem andNot_u32 (a m : Nat) (ha : a < 4294967296) (hm : m < 4294967296) : bits .andNot .u32 (a : Int) (m : Int) = ((a &&& (4294967295 - m) : Nat) : Int) := by
 have h : a &&& (4294967295 - m) < 4294967296 := Nat.lt_of_le_of_lt Nat.and_le_left ha
 show IntKind.u32.wrap (((BitVec.ofInt 32 (a : Int) &&& ~~~ BitVec.ofInt 32 (m : Int)).toNat : Nat) : Int) = _
 rw [BitVec.toNat_and, BitVec.toNat_not, BitVec.toNat_ofInt, BitVec.toNat_ofInt, IntKind.wrap_u32]
 have ea : ((a : Int) % ((2 ^ 32 : Nat) : Int)).toNat = a := by omega
 have eb : ((m : Int) % ((2 ^ 32 : Nat) : Int)).toNat = m := by omega
 rw [ea, eb, show 2 ^ 32 - 1 - m = 4294967295 - m from rfl]
 omega
set_option maxHeartbeats 1000000 in
theorem inserted77 (a b m : Nat) (ha : a < 4294967296) (hb : b < 4294967296) (hm : m < 4294967296) (w : World) : Calls Tryz.prog 189 #[.int .u32 a, .int .u32 b, .int .u32 m] w fun e w' => e = .returned (.int .u32 (insM a b m : Int)) /\ Below w.heap.size w w' := by
 have l1 : a &&& (4294967295 - m) < 4294967296 := Nat.lt_of_le_of_lt Nat.and_le_left ha
 have l2 : b &&& m < 4294967296 := Nat.lt_of_le_of_lt Nat.and_le_left hb
 have h1 := and_u32 b m hb hm
 have h2 := andNot_u32 a m ha hm
 have h3 : Hid (bits .or .u32 ((a &&& (4294967295 - m) : Nat) : Int) ((b &&& m : Nat) : Int) = ((insM a b m : Nat) : Int)) := or_u32 _ _ l1 l2
 generalize insM a b m = z at h3 |-
 go_enter Tryz.func189, Tryz.ntmps189
 go_wp2
 go_ret
 exact ⟨ret_u32 h3.out, Below.refl _ _⟩
set_option maxHeartbeats 1000000 in
theorem w_ext (x : Tk) (hx : x.Ok) (h0 : 0 <= x.sa /\ x.sa < 32 /\ 0 <= x.rd /\ x.rd < 32) (w : World) : Calls Tryz.prog 186 #[x.val] w fun e w' => Told (workN 29 x) e /\ Below w.heap.size w w' := by
 obtain ⟨W, hW, hb, hz, c0, c1, c2, c3, c4, c5⟩ := box6 w (.int .u32 x.s) (.int .u32 x.t) (.int .u32 x.imm) (.int .u32 x.simm) (.int .i64 x.sa) (.int .i64 x.rd) 192
 have HB : Hid (Below w.heap.size w W) := hb
 obtain ⟨xs, xt, xi, xm, sa, rd⟩ := x
 simp only [Tk.val] at hx c0 c1 c2 c3 c4 c5 hW |-
 obtain ⟨g1, g2, g3, g4⟩ := h0
 try simp only at g1 g2 g3 g4
 obtain ⟨n, rfl⟩ := Int.eq_ofNat_of_zero_le g1
 obtain ⟨r0, rfl⟩ := Int.eq_ofNat_of_zero_le g3
 have hn : n < 32 := by omega
 have hn2 : min n 64 = n := by omega
 have hn3 : ¬ ((n : Int) < 0) := by omega
 have h1 := hx.s
 try simp only at h1
 have hr1 : r0 + 1 <= 32 := by omega
 have hw : IntKind.i64.wrap ((r0 : Int) + 1) = ((r0 + 1 : Nat) : Int) := by rw [IntKind.wrap_i64]; omega
 obtain ⟨r, hr⟩ : ∃ r, r = workN 29 ⟨xs, xt, xi, xm, (n : Int), (r0 : Int)⟩ := ⟨_, rfl⟩
 rw [<- hr]
 have HR : Hid (r = some (xs / 2 ^ n &&& lowN (r0 + 1))) := hr
 have K1 : Hid (∀ wx, Calls Tryz.prog 187 #[.int .i64 ((r0 + 1 : Nat) : Int)] wx fun e w' => e = .returned (.int .u32 (lowN (r0 + 1) : Int)) /\ w' = wx) := fun wx => lowest75 _ hr1 wx
 have hlow := low_lt (r0 + 1) hr1
 have hdl : xs / 2 ^ n < 4294967296 := Nat.lt_of_le_of_lt (Nat.div_le_self _ _) h1
 have hdiv : (xs : Int) / 2 ^ n = ((xs / 2 ^ n : Nat) : Int) := by simp
 have hand := and_u32 _ _ hdl hlow
 generalize lowN (r0 + 1) = lo at HR K1 hand
 generalize xs / 2 ^ n = dv at HR hdiv hand
 generalize dv &&& lo = o at HR hand
 obtain ⟨r1, hr1'⟩ : ∃ r1, r1 = r0 + 1 := ⟨_, rfl⟩
 rw [<- hr1'] at hw K1
 clear hr hx hz h1 hb hlow hdl hr1 hr1'
 go_enter Tryz.func186, Tryz.ntmps186
 go_wp2
 refine wp_region_valsA [.pointer (some ⟨w.heap.size, 0, none⟩), .int .u32 xs, .pointer (some ⟨w.heap.size, 4, none⟩), .int .i64 n, .int .u32 dv, .pointer (some ⟨w.heap.size, 5, none⟩), .int .i64 r0, .int .i64 r1, .int .u32 lo, .int .u32 o, .int .u32 o] _ (by kernel_rfl) rfl (by kernel_rfl) (by kernel_rfl) (by kernel_rfl) (fun C hC => ?_)
 simp only [putVs, List.take_succ_cons, List.take_zero, Act.put, List.setIfInBounds_toArray, List.set_cons_zero, List.set_cons_succ] at hC
 subst hC
 refine ⟨?_, fun wy hR => ?_⟩
 ·repeat' refine And.intro ?_ ?_
  all_goals first | exact True.intro | intro wx hR
  all_goals try (refine yes ?_; have c0 := keep_cell hR c0; have c1 := keep_cell hR c1; have c2 := keep_cell hR c2; have c3 := keep_cell hR c3; have c4 := keep_cell hR c4; have c5 := keep_cell hR c5; simp [go_sem, hn2, hn3, hdiv, hw, hand, c0, c1, c2, c3, c4, c5]; exact lands)
  ·refine yes ?_
   simp [go_sem, hn2, hn3, hdiv, hw, hand]
   refine (K1.out wx).mono ?_
   rintro e wG ⟨rfl, rfl⟩
   exact lands
 have HBE : Hid (Below w.heap.size w wy) := below_tr HB.out hR
 go_wp2
 go_ret
 exact ⟨by rw [HR.out]; rfl, HBE.out⟩
set_option maxHeartbeats 1000000 in
theorem w_ins (x : Tk) (hx : x.Ok) (h0 : 0 <= x.sa /\ x.sa < 32 /\ 0 <= x.rd /\ x.rd < 32) (h1 : x.sa <= x.rd) (w : World) : Calls Tryz.prog 188 #[x.val] w fun e w' => Told (workN 30 x) e /\ Below w.heap.size w w' := by
 obtain ⟨W, hW, hb, hz, c0, c1, c2, c3, c4, c5⟩ := box6 w (.int .u32 x.s) (.int .u32 x.t) (.int .u32 x.imm) (.int .u32 x.simm) (.int .i64 x.sa) (.int .i64 x.rd) 192
 have HB : Hid (Below w.heap.size w W) := hb
 obtain ⟨xs, xt, xi, xm, sa, rd⟩ := x
 simp only [Tk.val] at hx c0 c1 c2 c3 c4 c5 hW |-
 obtain ⟨g1, g2, g3, g4⟩ := h0
 try simp only at g1 g2 g3 g4
 obtain ⟨n, rfl⟩ := Int.eq_ofNat_of_zero_le g1
 obtain ⟨r0, rfl⟩ := Int.eq_ofNat_of_zero_le g3
 have hn : n < 32 := by omega
 have hn2 : min n 64 = n := by omega
 have hn3 : ¬ ((n : Int) < 0) := by omega
 try simp only at h1
 have hle : n <= r0 := by omega
 have e1 := hx.s
 have e2 := hx.t
 try simp only at e1 e2
 have hr1 : r0 - n + 1 <= 32 := by omega
 have hw1 : IntKind.i64.wrap ((r0 : Int) - (n : Int)) = ((r0 - n : Nat) : Int) := by rw [IntKind.wrap_i64]; omega
 have hw2 : IntKind.i64.wrap (((r0 - n : Nat) : Int) + 1) = ((r0 - n + 1 : Nat) : Int) := by rw [IntKind.wrap_i64]; omega
 obtain ⟨r, hr⟩ : ∃ r, r = workN 30 ⟨xs, xt, xi, xm, (n : Int), (r0 : Int)⟩ := ⟨_, rfl⟩
 rw [<- hr]
 have HR : Hid (r = some (insM xt (xs * 2 ^ n % 4294967296) (lowN (r0 - n + 1) * 2 ^ n % 4294967296))) := hr
 have K1 : Hid (∀ wx, Calls Tryz.prog 187 #[.int .i64 ((r0 - n + 1 : Nat) : Int)] wx fun e w' => e = .returned (.int .u32 (lowN (r0 - n + 1) : Int)) /\ w' = wx) := fun wx => lowest75 _ hr1 wx
 have K2 : Hid (∀ wx, Calls Tryz.prog 189 #[.int .u32 xt, .int .u32 ((xs * 2 ^ n % 4294967296 : Nat) : Int), .int .u32 ((lowN (r0 - n + 1) * 2 ^ n % 4294967296 : Nat) : Int)] wx fun e w' => e = .returned (.int .u32 (insM xt (xs * 2 ^ n % 4294967296) (lowN (r0 - n + 1) * 2 ^ n % 4294967296) : Int)) /\ Below wx.heap.size wx w') := fun wx => inserted77 _ _ _ e2 (by omega) (by omega) wx
 generalize lowN (r0 - n + 1) = lo at HR K1 K2
 have m1 : IntKind.u32.wrap ((xs : Int) * 2 ^ n) = ((xs * 2 ^ n % 4294967296 : Nat) : Int) := by rw [IntKind.wrap_u32]; simp
 have m2 : IntKind.u32.wrap ((lo : Int) * 2 ^ n) = ((lo * 2 ^ n % 4294967296 : Nat) : Int) := by rw [IntKind.wrap_u32]; simp
 generalize xs * 2 ^ n % 4294967296 = p at HR K2 m1
 generalize lo * 2 ^ n % 4294967296 = q at HR K2 m2
 generalize insM xt p q = o at HR K2
 obtain ⟨r1, hr1'⟩ : ∃ r1, r1 = r0 - n := ⟨_, rfl⟩
 obtain ⟨r2, hr2'⟩ : ∃ r2, r2 = r0 - n + 1 := ⟨_, rfl⟩
 rw [<- hr2'] at hw2 K1
 rw [<- hr1'] at hw1 hw2
 clear hr hx hz h1 hb hr1 hr1' hr2' e1 e2 hle
 go_enter Tryz.func188, Tryz.ntmps188
 go_wp2
 refine wp_region_valsA [.pointer (some ⟨w.heap.size, 1, none⟩), .int .u32 xt, .pointer (some ⟨w.heap.size, 0, none⟩), .int .u32 xs, .pointer (some ⟨w.heap.size, 4, none⟩), .int .i64 n, .int .u32 p, .pointer (some ⟨w.heap.size, 5, none⟩), .int .i64 r0, .pointer (some ⟨w.heap.size, 4, none⟩), .int .i64 n, .int .i64 r1, .int .i64 r2, .int .u32 lo, .pointer (some ⟨w.heap.size, 4, none⟩), .int .i64 n, .int .u32 q, .int .u32 o, .int .u32 o] _ (by kernel_rfl) rfl (by kernel_rfl) (by kernel_rfl) (by kernel_rfl) (fun C hC => ?_)
 simp only [putVs, List.take_succ_cons, List.take_zero, Act.put, List.setIfInBounds_toArray, List.set_cons_zero, List.set_cons_succ] at hC
 subst hC
 refine ⟨?_, fun wy hR => ?_⟩
 ·repeat' refine And.intro ?_ ?_
  all_goals first | exact True.intro | intro wx hR
  all_goals try (refine yes ?_; have c0 := keep_cell hR c0; have c1 := keep_cell hR c1; have c2 := keep_cell hR c2; have c3 := keep_cell hR c3; have c4 := keep_cell hR c4; have c5 := keep_cell hR c5; simp [go_sem, hn2, hn3, hw1, hw2, m1, m2, c0, c1, c2, c3, c4, c5]; exact lands)
  ·refine yes ?_
   simp [go_sem, hn2, hn3, hw1, hw2, m1, m2]
   refine (K1.out wx).mono ?_
   rintro e wG ⟨rfl, rfl⟩
   exact lands
  ·refine yes ?_
   simp [go_sem, hn2, hn3, hw1, hw2, m1, m2]
   refine (K2.out wx).mono ?_
   rintro e wG ⟨rfl, hbG⟩
   exact landsAt hbG
 have HBE : Hid (Below w.heap.size w wy) := below_tr HB.out hR
 go_wp2
 go_ret
 exact ⟨by rw [HR.out]; rfl, HBE.out⟩
end Go.Proofs.YtimfipkbddpdmaaGreatDoor
