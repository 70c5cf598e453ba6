/- What is proved here: what the rows of alu whose regions draw make. -/
import Derived.Test.YtogokbefpgaciaaDoorAd
namespace Go.Proofs.YtogokbefpgaciaaDoor
open Go.RowKit
set_option linter.unusedVariables false
set_option linter.unusedSimpArgs false
set_option maxRecDepth 100000
set_option maxHeartbeats 1000000 in
theorem w_add (x : Tk) (hx : x.Ok) (w : World) : Calls Tryd.prog 41 #[x.val] w fun e w' => Told (workN 0 x) e ∧ Below w.heap.size w w' := by
  obtain ⟨W, hW, hb, hz, c0, c1, c2, c3, c4, c5⟩ := box6 w (.int .u32 (x.s : Int)) (.int .u32 (x.t : Int)) (.int .u32 (x.imm : Int)) (.int .u32 (x.simm : Int)) (.int .i64 x.sa) (.int .i64 x.rd) 44
  have HB : Hid (Below w.heap.size w W) := hb
  obtain ⟨xs, xt, xi, xm, sa, rd⟩ := x
  simp only [Tk.val] at hx c0 c1 c2 c3 c4 c5 hW ⊢
  have l1 := sg_lo xs hx.s
  have l2 := sg_lo xt hx.t
  try simp only at l1 l2
  have h1 := hx.s
  have h2 := hx.t
  try simp only at h1 h2
  obtain ⟨r, hr⟩ : ∃ r, r = workN 0 ⟨xs, xt, xi, xm, sa, rd⟩ := ⟨_, rfl⟩
  rw [← hr]
  have HR : Hid (r = chk (sg xs + sg xt)) := hr
  have hadd : IntKind.i64.wrap (sg xs + sg xt) = sg xs + sg xt := by rw [IntKind.wrap_i64]; omega
  have K1 : Hid (∀ wx, Calls Tryd.prog 26 #[.int .u32 (xs : Int)] wx fun e w' => e = .returned (.int .i64 (sg xs)) ∧ w' = wx) := fun wx => signed26 _ h1 wx
  have K2 : Hid (∀ wx, Calls Tryd.prog 26 #[.int .u32 (xt : Int)] wx fun e w' => e = .returned (.int .i64 (sg xt)) ∧ w' = wx) := fun wx => signed26 _ h2 wx
  generalize sg xs = p at l1 hadd HR K1
  generalize sg xt = q at l2 hadd HR K2
  clear hr hx hz h1 h2 l1 l2 hb
  go_enter Tryd.func41, Tryd.ntmps41
  go_wp2
  refine wp_region_cut (R := Ext) [⟨3, fun v _ => v = (.pointer (some ⟨w.heap.size, 0, none⟩)), fun _ _ _ _ h => h⟩, ⟨4, fun v _ => v = (.int .u32 (xs : Int)), fun _ _ _ _ h => h⟩, ⟨5, fun v _ => v = (.int .i64 p), fun _ _ _ _ h => h⟩, ⟨6, fun v _ => v = (.pointer (some ⟨w.heap.size, 1, none⟩)), fun _ _ _ _ h => h⟩, ⟨7, fun v _ => v = (.int .u32 (xt : Int)), fun _ _ _ _ h => h⟩, ⟨8, fun v _ => v = (.int .i64 q), fun _ _ _ _ h => h⟩, ⟨9, fun v _ => v = (.int .i64 (p + q)), fun _ _ _ _ h => h⟩] _ 7 (by kernel_rfl) rfl (by kernel_rfl) (by decide) (by kernel_rfl) (Below.drew (Below.refl _ _)) (fun _ _ _ h1 h2 => below_tr h1 h2) (fun QQ => ⟨?_, ?_, ?_, ?_, ?_, ?_, ?_, trivial⟩) (fun f wy hR hf A hA => ?_)
  · intro A wx hR hout hdep K hK
    have h1 : A.tmps[1]?.getD undef = (.pointer (some ⟨w.heap.size, 0, none⟩)) := hout 1 (by kernel_rfl)
    refine if_yes (by kernel_rfl) ?_
    simp [go_sem, h1, hadd]
    exact hK.out _ _ (Below.refl _ _) rfl
  · intro A wx hR hout hdep K hK
    have h3 : A.tmps[3]?.getD undef = (.pointer (some ⟨w.heap.size, 0, none⟩)) := hdep 3 (by kernel_rfl)
    refine if_yes (by kernel_rfl) ?_
    have c0 := keep_cell hR c0
    have c1 := keep_cell hR c1
    have c2 := keep_cell hR c2
    have c3 := keep_cell hR c3
    have c4 := keep_cell hR c4
    have c5 := keep_cell hR c5
    simp [go_sem, h3, c0, c1, c2, c3, c4, c5, hadd]
    exact hK.out _ _ (Below.refl _ _) rfl
  · intro A wx hR hout hdep K hK
    have h4 : A.tmps[4]?.getD undef = (.int .u32 (xs : Int)) := hdep 4 (by kernel_rfl)
    refine if_yes (by kernel_rfl) ?_
    simp [go_sem, h4, hadd]
    refine (K1.out wx).mono ?_
    rintro e wG ⟨rfl, rfl⟩
    exact hK.out _ _ (Below.refl _ _) rfl
  · intro A wx hR hout hdep K hK
    have h1 : A.tmps[1]?.getD undef = (.pointer (some ⟨w.heap.size, 0, none⟩)) := hout 1 (by kernel_rfl)
    refine if_yes (by kernel_rfl) ?_
    simp [go_sem, h1, hadd]
    exact hK.out _ _ (Below.refl _ _) rfl
  · intro A wx hR hout hdep K hK
    have h6 : A.tmps[6]?.getD undef = (.pointer (some ⟨w.heap.size, 1, none⟩)) := hdep 6 (by kernel_rfl)
    refine if_yes (by kernel_rfl) ?_
    have c0 := keep_cell hR c0
    have c1 := keep_cell hR c1
    have c2 := keep_cell hR c2
    have c3 := keep_cell hR c3
    have c4 := keep_cell hR c4
    have c5 := keep_cell hR c5
    simp [go_sem, h6, c0, c1, c2, c3, c4, c5, hadd]
    exact hK.out _ _ (Below.refl _ _) rfl
  · intro A wx hR hout hdep K hK
    have h7 : A.tmps[7]?.getD undef = (.int .u32 (xt : Int)) := hdep 7 (by kernel_rfl)
    refine if_yes (by kernel_rfl) ?_
    simp [go_sem, h7, hadd]
    refine (K2.out wx).mono ?_
    rintro e wG ⟨rfl, rfl⟩
    exact hK.out _ _ (Below.refl _ _) rfl
  · intro A wx hR hout hdep K hK
    have h5 : A.tmps[5]?.getD undef = (.int .i64 p) := hdep 5 (by kernel_rfl)
    have h8 : A.tmps[8]?.getD undef = (.int .i64 q) := hdep 8 (by kernel_rfl)
    refine if_yes (by kernel_rfl) ?_
    simp [go_sem, h5, h8, hadd]
    exact hK.out _ _ (Below.refl _ _) rfl
  simp only [putSl, List.take_succ_cons, List.take_zero, Act.put, List.setIfInBounds_toArray, List.set_cons_zero, List.set_cons_succ, show f 9 = (.int .i64 (p + q)) from hf 9 (by kernel_rfl)] at hA
  subst hA
  have HBE : Hid (Below w.heap.size w wy) := below_tr HB.out hR
  refine wpAny_ready (rs := [7]) (by kernel_rfl) (by decide) (AllReady.cons rfl ?_ AllReady.nil)
  intro K7 hK7
  refine if_yes (by kernel_rfl) ?_
  by_cases hc : -2147483648 ≤ p + q ∧ p + q ≤ 2147483647
  · have HRR : Hid (r = some (outN (p + q))) := by show _ = _; rw [HR.out, chk, if_pos hc]
    simp [go_sem]
    refine (checked42_ok _ hc wy).mono ?_
    rintro e wG ⟨rfl, rfl⟩
    refine hK7 _ _ ?_
    refine wpAny_ready (rs := [8]) (by kernel_rfl) (by decide) (AllReady.cons rfl ?_ AllReady.nil)
    intro K8 hK8
    refine if_yes (by kernel_rfl) ?_
    simp [go_sem]
    refine hK8 _ _ ?_
    refine wpAny_done (by kernel_rfl) ?_ _
    go_wp2
    go_ret
    exact ⟨by rw [HRR.out]; rfl, HBE.out⟩
  · have HRR : Hid (r = none) := by show _ = _; rw [HR.out, chk, if_neg hc]
    simp [go_sem]
    refine (checked42_no _ hc wy).mono ?_
    rintro e wG ⟨rfl, rfl⟩
    go_wp2_with fail
    exact ⟨rfl, by rw [HRR.out]; exact ⟨_, rfl⟩, HBE.out⟩
set_option maxHeartbeats 1000000 in
theorem w_sub (x : Tk) (hx : x.Ok) (w : World) : Calls Tryd.prog 43 #[x.val] w fun e w' => Told (workN 1 x) e ∧ Below w.heap.size w w' := by
  obtain ⟨W, hW, hb, hz, c0, c1, c2, c3, c4, c5⟩ := box6 w (.int .u32 (x.s : Int)) (.int .u32 (x.t : Int)) (.int .u32 (x.imm : Int)) (.int .u32 (x.simm : Int)) (.int .i64 x.sa) (.int .i64 x.rd) 44
  have HB : Hid (Below w.heap.size w W) := hb
  obtain ⟨xs, xt, xi, xm, sa, rd⟩ := x
  simp only [Tk.val] at hx c0 c1 c2 c3 c4 c5 hW ⊢
  have l1 := sg_lo xs hx.s
  have l2 := sg_lo xt hx.t
  try simp only at l1 l2
  have h1 := hx.s
  have h2 := hx.t
  try simp only at h1 h2
  obtain ⟨r, hr⟩ : ∃ r, r = workN 1 ⟨xs, xt, xi, xm, sa, rd⟩ := ⟨_, rfl⟩
  rw [← hr]
  have HR : Hid (r = chk (sg xs - sg xt)) := hr
  have hadd : IntKind.i64.wrap (sg xs - sg xt) = sg xs - sg xt := by rw [IntKind.wrap_i64]; omega
  have K1 : Hid (∀ wx, Calls Tryd.prog 26 #[.int .u32 (xs : Int)] wx fun e w' => e = .returned (.int .i64 (sg xs)) ∧ w' = wx) := fun wx => signed26 _ h1 wx
  have K2 : Hid (∀ wx, Calls Tryd.prog 26 #[.int .u32 (xt : Int)] wx fun e w' => e = .returned (.int .i64 (sg xt)) ∧ w' = wx) := fun wx => signed26 _ h2 wx
  generalize sg xs = p at l1 hadd HR K1
  generalize sg xt = q at l2 hadd HR K2
  clear hr hx hz h1 h2 l1 l2 hb
  go_enter Tryd.func43, Tryd.ntmps43
  go_wp2
  refine wp_region_cut (R := Ext) [⟨3, fun v _ => v = (.pointer (some ⟨w.heap.size, 0, none⟩)), fun _ _ _ _ h => h⟩, ⟨4, fun v _ => v = (.int .u32 (xs : Int)), fun _ _ _ _ h => h⟩, ⟨5, fun v _ => v = (.int .i64 p), fun _ _ _ _ h => h⟩, ⟨6, fun v _ => v = (.pointer (some ⟨w.heap.size, 1, none⟩)), fun _ _ _ _ h => h⟩, ⟨7, fun v _ => v = (.int .u32 (xt : Int)), fun _ _ _ _ h => h⟩, ⟨8, fun v _ => v = (.int .i64 q), fun _ _ _ _ h => h⟩, ⟨9, fun v _ => v = (.int .i64 (p - q)), fun _ _ _ _ h => h⟩] _ 7 (by kernel_rfl) rfl (by kernel_rfl) (by decide) (by kernel_rfl) (Below.drew (Below.refl _ _)) (fun _ _ _ h1 h2 => below_tr h1 h2) (fun QQ => ⟨?_, ?_, ?_, ?_, ?_, ?_, ?_, trivial⟩) (fun f wy hR hf A hA => ?_)
  · intro A wx hR hout hdep K hK
    have h1 : A.tmps[1]?.getD undef = (.pointer (some ⟨w.heap.size, 0, none⟩)) := hout 1 (by kernel_rfl)
    refine if_yes (by kernel_rfl) ?_
    simp [go_sem, h1, hadd]
    exact hK.out _ _ (Below.refl _ _) rfl
  · intro A wx hR hout hdep K hK
    have h3 : A.tmps[3]?.getD undef = (.pointer (some ⟨w.heap.size, 0, none⟩)) := hdep 3 (by kernel_rfl)
    refine if_yes (by kernel_rfl) ?_
    have c0 := keep_cell hR c0
    have c1 := keep_cell hR c1
    have c2 := keep_cell hR c2
    have c3 := keep_cell hR c3
    have c4 := keep_cell hR c4
    have c5 := keep_cell hR c5
    simp [go_sem, h3, c0, c1, c2, c3, c4, c5, hadd]
    exact hK.out _ _ (Below.refl _ _) rfl
  · intro A wx hR hout hdep K hK
    have h4 : A.tmps[4]?.getD undef = (.int .u32 (xs : Int)) := hdep 4 (by kernel_rfl)
    refine if_yes (by kernel_rfl) ?_
    simp [go_sem, h4, hadd]
    refine (K1.out wx).mono ?_
    rintro e wG ⟨rfl, rfl⟩
    exact hK.out _ _ (Below.refl _ _) rfl
  · intro A wx hR hout hdep K hK
    have h1 : A.tmps[1]?.getD undef = (.pointer (some ⟨w.heap.size, 0, none⟩)) := hout 1 (by kernel_rfl)
    refine if_yes (by kernel_rfl) ?_
    simp [go_sem, h1, hadd]
    exact hK.out _ _ (Below.refl _ _) rfl
  · intro A wx hR hout hdep K hK
    have h6 : A.tmps[6]?.getD undef = (.pointer (some ⟨w.heap.size, 1, none⟩)) := hdep 6 (by kernel_rfl)
    refine if_yes (by kernel_rfl) ?_
    have c0 := keep_cell hR c0
    have c1 := keep_cell hR c1
    have c2 := keep_cell hR c2
    have c3 := keep_cell hR c3
    have c4 := keep_cell hR c4
    have c5 := keep_cell hR c5
    simp [go_sem, h6, c0, c1, c2, c3, c4, c5, hadd]
    exact hK.out _ _ (Below.refl _ _) rfl
  · intro A wx hR hout hdep K hK
    have h7 : A.tmps[7]?.getD undef = (.int .u32 (xt : Int)) := hdep 7 (by kernel_rfl)
    refine if_yes (by kernel_rfl) ?_
    simp [go_sem, h7, hadd]
    refine (K2.out wx).mono ?_
    rintro e wG ⟨rfl, rfl⟩
    exact hK.out _ _ (Below.refl _ _) rfl
  · intro A wx hR hout hdep K hK
    have h5 : A.tmps[5]?.getD undef = (.int .i64 p) := hdep 5 (by kernel_rfl)
    have h8 : A.tmps[8]?.getD undef = (.int .i64 q) := hdep 8 (by kernel_rfl)
    refine if_yes (by kernel_rfl) ?_
    simp [go_sem, h5, h8, hadd]
    exact hK.out _ _ (Below.refl _ _) rfl
  simp only [putSl, List.take_succ_cons, List.take_zero, Act.put, List.setIfInBounds_toArray, List.set_cons_zero, List.set_cons_succ, show f 9 = (.int .i64 (p - q)) from hf 9 (by kernel_rfl)] at hA
  subst hA
  have HBE : Hid (Below w.heap.size w wy) := below_tr HB.out hR
  refine wpAny_ready (rs := [7]) (by kernel_rfl) (by decide) (AllReady.cons rfl ?_ AllReady.nil)
  intro K7 hK7
  refine if_yes (by kernel_rfl) ?_
  by_cases hc : -2147483648 ≤ p - q ∧ p - q ≤ 2147483647
  · have HRR : Hid (r = some (outN (p - q))) := by show _ = _; rw [HR.out, chk, if_pos hc]
    simp [go_sem]
    refine (checked42_ok _ hc wy).mono ?_
    rintro e wG ⟨rfl, rfl⟩
    refine hK7 _ _ ?_
    refine wpAny_ready (rs := [8]) (by kernel_rfl) (by decide) (AllReady.cons rfl ?_ AllReady.nil)
    intro K8 hK8
    refine if_yes (by kernel_rfl) ?_
    simp [go_sem]
    refine hK8 _ _ ?_
    refine wpAny_done (by kernel_rfl) ?_ _
    go_wp2
    go_ret
    exact ⟨by rw [HRR.out]; rfl, HBE.out⟩
  · have HRR : Hid (r = none) := by show _ = _; rw [HR.out, chk, if_neg hc]
    simp [go_sem]
    refine (checked42_no _ hc wy).mono ?_
    rintro e wG ⟨rfl, rfl⟩
    go_wp2_with fail
    exact ⟨rfl, by rw [HRR.out]; exact ⟨_, rfl⟩, HBE.out⟩
set_option maxHeartbeats 1000000 in
theorem w_addi (x : Tk) (hx : x.Ok) (w : World) : Calls Tryd.prog 44 #[x.val] w fun e w' => Told (workN 2 x) e ∧ Below w.heap.size w w' := by
  obtain ⟨W, hW, hb, hz, c0, c1, c2, c3, c4, c5⟩ := box6 w (.int .u32 (x.s : Int)) (.int .u32 (x.t : Int)) (.int .u32 (x.imm : Int)) (.int .u32 (x.simm : Int)) (.int .i64 x.sa) (.int .i64 x.rd) 44
  have HB : Hid (Below w.heap.size w W) := hb
  obtain ⟨xs, xt, xi, xm, sa, rd⟩ := x
  simp only [Tk.val] at hx c0 c1 c2 c3 c4 c5 hW ⊢
  have l1 := sg_lo xs hx.s
  have l2 := sg_lo xm hx.simm
  try simp only at l1 l2
  have h1 := hx.s
  have h2 := hx.simm
  try simp only at h1 h2
  obtain ⟨r, hr⟩ : ∃ r, r = workN 2 ⟨xs, xt, xi, xm, sa, rd⟩ := ⟨_, rfl⟩
  rw [← hr]
  have HR : Hid (r = chk (sg xs + sg xm)) := hr
  have hadd : IntKind.i64.wrap (sg xs + sg xm) = sg xs + sg xm := by rw [IntKind.wrap_i64]; omega
  have K1 : Hid (∀ wx, Calls Tryd.prog 26 #[.int .u32 (xs : Int)] wx fun e w' => e = .returned (.int .i64 (sg xs)) ∧ w' = wx) := fun wx => signed26 _ h1 wx
  have K2 : Hid (∀ wx, Calls Tryd.prog 26 #[.int .u32 (xm : Int)] wx fun e w' => e = .returned (.int .i64 (sg xm)) ∧ w' = wx) := fun wx => signed26 _ h2 wx
  generalize sg xs = p at l1 hadd HR K1
  generalize sg xm = q at l2 hadd HR K2
  clear hr hx hz h1 h2 l1 l2 hb
  go_enter Tryd.func44, Tryd.ntmps44
  go_wp2
  refine wp_region_cut (R := Ext) [⟨3, fun v _ => v = (.pointer (some ⟨w.heap.size, 0, none⟩)), fun _ _ _ _ h => h⟩, ⟨4, fun v _ => v = (.int .u32 (xs : Int)), fun _ _ _ _ h => h⟩, ⟨5, fun v _ => v = (.int .i64 p), fun _ _ _ _ h => h⟩, ⟨6, fun v _ => v = (.pointer (some ⟨w.heap.size, 3, none⟩)), fun _ _ _ _ h => h⟩, ⟨7, fun v _ => v = (.int .u32 (xm : Int)), fun _ _ _ _ h => h⟩, ⟨8, fun v _ => v = (.int .i64 q), fun _ _ _ _ h => h⟩, ⟨9, fun v _ => v = (.int .i64 (p + q)), fun _ _ _ _ h => h⟩] _ 7 (by kernel_rfl) rfl (by kernel_rfl) (by decide) (by kernel_rfl) (Below.drew (Below.refl _ _)) (fun _ _ _ h1 h2 => below_tr h1 h2) (fun QQ => ⟨?_, ?_, ?_, ?_, ?_, ?_, ?_, trivial⟩) (fun f wy hR hf A hA => ?_)
  · intro A wx hR hout hdep K hK
    have h1 : A.tmps[1]?.getD undef = (.pointer (some ⟨w.heap.size, 0, none⟩)) := hout 1 (by kernel_rfl)
    refine if_yes (by kernel_rfl) ?_
    simp [go_sem, h1, hadd]
    exact hK.out _ _ (Below.refl _ _) rfl
  · intro A wx hR hout hdep K hK
    have h3 : A.tmps[3]?.getD undef = (.pointer (some ⟨w.heap.size, 0, none⟩)) := hdep 3 (by kernel_rfl)
    refine if_yes (by kernel_rfl) ?_
    have c0 := keep_cell hR c0
    have c1 := keep_cell hR c1
    have c2 := keep_cell hR c2
    have c3 := keep_cell hR c3
    have c4 := keep_cell hR c4
    have c5 := keep_cell hR c5
    simp [go_sem, h3, c0, c1, c2, c3, c4, c5, hadd]
    exact hK.out _ _ (Below.refl _ _) rfl
  · intro A wx hR hout hdep K hK
    have h4 : A.tmps[4]?.getD undef = (.int .u32 (xs : Int)) := hdep 4 (by kernel_rfl)
    refine if_yes (by kernel_rfl) ?_
    simp [go_sem, h4, hadd]
    refine (K1.out wx).mono ?_
    rintro e wG ⟨rfl, rfl⟩
    exact hK.out _ _ (Below.refl _ _) rfl
  · intro A wx hR hout hdep K hK
    have h1 : A.tmps[1]?.getD undef = (.pointer (some ⟨w.heap.size, 0, none⟩)) := hout 1 (by kernel_rfl)
    refine if_yes (by kernel_rfl) ?_
    simp [go_sem, h1, hadd]
    exact hK.out _ _ (Below.refl _ _) rfl
  · intro A wx hR hout hdep K hK
    have h6 : A.tmps[6]?.getD undef = (.pointer (some ⟨w.heap.size, 3, none⟩)) := hdep 6 (by kernel_rfl)
    refine if_yes (by kernel_rfl) ?_
    have c0 := keep_cell hR c0
    have c1 := keep_cell hR c1
    have c2 := keep_cell hR c2
    have c3 := keep_cell hR c3
    have c4 := keep_cell hR c4
    have c5 := keep_cell hR c5
    simp [go_sem, h6, c0, c1, c2, c3, c4, c5, hadd]
    exact hK.out _ _ (Below.refl _ _) rfl
  · intro A wx hR hout hdep K hK
    have h7 : A.tmps[7]?.getD undef = (.int .u32 (xm : Int)) := hdep 7 (by kernel_rfl)
    refine if_yes (by kernel_rfl) ?_
    simp [go_sem, h7, hadd]
    refine (K2.out wx).mono ?_
    rintro e wG ⟨rfl, rfl⟩
    exact hK.out _ _ (Below.refl _ _) rfl
  · intro A wx hR hout hdep K hK
    have h5 : A.tmps[5]?.getD undef = (.int .i64 p) := hdep 5 (by kernel_rfl)
    have h8 : A.tmps[8]?.getD undef = (.int .i64 q) := hdep 8 (by kernel_rfl)
    refine if_yes (by kernel_rfl) ?_
    simp [go_sem, h5, h8, hadd]
    exact hK.out _ _ (Below.refl _ _) rfl
  simp only [putSl, List.take_succ_cons, List.take_zero, Act.put, List.setIfInBounds_toArray, List.set_cons_zero, List.set_cons_succ, show f 9 = (.int .i64 (p + q)) from hf 9 (by kernel_rfl)] at hA
  subst hA
  have HBE : Hid (Below w.heap.size w wy) := below_tr HB.out hR
  refine wpAny_ready (rs := [7]) (by kernel_rfl) (by decide) (AllReady.cons rfl ?_ AllReady.nil)
  intro K7 hK7
  refine if_yes (by kernel_rfl) ?_
  by_cases hc : -2147483648 ≤ p + q ∧ p + q ≤ 2147483647
  · have HRR : Hid (r = some (outN (p + q))) := by show _ = _; rw [HR.out, chk, if_pos hc]
    simp [go_sem]
    refine (checked42_ok _ hc wy).mono ?_
    rintro e wG ⟨rfl, rfl⟩
    refine hK7 _ _ ?_
    refine wpAny_ready (rs := [8]) (by kernel_rfl) (by decide) (AllReady.cons rfl ?_ AllReady.nil)
    intro K8 hK8
    refine if_yes (by kernel_rfl) ?_
    simp [go_sem]
    refine hK8 _ _ ?_
    refine wpAny_done (by kernel_rfl) ?_ _
    go_wp2
    go_ret
    exact ⟨by rw [HRR.out]; rfl, HBE.out⟩
  · have HRR : Hid (r = none) := by show _ = _; rw [HR.out, chk, if_neg hc]
    simp [go_sem]
    refine (checked42_no _ hc wy).mono ?_
    rintro e wG ⟨rfl, rfl⟩
    go_wp2_with fail
    exact ⟨rfl, by rw [HRR.out]; exact ⟨_, rfl⟩, HBE.out⟩
set_option maxHeartbeats 1000000 in
theorem w_slt (x : Tk) (hx : x.Ok) (w : World) : Calls Tryd.prog 55 #[x.val] w fun e w' => Told (workN 13 x) e ∧ Below w.heap.size w w' := by
  obtain ⟨W, hW, hb, hz, c0, c1, c2, c3, c4, c5⟩ := box6 w (.int .u32 (x.s : Int)) (.int .u32 (x.t : Int)) (.int .u32 (x.imm : Int)) (.int .u32 (x.simm : Int)) (.int .i64 x.sa) (.int .i64 x.rd) 44
  have HB : Hid (Below w.heap.size w W) := hb
  obtain ⟨xs, xt, xi, xm, sa, rd⟩ := x
  simp only [Tk.val] at hx c0 c1 c2 c3 c4 c5 hW ⊢
  have h1 := hx.s
  have h2 := hx.t
  try simp only at h1 h2
  obtain ⟨r, hr⟩ : ∃ r, r = workN 13 ⟨xs, xt, xi, xm, sa, rd⟩ := ⟨_, rfl⟩
  rw [← hr]
  have HR : Hid (r = some (bitN (decide (sg xs < sg xt)))) := hr
  have K1 : Hid (∀ wx, Calls Tryd.prog 26 #[.int .u32 (xs : Int)] wx fun e w' => e = .returned (.int .i64 (sg xs)) ∧ w' = wx) := fun wx => signed26 _ h1 wx
  have K2 : Hid (∀ wx, Calls Tryd.prog 26 #[.int .u32 (xt : Int)] wx fun e w' => e = .returned (.int .i64 (sg xt)) ∧ w' = wx) := fun wx => signed26 _ h2 wx
  generalize sg xs = p at HR K1
  generalize sg xt = q at HR K2
  clear hr hx hz h1 h2 hb
  go_enter Tryd.func55, Tryd.ntmps55
  go_wp2
  refine wp_region_slots (R := Ext) [⟨3, fun v _ => v = (.pointer (some ⟨w.heap.size, 0, none⟩)), fun _ _ _ _ h => h⟩, ⟨4, fun v _ => v = (.int .u32 (xs : Int)), fun _ _ _ _ h => h⟩, ⟨5, fun v _ => v = (.int .i64 p), fun _ _ _ _ h => h⟩, ⟨6, fun v _ => v = (.pointer (some ⟨w.heap.size, 1, none⟩)), fun _ _ _ _ h => h⟩, ⟨7, fun v _ => v = (.int .u32 (xt : Int)), fun _ _ _ _ h => h⟩, ⟨8, fun v _ => v = (.int .i64 q), fun _ _ _ _ h => h⟩, ⟨9, fun v _ => v = (.bool (decide (p < q))), fun _ _ _ _ h => h⟩, ⟨10, fun v _ => v = (.int .u32 (bitN (decide (p < q)) : Int)), fun _ _ _ _ h => h⟩, ⟨2, fun v _ => v = (.int .u32 (bitN (decide (p < q)) : Int)), fun _ _ _ _ h => h⟩] _ (by kernel_rfl) rfl (by kernel_rfl) (Below.drew (Below.refl _ _)) (fun _ _ _ h1 h2 => below_tr h1 h2) (fun QQ => ⟨?_, ?_, ?_, ?_, ?_, ?_, ?_, ?_, ?_, trivial⟩) (fun f wy hR hf => ?_)
  · intro A wx hR hout hdep K hK
    have h1 : A.tmps[1]?.getD undef = (.pointer (some ⟨w.heap.size, 0, none⟩)) := hout 1 (by kernel_rfl)
    refine if_yes (by kernel_rfl) ?_
    simp [go_sem, h1]
    exact hK.out _ _ (Below.refl _ _) rfl
  · intro A wx hR hout hdep K hK
    have h3 : A.tmps[3]?.getD undef = (.pointer (some ⟨w.heap.size, 0, none⟩)) := hdep 3 (by kernel_rfl)
    refine if_yes (by kernel_rfl) ?_
    have c0 := keep_cell hR c0
    have c1 := keep_cell hR c1
    have c2 := keep_cell hR c2
    have c3 := keep_cell hR c3
    have c4 := keep_cell hR c4
    have c5 := keep_cell hR c5
    simp [go_sem, h3, c0, c1, c2, c3, c4, c5]
    exact hK.out _ _ (Below.refl _ _) rfl
  · intro A wx hR hout hdep K hK
    have h4 : A.tmps[4]?.getD undef = (.int .u32 (xs : Int)) := hdep 4 (by kernel_rfl)
    refine if_yes (by kernel_rfl) ?_
    simp [go_sem, h4]
    refine (K1.out wx).mono ?_
    rintro e wG ⟨rfl, rfl⟩
    exact hK.out _ _ (Below.refl _ _) rfl
  · intro A wx hR hout hdep K hK
    have h1 : A.tmps[1]?.getD undef = (.pointer (some ⟨w.heap.size, 0, none⟩)) := hout 1 (by kernel_rfl)
    refine if_yes (by kernel_rfl) ?_
    simp [go_sem, h1]
    exact hK.out _ _ (Below.refl _ _) rfl
  · intro A wx hR hout hdep K hK
    have h6 : A.tmps[6]?.getD undef = (.pointer (some ⟨w.heap.size, 1, none⟩)) := hdep 6 (by kernel_rfl)
    refine if_yes (by kernel_rfl) ?_
    have c0 := keep_cell hR c0
    have c1 := keep_cell hR c1
    have c2 := keep_cell hR c2
    have c3 := keep_cell hR c3
    have c4 := keep_cell hR c4
    have c5 := keep_cell hR c5
    simp [go_sem, h6, c0, c1, c2, c3, c4, c5]
    exact hK.out _ _ (Below.refl _ _) rfl
  · intro A wx hR hout hdep K hK
    have h7 : A.tmps[7]?.getD undef = (.int .u32 (xt : Int)) := hdep 7 (by kernel_rfl)
    refine if_yes (by kernel_rfl) ?_
    simp [go_sem, h7]
    refine (K2.out wx).mono ?_
    rintro e wG ⟨rfl, rfl⟩
    exact hK.out _ _ (Below.refl _ _) rfl
  · intro A wx hR hout hdep K hK
    have h5 : A.tmps[5]?.getD undef = (.int .i64 p) := hdep 5 (by kernel_rfl)
    have h8 : A.tmps[8]?.getD undef = (.int .i64 q) := hdep 8 (by kernel_rfl)
    refine if_yes (by kernel_rfl) ?_
    simp [go_sem, h5, h8]
    exact hK.out _ _ (Below.refl _ _) rfl
  · intro A wx hR hout hdep K hK
    have h9 : A.tmps[9]?.getD undef = (.bool (decide (p < q))) := hdep 9 (by kernel_rfl)
    refine if_yes (by kernel_rfl) ?_
    simp [go_sem, h9]
    refine (truth56 _ wx).mono ?_
    rintro e wG ⟨rfl, rfl⟩
    exact hK.out _ _ (Below.refl _ _) rfl
  · intro A wx hR hout hdep K hK
    have h10 : A.tmps[10]?.getD undef = (.int .u32 (bitN (decide (p < q)) : Int)) := hdep 10 (by kernel_rfl)
    refine if_yes (by kernel_rfl) ?_
    simp [go_sem, h10]
    exact hK.out _ _ (Below.refl _ _) rfl
  simp only [putSl, Act.put, List.setIfInBounds_toArray, List.set_cons_zero, List.set_cons_succ, show f 2 = (.int .u32 (bitN (decide (p < q)) : Int)) from hf 2 (by kernel_rfl)]
  have HBE : Hid (Below w.heap.size w wy) := below_tr HB.out hR
  go_wp2
  go_ret
  exact ⟨by rw [HR.out]; rfl, HBE.out⟩
set_option maxHeartbeats 1000000 in
theorem w_slti (x : Tk) (hx : x.Ok) (w : World) : Calls Tryd.prog 58 #[x.val] w fun e w' => Told (workN 15 x) e ∧ Below w.heap.size w w' := by
  obtain ⟨W, hW, hb, hz, c0, c1, c2, c3, c4, c5⟩ := box6 w (.int .u32 (x.s : Int)) (.int .u32 (x.t : Int)) (.int .u32 (x.imm : Int)) (.int .u32 (x.simm : Int)) (.int .i64 x.sa) (.int .i64 x.rd) 44
  have HB : Hid (Below w.heap.size w W) := hb
  obtain ⟨xs, xt, xi, xm, sa, rd⟩ := x
  simp only [Tk.val] at hx c0 c1 c2 c3 c4 c5 hW ⊢
  have h1 := hx.s
  have h2 := hx.simm
  try simp only at h1 h2
  obtain ⟨r, hr⟩ : ∃ r, r = workN 15 ⟨xs, xt, xi, xm, sa, rd⟩ := ⟨_, rfl⟩
  rw [← hr]
  have HR : Hid (r = some (bitN (decide (sg xs < sg xm)))) := hr
  have K1 : Hid (∀ wx, Calls Tryd.prog 26 #[.int .u32 (xs : Int)] wx fun e w' => e = .returned (.int .i64 (sg xs)) ∧ w' = wx) := fun wx => signed26 _ h1 wx
  have K2 : Hid (∀ wx, Calls Tryd.prog 26 #[.int .u32 (xm : Int)] wx fun e w' => e = .returned (.int .i64 (sg xm)) ∧ w' = wx) := fun wx => signed26 _ h2 wx
  generalize sg xs = p at HR K1
  generalize sg xm = q at HR K2
  clear hr hx hz h1 h2 hb
  go_enter Tryd.func58, Tryd.ntmps58
  go_wp2
  refine wp_region_slots (R := Ext) [⟨3, fun v _ => v = (.pointer (some ⟨w.heap.size, 0, none⟩)), fun _ _ _ _ h => h⟩, ⟨4, fun v _ => v = (.int .u32 (xs : Int)), fun _ _ _ _ h => h⟩, ⟨5, fun v _ => v = (.int .i64 p), fun _ _ _ _ h => h⟩, ⟨6, fun v _ => v = (.pointer (some ⟨w.heap.size, 3, none⟩)), fun _ _ _ _ h => h⟩, ⟨7, fun v _ => v = (.int .u32 (xm : Int)), fun _ _ _ _ h => h⟩, ⟨8, fun v _ => v = (.int .i64 q), fun _ _ _ _ h => h⟩, ⟨9, fun v _ => v = (.bool (decide (p < q))), fun _ _ _ _ h => h⟩, ⟨10, fun v _ => v = (.int .u32 (bitN (decide (p < q)) : Int)), fun _ _ _ _ h => h⟩, ⟨2, fun v _ => v = (.int .u32 (bitN (decide (p < q)) : Int)), fun _ _ _ _ h => h⟩] _ (by kernel_rfl) rfl (by kernel_rfl) (Below.drew (Below.refl _ _)) (fun _ _ _ h1 h2 => below_tr h1 h2) (fun QQ => ⟨?_, ?_, ?_, ?_, ?_, ?_, ?_, ?_, ?_, trivial⟩) (fun f wy hR hf => ?_)
  · intro A wx hR hout hdep K hK
    have h1 : A.tmps[1]?.getD undef = (.pointer (some ⟨w.heap.size, 0, none⟩)) := hout 1 (by kernel_rfl)
    refine if_yes (by kernel_rfl) ?_
    simp [go_sem, h1]
    exact hK.out _ _ (Below.refl _ _) rfl
  · intro A wx hR hout hdep K hK
    have h3 : A.tmps[3]?.getD undef = (.pointer (some ⟨w.heap.size, 0, none⟩)) := hdep 3 (by kernel_rfl)
    refine if_yes (by kernel_rfl) ?_
    have c0 := keep_cell hR c0
    have c1 := keep_cell hR c1
    have c2 := keep_cell hR c2
    have c3 := keep_cell hR c3
    have c4 := keep_cell hR c4
    have c5 := keep_cell hR c5
    simp [go_sem, h3, c0, c1, c2, c3, c4, c5]
    exact hK.out _ _ (Below.refl _ _) rfl
  · intro A wx hR hout hdep K hK
    have h4 : A.tmps[4]?.getD undef = (.int .u32 (xs : Int)) := hdep 4 (by kernel_rfl)
    refine if_yes (by kernel_rfl) ?_
    simp [go_sem, h4]
    refine (K1.out wx).mono ?_
    rintro e wG ⟨rfl, rfl⟩
    exact hK.out _ _ (Below.refl _ _) rfl
  · intro A wx hR hout hdep K hK
    have h1 : A.tmps[1]?.getD undef = (.pointer (some ⟨w.heap.size, 0, none⟩)) := hout 1 (by kernel_rfl)
    refine if_yes (by kernel_rfl) ?_
    simp [go_sem, h1]
    exact hK.out _ _ (Below.refl _ _) rfl
  · intro A wx hR hout hdep K hK
    have h6 : A.tmps[6]?.getD undef = (.pointer (some ⟨w.heap.size, 3, none⟩)) := hdep 6 (by kernel_rfl)
    refine if_yes (by kernel_rfl) ?_
    have c0 := keep_cell hR c0
    have c1 := keep_cell hR c1
    have c2 := keep_cell hR c2
    have c3 := keep_cell hR c3
    have c4 := keep_cell hR c4
    have c5 := keep_cell hR c5
    simp [go_sem, h6, c0, c1, c2, c3, c4, c5]
    exact hK.out _ _ (Below.refl _ _) rfl
  · intro A wx hR hout hdep K hK
    have h7 : A.tmps[7]?.getD undef = (.int .u32 (xm : Int)) := hdep 7 (by kernel_rfl)
    refine if_yes (by kernel_rfl) ?_
    simp [go_sem, h7]
    refine (K2.out wx).mono ?_
    rintro e wG ⟨rfl, rfl⟩
    exact hK.out _ _ (Below.refl _ _) rfl
  · intro A wx hR hout hdep K hK
    have h5 : A.tmps[5]?.getD undef = (.int .i64 p) := hdep 5 (by kernel_rfl)
    have h8 : A.tmps[8]?.getD undef = (.int .i64 q) := hdep 8 (by kernel_rfl)
    refine if_yes (by kernel_rfl) ?_
    simp [go_sem, h5, h8]
    exact hK.out _ _ (Below.refl _ _) rfl
  · intro A wx hR hout hdep K hK
    have h9 : A.tmps[9]?.getD undef = (.bool (decide (p < q))) := hdep 9 (by kernel_rfl)
    refine if_yes (by kernel_rfl) ?_
    simp [go_sem, h9]
    refine (truth56 _ wx).mono ?_
    rintro e wG ⟨rfl, rfl⟩
    exact hK.out _ _ (Below.refl _ _) rfl
  · intro A wx hR hout hdep K hK
    have h10 : A.tmps[10]?.getD undef = (.int .u32 (bitN (decide (p < q)) : Int)) := hdep 10 (by kernel_rfl)
    refine if_yes (by kernel_rfl) ?_
    simp [go_sem, h10]
    exact hK.out _ _ (Below.refl _ _) rfl
  simp only [putSl, Act.put, List.setIfInBounds_toArray, List.set_cons_zero, List.set_cons_succ, show f 2 = (.int .u32 (bitN (decide (p < q)) : Int)) from hf 2 (by kernel_rfl)]
  have HBE : Hid (Below w.heap.size w wy) := below_tr HB.out hR
  go_wp2
  go_ret
  exact ⟨by rw [HR.out]; rfl, HBE.out⟩
theorem wrap_div (p : Int) (n : Nat) (h1 : -2147483648 ≤ p) (h2 : p < 2147483648) : wrap64 (p / 2 ^ n) = p / 2 ^ n := by
  have hp : (0 : Int) < 2 ^ n := Int.pow_pos (by decide)
  have a : -2147483648 ≤ p / 2 ^ n := by
    rw [Int.le_ediv_iff_mul_le hp]
    have : (1 : Int) ≤ 2 ^ n := hp
    generalize (2 : Int) ^ n = z at this
    omega
  have b : p / 2 ^ n ≤ 2147483647 := by
    have : (1 : Int) ≤ 2 ^ n := hp
    by_cases h : 0 ≤ p
    · exact Int.le_trans (Int.ediv_le_self _ h) (by omega)
    · have h3 : p / 2 ^ n < 0 := Int.ediv_neg_of_neg_of_pos (by omega) hp
      omega
  unfold wrap64; omega
set_option maxHeartbeats 1000000 in
theorem w_sra (x : Tk) (hx : x.Ok) (h0 : 0 ≤ x.sa ∧ x.sa < 32) (w : World) : Calls Tryd.prog 63 #[x.val] w fun e w' => Told (workN 20 x) e ∧ Below w.heap.size w w' := by
  obtain ⟨W, hW, hb, hz, c0, c1, c2, c3, c4, c5⟩ := box6 w (.int .u32 (x.s : Int)) (.int .u32 (x.t : Int)) (.int .u32 (x.imm : Int)) (.int .u32 (x.simm : Int)) (.int .i64 x.sa) (.int .i64 x.rd) 44
  have HB : Hid (Below w.heap.size w W) := hb
  obtain ⟨xs, xt, xi, xm, sa, rd⟩ := x
  simp only [Tk.val] at hx c0 c1 c2 c3 c4 c5 hW ⊢
  have h1 := hx.t
  try simp only at h1
  obtain ⟨g1, g2⟩ := h0
  try simp only at g1 g2
  obtain ⟨n, rfl⟩ := Int.eq_ofNat_of_zero_le g1
  have hn : n < 32 := by omega
  have hn2 : min n 64 = n := by omega
  have hn3 : ¬ ((n : Int) < 0) := by omega
  obtain ⟨r, hr⟩ : ∃ r, r = workN 20 ⟨xs, xt, xi, xm, (n : Int), rd⟩ := ⟨_, rfl⟩
  rw [← hr]
  have HR : Hid (r = some (outN (sg xt / 2 ^ n))) := by show _ = _; rw [hr]; rfl
  have K1 : Hid (∀ wx, Calls Tryd.prog 26 #[.int .u32 (xt : Int)] wx fun e w' => e = .returned (.int .i64 (sg xt)) ∧ w' = wx) := fun wx => signed26 _ h1 wx
  have lo := sg_lo xt h1
  have hdv : wrap64 (sg xt / 2 ^ n) = sg xt / 2 ^ n := wrap_div _ n lo.1 lo.2
  generalize sg xt = p at HR K1 hdv
  have hou : IntKind.u32.wrap (p / 2 ^ n) = ((outN (p / 2 ^ n) : Nat) : Int) := by rw [IntKind.wrap_u32]; exact (outN_is _).symm
  generalize outN (p / 2 ^ n) = o at HR hou
  clear hr hx hz h1 hb lo
  go_enter Tryd.func63, Tryd.ntmps63
  go_wp2
  refine wp_region_slots (R := Ext) [⟨3, fun v _ => v = (.pointer (some ⟨w.heap.size, 1, none⟩)), fun _ _ _ _ h => h⟩, ⟨4, fun v _ => v = (.int .u32 (xt : Int)), fun _ _ _ _ h => h⟩, ⟨5, fun v _ => v = (.int .i64 p), fun _ _ _ _ h => h⟩, ⟨6, fun v _ => v = (.pointer (some ⟨w.heap.size, 4, none⟩)), fun _ _ _ _ h => h⟩, ⟨7, fun v _ => v = (.int .i64 (n : Int)), fun _ _ _ _ h => h⟩, ⟨8, fun v _ => v = (.int .i64 (p / 2 ^ n)), fun _ _ _ _ h => h⟩, ⟨9, fun v _ => v = (.int .u32 (o : Int)), fun _ _ _ _ h => h⟩, ⟨2, fun v _ => v = (.int .u32 (o : Int)), fun _ _ _ _ h => h⟩] _ (by kernel_rfl) rfl (by kernel_rfl) (Below.drew (Below.refl _ _)) (fun _ _ _ h1 h2 => below_tr h1 h2) (fun QQ => ⟨?_, ?_, ?_, ?_, ?_, ?_, ?_, ?_, trivial⟩) (fun f wy hR hf => ?_)
  · intro A wx hR hout hdep K hK
    have h1 : A.tmps[1]?.getD undef = (.pointer (some ⟨w.heap.size, 0, none⟩)) := hout 1 (by kernel_rfl)
    refine if_yes (by kernel_rfl) ?_
    simp [go_sem, h1, hn2, hn3, hdv, hou]
    exact hK.out _ _ (Below.refl _ _) rfl
  · intro A wx hR hout hdep K hK
    have h3 : A.tmps[3]?.getD undef = (.pointer (some ⟨w.heap.size, 1, none⟩)) := hdep 3 (by kernel_rfl)
    refine if_yes (by kernel_rfl) ?_
    have c0 := keep_cell hR c0
    have c1 := keep_cell hR c1
    have c2 := keep_cell hR c2
    have c3 := keep_cell hR c3
    have c4 := keep_cell hR c4
    have c5 := keep_cell hR c5
    simp [go_sem, h3, c0, c1, c2, c3, c4, c5, hn2, hn3, hdv, hou]
    exact hK.out _ _ (Below.refl _ _) rfl
  · intro A wx hR hout hdep K hK
    have h4 : A.tmps[4]?.getD undef = (.int .u32 (xt : Int)) := hdep 4 (by kernel_rfl)
    refine if_yes (by kernel_rfl) ?_
    simp [go_sem, h4, hn2, hn3, hdv, hou]
    refine (K1.out wx).mono ?_
    rintro e wG ⟨rfl, rfl⟩
    exact hK.out _ _ (Below.refl _ _) rfl
  · intro A wx hR hout hdep K hK
    have h1 : A.tmps[1]?.getD undef = (.pointer (some ⟨w.heap.size, 0, none⟩)) := hout 1 (by kernel_rfl)
    refine if_yes (by kernel_rfl) ?_
    simp [go_sem, h1, hn2, hn3, hdv, hou]
    exact hK.out _ _ (Below.refl _ _) rfl
  · intro A wx hR hout hdep K hK
    have h6 : A.tmps[6]?.getD undef = (.pointer (some ⟨w.heap.size, 4, none⟩)) := hdep 6 (by kernel_rfl)
    refine if_yes (by kernel_rfl) ?_
    have c0 := keep_cell hR c0
    have c1 := keep_cell hR c1
    have c2 := keep_cell hR c2
    have c3 := keep_cell hR c3
    have c4 := keep_cell hR c4
    have c5 := keep_cell hR c5
    simp [go_sem, h6, c0, c1, c2, c3, c4, c5, hn2, hn3, hdv, hou]
    exact hK.out _ _ (Below.refl _ _) rfl
  · intro A wx hR hout hdep K hK
    have h5 : A.tmps[5]?.getD undef = (.int .i64 p) := hdep 5 (by kernel_rfl)
    have h7 : A.tmps[7]?.getD undef = (.int .i64 (n : Int)) := hdep 7 (by kernel_rfl)
    refine if_yes (by kernel_rfl) ?_
    simp [go_sem, h5, h7, hn2, hn3, hdv, hou]
    exact hK.out _ _ (Below.refl _ _) rfl
  · intro A wx hR hout hdep K hK
    have h8 : A.tmps[8]?.getD undef = (.int .i64 (p / 2 ^ n)) := hdep 8 (by kernel_rfl)
    refine if_yes (by kernel_rfl) ?_
    simp [go_sem, h8, hn2, hn3, hdv, hou]
    exact hK.out _ _ (Below.refl _ _) rfl
  · intro A wx hR hout hdep K hK
    have h9 : A.tmps[9]?.getD undef = (.int .u32 (o : Int)) := hdep 9 (by kernel_rfl)
    refine if_yes (by kernel_rfl) ?_
    simp [go_sem, h9, hn2, hn3, hdv, hou]
    exact hK.out _ _ (Below.refl _ _) rfl
  simp only [putSl, Act.put, List.setIfInBounds_toArray, List.set_cons_zero, List.set_cons_succ, show f 2 = (.int .u32 (o : Int)) from hf 2 (by kernel_rfl)]
  have HBE : Hid (Below w.heap.size w wy) := below_tr HB.out hR
  go_wp2
  go_ret
  exact ⟨by rw [HR.out]; rfl, HBE.out⟩
set_option maxHeartbeats 1000000 in
theorem w_srav (x : Tk) (hx : x.Ok) (w : World) : Calls Tryd.prog 66 #[x.val] w fun e w' => Told (workN 23 x) e ∧ Below w.heap.size w w' := by
  obtain ⟨W, hW, hb, hz, c0, c1, c2, c3, c4, c5⟩ := box6 w (.int .u32 (x.s : Int)) (.int .u32 (x.t : Int)) (.int .u32 (x.imm : Int)) (.int .u32 (x.simm : Int)) (.int .i64 x.sa) (.int .i64 x.rd) 44
  have HB : Hid (Below w.heap.size w W) := hb
  obtain ⟨xs, xt, xi, xm, sa, rd⟩ := x
  simp only [Tk.val] at hx c0 c1 c2 c3 c4 c5 hW ⊢
  have h1 := hx.t
  try simp only at h1
  have hm : (xs : Int).tmod 32 = ((xs % 32 : Nat) : Int) := by rw [Int.tmod_eq_emod_of_nonneg (by omega)]; omega
  obtain ⟨n, en⟩ : ∃ n, n = xs % 32 := ⟨_, rfl⟩
  have hn : n < 32 := by omega
  have hn2 : min n 64 = n := by omega
  have hn3 : ¬ ((n : Int) < 0) := by omega
  obtain ⟨r, hr⟩ : ∃ r, r = workN 23 ⟨xs, xt, xi, xm, sa, rd⟩ := ⟨_, rfl⟩
  rw [← hr]
  have HR : Hid (r = some (outN (sg xt / 2 ^ n))) := by show _ = _; rw [hr]; rw [en]; rfl
  rw [← en] at hm
  clear en
  have K1 : Hid (∀ wx, Calls Tryd.prog 26 #[.int .u32 (xt : Int)] wx fun e w' => e = .returned (.int .i64 (sg xt)) ∧ w' = wx) := fun wx => signed26 _ h1 wx
  have lo := sg_lo xt h1
  have hdv : wrap64 (sg xt / 2 ^ n) = sg xt / 2 ^ n := wrap_div _ n lo.1 lo.2
  generalize sg xt = p at HR K1 hdv
  have hou : IntKind.u32.wrap (p / 2 ^ n) = ((outN (p / 2 ^ n) : Nat) : Int) := by rw [IntKind.wrap_u32]; exact (outN_is _).symm
  generalize outN (p / 2 ^ n) = o at HR hou
  clear hr hx hz h1 hb lo
  go_enter Tryd.func66, Tryd.ntmps66
  go_wp2
  refine wp_region_slots (R := Ext) [⟨3, fun v _ => v = (.pointer (some ⟨w.heap.size, 1, none⟩)), fun _ _ _ _ h => h⟩, ⟨4, fun v _ => v = (.int .u32 (xt : Int)), fun _ _ _ _ h => h⟩, ⟨5, fun v _ => v = (.int .i64 p), fun _ _ _ _ h => h⟩, ⟨6, fun v _ => v = (.pointer (some ⟨w.heap.size, 0, none⟩)), fun _ _ _ _ h => h⟩, ⟨7, fun v _ => v = (.int .u32 (xs : Int)), fun _ _ _ _ h => h⟩, ⟨8, fun v _ => v = (.int .u32 (n : Int)), fun _ _ _ _ h => h⟩, ⟨9, fun v _ => v = (.int .i64 (p / 2 ^ n)), fun _ _ _ _ h => h⟩, ⟨10, fun v _ => v = (.int .u32 (o : Int)), fun _ _ _ _ h => h⟩, ⟨2, fun v _ => v = (.int .u32 (o : Int)), fun _ _ _ _ h => h⟩] _ (by kernel_rfl) rfl (by kernel_rfl) (Below.drew (Below.refl _ _)) (fun _ _ _ h1 h2 => below_tr h1 h2) (fun QQ => ⟨?_, ?_, ?_, ?_, ?_, ?_, ?_, ?_, ?_, trivial⟩) (fun f wy hR hf => ?_)
  · intro A wx hR hout hdep K hK
    have h1 : A.tmps[1]?.getD undef = (.pointer (some ⟨w.heap.size, 0, none⟩)) := hout 1 (by kernel_rfl)
    refine if_yes (by kernel_rfl) ?_
    simp [go_sem, h1, hn2, hn3, hdv, hou, hm]
    exact hK.out _ _ (Below.refl _ _) rfl
  · intro A wx hR hout hdep K hK
    have h3 : A.tmps[3]?.getD undef = (.pointer (some ⟨w.heap.size, 1, none⟩)) := hdep 3 (by kernel_rfl)
    refine if_yes (by kernel_rfl) ?_
    have c0 := keep_cell hR c0
    have c1 := keep_cell hR c1
    have c2 := keep_cell hR c2
    have c3 := keep_cell hR c3
    have c4 := keep_cell hR c4
    have c5 := keep_cell hR c5
    simp [go_sem, h3, c0, c1, c2, c3, c4, c5, hn2, hn3, hdv, hou, hm]
    exact hK.out _ _ (Below.refl _ _) rfl
  · intro A wx hR hout hdep K hK
    have h4 : A.tmps[4]?.getD undef = (.int .u32 (xt : Int)) := hdep 4 (by kernel_rfl)
    refine if_yes (by kernel_rfl) ?_
    simp [go_sem, h4, hn2, hn3, hdv, hou, hm]
    refine (K1.out wx).mono ?_
    rintro e wG ⟨rfl, rfl⟩
    exact hK.out _ _ (Below.refl _ _) rfl
  · intro A wx hR hout hdep K hK
    have h1 : A.tmps[1]?.getD undef = (.pointer (some ⟨w.heap.size, 0, none⟩)) := hout 1 (by kernel_rfl)
    refine if_yes (by kernel_rfl) ?_
    simp [go_sem, h1, hn2, hn3, hdv, hou, hm]
    exact hK.out _ _ (Below.refl _ _) rfl
  · intro A wx hR hout hdep K hK
    have h6 : A.tmps[6]?.getD undef = (.pointer (some ⟨w.heap.size, 0, none⟩)) := hdep 6 (by kernel_rfl)
    refine if_yes (by kernel_rfl) ?_
    have c0 := keep_cell hR c0
    have c1 := keep_cell hR c1
    have c2 := keep_cell hR c2
    have c3 := keep_cell hR c3
    have c4 := keep_cell hR c4
    have c5 := keep_cell hR c5
    simp [go_sem, h6, c0, c1, c2, c3, c4, c5, hn2, hn3, hdv, hou, hm]
    exact hK.out _ _ (Below.refl _ _) rfl
  · intro A wx hR hout hdep K hK
    have h7 : A.tmps[7]?.getD undef = (.int .u32 (xs : Int)) := hdep 7 (by kernel_rfl)
    refine if_yes (by kernel_rfl) ?_
    simp [go_sem, h7, hn2, hn3, hdv, hou, hm]
    exact hK.out _ _ (Below.refl _ _) rfl
  · intro A wx hR hout hdep K hK
    have h5 : A.tmps[5]?.getD undef = (.int .i64 p) := hdep 5 (by kernel_rfl)
    have h8 : A.tmps[8]?.getD undef = (.int .u32 (n : Int)) := hdep 8 (by kernel_rfl)
    refine if_yes (by kernel_rfl) ?_
    simp [go_sem, h5, h8, hn2, hn3, hdv, hou, hm]
    exact hK.out _ _ (Below.refl _ _) rfl
  · intro A wx hR hout hdep K hK
    have h9 : A.tmps[9]?.getD undef = (.int .i64 (p / 2 ^ n)) := hdep 9 (by kernel_rfl)
    refine if_yes (by kernel_rfl) ?_
    simp [go_sem, h9, hn2, hn3, hdv, hou, hm]
    exact hK.out _ _ (Below.refl _ _) rfl
  · intro A wx hR hout hdep K hK
    have h10 : A.tmps[10]?.getD undef = (.int .u32 (o : Int)) := hdep 10 (by kernel_rfl)
    refine if_yes (by kernel_rfl) ?_
    simp [go_sem, h10, hn2, hn3, hdv, hou, hm]
    exact hK.out _ _ (Below.refl _ _) rfl
  simp only [putSl, Act.put, List.setIfInBounds_toArray, List.set_cons_zero, List.set_cons_succ, show f 2 = (.int .u32 (o : Int)) from hf 2 (by kernel_rfl)]
  have HBE : Hid (Below w.heap.size w wy) := below_tr HB.out hR
  go_wp2
  go_ret
  exact ⟨by rw [HR.out]; rfl, HBE.out⟩
end Go.Proofs.YtogokbefpgaciaaDoor
