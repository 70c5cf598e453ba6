/- What is proved here: what the rows of alu that call others make. -/
import Derived.Test.YtogokbefpgaciaaDoorAc
import Derived.Test.YtogokbefpgaciaaDoorEach
import Derived.Test.YtogokbefpgaciaaDoorRw
namespace Go.Proofs.YtogokbefpgaciaaDoor
open Go.RowKit
set_option linter.unusedVariables false
set_option linter.unusedSimpArgs false
set_option maxRecDepth 100000
set_option maxHeartbeats 1000000 in
theorem w_sltu (x : Tk) (hx : x.Ok) (w : World) : Calls Tryd.prog 57 #[x.val] w fun e w' => Told (workN 14 x) e ∧ Below w.heap.size w w' := by
  obtain ⟨W, hW, hb, hz, c0, c1, c2, c3, c4, c5⟩ := box6 w (.int .u32 (x.s : Int)) (.int .u32 (x.t : Int)) (.int .u32 (x.imm : Int)) (.int .u32 (x.simm : Int)) (.int .i64 x.sa) (.int .i64 x.rd) 44
  have HB : Hid (Below w.heap.size w W) := hb
  obtain ⟨xs, xt, xi, xm, sa, rd⟩ := x
  simp only [Tk.val] at hx c0 c1 c2 c3 c4 c5 hW ⊢
  have hd : decide ((xs : Int) < (xt : Int)) = decide (xs < xt) := by simp
  have K := truth56 (decide (xs < xt)) W
  obtain ⟨b, eb⟩ : ∃ b, decide (xs < xt) = b := ⟨_, rfl⟩
  rw [eb] at hd K
  have HR : Hid (workN 14 ⟨xs, xt, xi, xm, sa, rd⟩ = some (bitN b)) := by show _ = _; rw [← eb]; rfl
  obtain ⟨r, hr⟩ : ∃ r, r = workN 14 ⟨xs, xt, xi, xm, sa, rd⟩ := ⟨_, rfl⟩
  rw [← hr] at HR ⊢
  clear hx hb hz hr
  try simp only at HR
  go_enter Tryd.func57, Tryd.ntmps57
  go_wp2_with fail
  refine K.mono ?_
  rintro e w3 ⟨rfl, rfl⟩
  go_wp2
  go_ret
  exact ⟨by rw [HR.out]; rfl, HB.out⟩
set_option maxHeartbeats 1000000 in
theorem w_sltiu (x : Tk) (hx : x.Ok) (w : World) : Calls Tryd.prog 59 #[x.val] w fun e w' => Told (workN 16 x) e ∧ Below w.heap.size w w' := by
  obtain ⟨W, hW, hb, hz, c0, c1, c2, c3, c4, c5⟩ := box6 w (.int .u32 (x.s : Int)) (.int .u32 (x.t : Int)) (.int .u32 (x.imm : Int)) (.int .u32 (x.simm : Int)) (.int .i64 x.sa) (.int .i64 x.rd) 44
  have HB : Hid (Below w.heap.size w W) := hb
  obtain ⟨xs, xt, xi, xm, sa, rd⟩ := x
  simp only [Tk.val] at hx c0 c1 c2 c3 c4 c5 hW ⊢
  have hd : decide ((xs : Int) < (xm : Int)) = decide (xs < xm) := by simp
  have K := truth56 (decide (xs < xm)) W
  obtain ⟨b, eb⟩ : ∃ b, decide (xs < xm) = b := ⟨_, rfl⟩
  rw [eb] at hd K
  have HR : Hid (workN 16 ⟨xs, xt, xi, xm, sa, rd⟩ = some (bitN b)) := by show _ = _; rw [← eb]; rfl
  obtain ⟨r, hr⟩ : ∃ r, r = workN 16 ⟨xs, xt, xi, xm, sa, rd⟩ := ⟨_, rfl⟩
  rw [← hr] at HR ⊢
  clear hx hb hz hr
  try simp only at HR
  go_enter Tryd.func59, Tryd.ntmps59
  go_wp2_with fail
  refine K.mono ?_
  rintro e w3 ⟨rfl, rfl⟩
  go_wp2
  go_ret
  exact ⟨by rw [HR.out]; rfl, HB.out⟩
set_option maxHeartbeats 1000000 in
theorem w_rotr (x : Tk) (hx : x.Ok) (w : World) : Calls Tryd.prog 67 #[x.val] w fun e w' => Told (workN 24 x) e ∧ Below w.heap.size w w' := by
  obtain ⟨W, hW, hb, hz, c0, c1, c2, c3, c4, c5⟩ := box6 w (.int .u32 (x.s : Int)) (.int .u32 (x.t : Int)) (.int .u32 (x.imm : Int)) (.int .u32 (x.simm : Int)) (.int .i64 x.sa) (.int .i64 x.rd) 44
  have HB : Hid (Below w.heap.size w W) := hb
  obtain ⟨xs, xt, xi, xm, sa, rd⟩ := x
  simp only [Tk.val] at hx c0 c1 c2 c3 c4 c5 hW ⊢
  have K := Sw.rot_any xt hx.t sa W
  have HR : Hid (workN 24 ⟨xs, xt, xi, xm, sa, rd⟩ = some _) := rfl
  obtain ⟨r, hr⟩ : ∃ r, r = workN 24 ⟨xs, xt, xi, xm, sa, rd⟩ := ⟨_, rfl⟩
  rw [← hr] at HR ⊢
  clear hx hb hz hr
  try simp only at HR
  go_enter Tryd.func67, Tryd.ntmps67
  go_wp2_with fail
  refine K.mono ?_
  rintro e w3 ⟨rfl, hb3⟩
  have HB3 : Hid (Below w.heap.size w w3) := below_tr HB.out hb3
  clear hb3
  go_wp2
  go_ret
  exact ⟨by rw [HR.out]; rfl, HB3.out⟩
set_option maxHeartbeats 1000000 in
theorem w_rotrv (x : Tk) (hx : x.Ok) (w : World) : Calls Tryd.prog 69 #[x.val] w fun e w' => Told (workN 25 x) e ∧ Below w.heap.size w w' := by
  obtain ⟨W, hW, hb, hz, c0, c1, c2, c3, c4, c5⟩ := box6 w (.int .u32 (x.s : Int)) (.int .u32 (x.t : Int)) (.int .u32 (x.imm : Int)) (.int .u32 (x.simm : Int)) (.int .i64 x.sa) (.int .i64 x.rd) 44
  have HB : Hid (Below w.heap.size w W) := hb
  obtain ⟨xs, xt, xi, xm, sa, rd⟩ := x
  simp only [Tk.val] at hx c0 c1 c2 c3 c4 c5 hW ⊢
  have hm : (xs : Int).tmod 32 = ((xs % 32 : Nat) : Int) := by rw [Int.tmod_eq_emod_of_nonneg (by omega)]; omega
  have hw : wrap64 ((xs % 32 : Nat) : Int) = ((xs % 32 : Nat) : Int) := by unfold wrap64; omega
  have K := Sw.rot_any xt hx.t ((xs % 32 : Nat) : Int) W
  have HR : Hid (workN 25 ⟨xs, xt, xi, xm, sa, rd⟩ = some _) := rfl
  obtain ⟨r, hr⟩ : ∃ r, r = workN 25 ⟨xs, xt, xi, xm, sa, rd⟩ := ⟨_, rfl⟩
  rw [← hr] at HR ⊢
  clear hx hb hz hr
  try simp only at HR
  go_enter Tryd.func69, Tryd.ntmps69
  go_wp2_with fail
  refine K.mono ?_
  rintro e w3 ⟨rfl, hb3⟩
  have HB3 : Hid (Below w.heap.size w w3) := below_tr HB.out hb3
  clear hb3
  go_wp2
  go_ret
  exact ⟨by rw [HR.out]; rfl, HB3.out⟩
set_option maxHeartbeats 1000000 in
theorem w_clz (x : Tk) (hx : x.Ok) (w : World) : Calls Tryd.prog 71 #[x.val] w fun e w' => Told (workN 27 x) e ∧ Below w.heap.size w w' := by
  obtain ⟨W, hW, hb, hz, c0, c1, c2, c3, c4, c5⟩ := box6 w (.int .u32 (x.s : Int)) (.int .u32 (x.t : Int)) (.int .u32 (x.imm : Int)) (.int .u32 (x.simm : Int)) (.int .i64 x.sa) (.int .i64 x.rd) 44
  have HB : Hid (Below w.heap.size w W) := hb
  obtain ⟨xs, xt, xi, xm, sa, rd⟩ := x
  simp only [Tk.val] at hx c0 c1 c2 c3 c4 c5 hW ⊢
  have K := leading72 xs 0 hx.s (by decide) W
  have HR : Hid (workN 27 ⟨xs, xt, xi, xm, sa, rd⟩ = some _) := rfl
  obtain ⟨r, hr⟩ : ∃ r, r = workN 27 ⟨xs, xt, xi, xm, sa, rd⟩ := ⟨_, rfl⟩
  rw [← hr] at HR ⊢
  clear hx hb hz hr
  try simp only at HR
  go_enter Tryd.func71, Tryd.ntmps71
  go_wp2_with fail
  refine K.mono ?_
  rintro e w3 ⟨rfl, hb3⟩
  have HB3 : Hid (Below w.heap.size w w3) := below_tr HB.out hb3
  clear hb3
  go_wp2
  go_ret
  exact ⟨by rw [HR.out]; rfl, HB3.out⟩
set_option maxHeartbeats 1000000 in
theorem w_clo (x : Tk) (hx : x.Ok) (w : World) : Calls Tryd.prog 73 #[x.val] w fun e w' => Told (workN 28 x) e ∧ Below w.heap.size w w' := by
  obtain ⟨W, hW, hb, hz, c0, c1, c2, c3, c4, c5⟩ := box6 w (.int .u32 (x.s : Int)) (.int .u32 (x.t : Int)) (.int .u32 (x.imm : Int)) (.int .u32 (x.simm : Int)) (.int .i64 x.sa) (.int .i64 x.rd) 44
  have HB : Hid (Below w.heap.size w W) := hb
  obtain ⟨xs, xt, xi, xm, sa, rd⟩ := x
  simp only [Tk.val] at hx c0 c1 c2 c3 c4 c5 hW ⊢
  have K := leading72 xs 1 hx.s (by decide) W
  have HR : Hid (workN 28 ⟨xs, xt, xi, xm, sa, rd⟩ = some _) := rfl
  obtain ⟨r, hr⟩ : ∃ r, r = workN 28 ⟨xs, xt, xi, xm, sa, rd⟩ := ⟨_, rfl⟩
  rw [← hr] at HR ⊢
  clear hx hb hz hr
  try simp only at HR
  go_enter Tryd.func73, Tryd.ntmps73
  go_wp2_with fail
  refine K.mono ?_
  rintro e w3 ⟨rfl, hb3⟩
  have HB3 : Hid (Below w.heap.size w w3) := below_tr HB.out hb3
  clear hb3
  go_wp2
  go_ret
  exact ⟨by rw [HR.out]; rfl, HB3.out⟩
set_option maxHeartbeats 1000000 in
theorem w_seb (x : Tk) (hx : x.Ok) (w : World) : Calls Tryd.prog 79 #[x.val] w fun e w' => Told (workN 32 x) e ∧ Below w.heap.size w w' := by
  obtain ⟨W, hW, hb, hz, c0, c1, c2, c3, c4, c5⟩ := box6 w (.int .u32 (x.s : Int)) (.int .u32 (x.t : Int)) (.int .u32 (x.imm : Int)) (.int .u32 (x.simm : Int)) (.int .i64 x.sa) (.int .i64 x.rd) 44
  have HB : Hid (Below w.heap.size w W) := hb
  obtain ⟨xs, xt, xi, xm, sa, rd⟩ := x
  simp only [Tk.val] at hx c0 c1 c2 c3 c4 c5 hW ⊢
  have K := Sw.sext_any xt 8 W
  have HR : Hid (workN 32 ⟨xs, xt, xi, xm, sa, rd⟩ = some _) := rfl
  obtain ⟨r, hr⟩ : ∃ r, r = workN 32 ⟨xs, xt, xi, xm, sa, rd⟩ := ⟨_, rfl⟩
  rw [← hr] at HR ⊢
  clear hx hb hz hr
  try simp only at HR
  go_enter Tryd.func79, Tryd.ntmps79
  go_wp2_with fail
  refine K.mono ?_
  rintro e w3 ⟨rfl, rfl⟩
  go_wp2
  go_ret
  exact ⟨by rw [HR.out]; rfl, HB.out⟩
set_option maxHeartbeats 1000000 in
theorem w_seh (x : Tk) (hx : x.Ok) (w : World) : Calls Tryd.prog 80 #[x.val] w fun e w' => Told (workN 33 x) e ∧ Below w.heap.size w w' := by
  obtain ⟨W, hW, hb, hz, c0, c1, c2, c3, c4, c5⟩ := box6 w (.int .u32 (x.s : Int)) (.int .u32 (x.t : Int)) (.int .u32 (x.imm : Int)) (.int .u32 (x.simm : Int)) (.int .i64 x.sa) (.int .i64 x.rd) 44
  have HB : Hid (Below w.heap.size w W) := hb
  obtain ⟨xs, xt, xi, xm, sa, rd⟩ := x
  simp only [Tk.val] at hx c0 c1 c2 c3 c4 c5 hW ⊢
  have K := Sw.sext_any xt 16 W
  have HR : Hid (workN 33 ⟨xs, xt, xi, xm, sa, rd⟩ = some _) := rfl
  obtain ⟨r, hr⟩ : ∃ r, r = workN 33 ⟨xs, xt, xi, xm, sa, rd⟩ := ⟨_, rfl⟩
  rw [← hr] at HR ⊢
  clear hx hb hz hr
  try simp only at HR
  go_enter Tryd.func80, Tryd.ntmps80
  go_wp2_with fail
  refine K.mono ?_
  rintro e w3 ⟨rfl, rfl⟩
  go_wp2
  go_ret
  exact ⟨by rw [HR.out]; rfl, HB.out⟩
end Go.Proofs.YtogokbefpgaciaaDoor
