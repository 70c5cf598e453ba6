import Derived.Test.YtimfipkbddpdmaaGreatDoorAb
import Derived.Test.YtimfipkbddpdmaaGreatDoorEach
import Derived.Test.YtimfipkbddpdmaaGreatDoorRw
set_option linter.unusedVariables false
set_option linter.unusedSimpArgs false
set_option maxRecDepth 100000
open Go Go.RowKit
namespace Go.Proofs.YtimfipkbddpdmaaGreatDoor
theorem xor_u32 (a b : Nat) (ha : a < 4294967296) (hb : b < 4294967296) : bits BinOp.xor IntKind.u32 (a : Int) (b : Int) = ((a ^^^ b : Nat) : Int) := by
 have h : a ^^^ b < 4294967296 := Nat.xor_lt_two_pow (n := 32) ha hb
 show IntKind.u32.wrap (((BitVec.ofInt 32 (a : Int) ^^^ BitVec.ofInt 32 (b : Int)).toNat : Nat) : Int) = _
 rw [BitVec.toNat_xor, BitVec.toNat_ofInt, BitVec.toNat_ofInt, IntKind.wrap_u32]
 have ea : ((a : Int) % ((2 ^ 32 : Nat) : Int)).toNat = a := by omega
 have eb : ((b : Int) % ((2 ^ 32 : Nat) : Int)).toNat = b := by omega
 rw [ea, eb]
 omega
theorem not_nat (a : Nat) (ha : a < 4294967296) : 4294967295 ^^^ a = 4294967295 - a := by
 apply Nat.eq_of_testBit_eq
 intro i
 rw [show 4294967295 - a = 2 ^ 32 - (a + 1) from by omega, Nat.testBit_two_pow_sub_succ (show a < 2 ^ 32 from ha), Nat.testBit_xor, show (4294967295 : Nat) = 2 ^ 32 - 1 from rfl, Nat.testBit_two_pow_sub_one]
 by_cases h : i < 32
 ·simp [h]
 ·have : a.testBit i = false := Nat.testBit_lt_two_pow (Nat.lt_of_lt_of_le ha (Nat.pow_le_pow_right (show 2 > 0 by decide) (show 32 <= i by omega)))
  simp [h, this]
theorem not_u32 (a : Nat) (ha : a < 4294967296) : bits BinOp.xor IntKind.u32 IntKind.u32.max (a : Int) = ((4294967295 - a : Nat) : Int) := by
 rw [show IntKind.u32.max = ((4294967295 : Nat) : Int) from rfl, xor_u32 _ _ (by decide) ha, not_nat a ha]
def insM (a b m : Nat) : Nat := (a &&& (4294967295 - m)) ||| (b &&& m)
def workN (k : Nat) (x : Tk) : Option Nat := match k with
 | 0 => chk (sg x.s + sg x.t)
 | 1 => chk (sg x.s - sg x.t)
 | 2 => chk (sg x.s + sg x.simm)
 | 3 => some ((x.s + x.t) % 4294967296)
 | 4 => some ((x.s + (4294967296 - x.t)) % 4294967296)
 | 5 => some ((x.s + x.simm) % 4294967296)
 | 6 => some (x.s &&& x.t)
 | 7 => some (x.s ||| x.t)
 | 8 => some (x.s ^^^ x.t)
 | 9 => some (4294967295 - (x.s ||| x.t))
 | 10 => some (x.s &&& x.imm)
 | 11 => some (x.s ||| x.imm)
 | 12 => some (x.s ^^^ x.imm)
 | 13 => some (bitN (decide (sg x.s < sg x.t)))
 | 14 => some (bitN (decide (x.s < x.t)))
 | 15 => some (bitN (decide (sg x.s < sg x.simm)))
 | 16 => some (bitN (decide (x.s < x.simm)))
 | 17 => some (x.imm * 65536 % 4294967296)
 | 18 => some (x.t * 2 ^ x.sa.toNat % 4294967296)
 | 19 => some (x.t / 2 ^ x.sa.toNat)
 | 20 => some (outN (sg x.t / 2 ^ x.sa.toNat))
 | 21 => some (x.t * 2 ^ (x.s % 32) % 4294967296)
 | 22 => some (x.t / 2 ^ (x.s % 32))
 | 23 => some (outN (sg x.t / 2 ^ (x.s % 32)))
 | 24 => some (Sw.rotI x.t x.sa)
 | 25 => some (Sw.rotI x.t ((x.s % 32 : Nat) : Int))
 | 26 => some (x.s * x.t % 4294967296)
 | 27 => some (leadN x.s 0)
 | 28 => some (leadN x.s 1)
 | 29 => some (x.s / 2 ^ x.sa.toNat &&& lowN (x.rd.toNat + 1))
 | 30 => some (insM x.t (x.s * 2 ^ x.sa.toNat % 4294967296) (lowN (x.rd.toNat - x.sa.toNat + 1) * 2 ^ x.sa.toNat % 4294967296))
 | 31 => some (((x.t &&& 16711935) * 256 % 4294967296) ||| (x.t / 256 &&& 16711935))
 | 32 => some (Sw.sextI x.t 8)
 | 33 => some (Sw.sextI x.t 16)
 | _ => none
theorem wsbh_is (v : Nat) (hv : v < 4294967296) : bits .or .u32 (bits .and .u32 (v : Int) 16711935 * 256 % 4294967296) (bits .and .u32 ((v : Int) / 256) 16711935) = ((((v &&& 16711935) * 256 % 4294967296) ||| (v / 256 &&& 16711935) : Nat) : Int) := by
 have a1 := and_u32 v 16711935 hv (by decide)
 have a2 := and_u32 (v / 256) 16711935 (by omega) (by decide)
 have l2 : v / 256 &&& 16711935 <= 16711935 := Nat.and_le_right
 rw [show ((v : Int) / 256) = ((v / 256 : Nat) : Int) from by omega, show (16711935 : Int) = ((16711935 : Nat) : Int) from rfl, a1, a2]
 rw [show (((v &&& 16711935 : Nat) : Int) * 256 % 4294967296) = (((v &&& 16711935) * 256 % 4294967296 : Nat) : Int) from by omega]
 rw [or_u32 _ _ (by omega) (by omega)]
set_option maxHeartbeats 1000000 in
theorem w_addu (x : Tk) (hx : x.Ok) (w : World) : Calls Tryz.prog 157 #[x.val] w fun e w' => Told (workN 3 x) e /\ Below w.heap.size w w' := by
 obtain ⟨W, hW, hb, hz, c0, c1, c2, c3, c4, c5⟩ := box6 w (.int .u32 x.s) (.int .u32 x.t) (.int .u32 x.imm) (.int .u32 x.simm) (.int .i64 x.sa) (.int .i64 x.rd) 192
 have HB : Hid (Below w.heap.size w W) := hb
 obtain ⟨xs, xt, xi, xm, sa, rd⟩ := x
 simp only [Tk.val] at hx c0 c1 c2 c3 c4 c5 hW |-
 have h : ((xs : Int) + (xt : Int)) % 4294967296 = (((xs + xt) % 4294967296 : Nat) : Int) := by omega
 have hH : Hid _ := h
 clear h hx hb hz
 go_enter Tryz.func157, Tryz.ntmps157
 go_wp2
 go_ret
 exact ⟨ret_u32 hH.out, HB.out⟩
set_option maxHeartbeats 1000000 in
theorem w_subu (x : Tk) (hx : x.Ok) (w : World) : Calls Tryz.prog 158 #[x.val] w fun e w' => Told (workN 4 x) e /\ Below w.heap.size w w' := by
 obtain ⟨W, hW, hb, hz, c0, c1, c2, c3, c4, c5⟩ := box6 w (.int .u32 x.s) (.int .u32 x.t) (.int .u32 x.imm) (.int .u32 x.simm) (.int .i64 x.sa) (.int .i64 x.rd) 192
 have HB : Hid (Below w.heap.size w W) := hb
 obtain ⟨xs, xt, xi, xm, sa, rd⟩ := x
 simp only [Tk.val] at hx c0 c1 c2 c3 c4 c5 hW |-
 have h : ((xs : Int) - (xt : Int)) % 4294967296 = (((xs + (4294967296 - xt)) % 4294967296 : Nat) : Int) := by have := hx.t; simp only at this; omega
 have hH : Hid _ := h
 clear h hx hb hz
 go_enter Tryz.func158, Tryz.ntmps158
 go_wp2
 go_ret
 exact ⟨ret_u32 hH.out, HB.out⟩
set_option maxHeartbeats 1000000 in
theorem w_addiu (x : Tk) (hx : x.Ok) (w : World) : Calls Tryz.prog 159 #[x.val] w fun e w' => Told (workN 5 x) e /\ Below w.heap.size w w' := by
 obtain ⟨W, hW, hb, hz, c0, c1, c2, c3, c4, c5⟩ := box6 w (.int .u32 x.s) (.int .u32 x.t) (.int .u32 x.imm) (.int .u32 x.simm) (.int .i64 x.sa) (.int .i64 x.rd) 192
 have HB : Hid (Below w.heap.size w W) := hb
 obtain ⟨xs, xt, xi, xm, sa, rd⟩ := x
 simp only [Tk.val] at hx c0 c1 c2 c3 c4 c5 hW |-
 have h : ((xs : Int) + (xm : Int)) % 4294967296 = (((xs + xm) % 4294967296 : Nat) : Int) := by omega
 have hH : Hid _ := h
 clear h hx hb hz
 go_enter Tryz.func159, Tryz.ntmps159
 go_wp2
 go_ret
 exact ⟨ret_u32 hH.out, HB.out⟩
set_option maxHeartbeats 1000000 in
theorem w_and (x : Tk) (hx : x.Ok) (w : World) : Calls Tryz.prog 160 #[x.val] w fun e w' => Told (workN 6 x) e /\ Below w.heap.size w w' := by
 obtain ⟨W, hW, hb, hz, c0, c1, c2, c3, c4, c5⟩ := box6 w (.int .u32 x.s) (.int .u32 x.t) (.int .u32 x.imm) (.int .u32 x.simm) (.int .i64 x.sa) (.int .i64 x.rd) 192
 have HB : Hid (Below w.heap.size w W) := hb
 obtain ⟨xs, xt, xi, xm, sa, rd⟩ := x
 simp only [Tk.val] at hx c0 c1 c2 c3 c4 c5 hW |-
 have h := and_u32 xs xt hx.s hx.t
 have hH : Hid _ := h
 clear h hx hb hz
 go_enter Tryz.func160, Tryz.ntmps160
 go_wp2
 go_ret
 exact ⟨ret_u32 hH.out, HB.out⟩
set_option maxHeartbeats 1000000 in
theorem w_or (x : Tk) (hx : x.Ok) (w : World) : Calls Tryz.prog 161 #[x.val] w fun e w' => Told (workN 7 x) e /\ Below w.heap.size w w' := by
 obtain ⟨W, hW, hb, hz, c0, c1, c2, c3, c4, c5⟩ := box6 w (.int .u32 x.s) (.int .u32 x.t) (.int .u32 x.imm) (.int .u32 x.simm) (.int .i64 x.sa) (.int .i64 x.rd) 192
 have HB : Hid (Below w.heap.size w W) := hb
 obtain ⟨xs, xt, xi, xm, sa, rd⟩ := x
 simp only [Tk.val] at hx c0 c1 c2 c3 c4 c5 hW |-
 have h := or_u32 xs xt hx.s hx.t
 have hH : Hid _ := h
 clear h hx hb hz
 go_enter Tryz.func161, Tryz.ntmps161
 go_wp2
 go_ret
 exact ⟨ret_u32 hH.out, HB.out⟩
set_option maxHeartbeats 1000000 in
theorem w_xor (x : Tk) (hx : x.Ok) (w : World) : Calls Tryz.prog 162 #[x.val] w fun e w' => Told (workN 8 x) e /\ Below w.heap.size w w' := by
 obtain ⟨W, hW, hb, hz, c0, c1, c2, c3, c4, c5⟩ := box6 w (.int .u32 x.s) (.int .u32 x.t) (.int .u32 x.imm) (.int .u32 x.simm) (.int .i64 x.sa) (.int .i64 x.rd) 192
 have HB : Hid (Below w.heap.size w W) := hb
 obtain ⟨xs, xt, xi, xm, sa, rd⟩ := x
 simp only [Tk.val] at hx c0 c1 c2 c3 c4 c5 hW |-
 have h := xor_u32 xs xt hx.s hx.t
 have hH : Hid _ := h
 clear h hx hb hz
 go_enter Tryz.func162, Tryz.ntmps162
 go_wp2
 go_ret
 exact ⟨ret_u32 hH.out, HB.out⟩
set_option maxHeartbeats 1000000 in
theorem w_nor (x : Tk) (hx : x.Ok) (w : World) : Calls Tryz.prog 163 #[x.val] w fun e w' => Told (workN 9 x) e /\ Below w.heap.size w w' := by
 obtain ⟨W, hW, hb, hz, c0, c1, c2, c3, c4, c5⟩ := box6 w (.int .u32 x.s) (.int .u32 x.t) (.int .u32 x.imm) (.int .u32 x.simm) (.int .i64 x.sa) (.int .i64 x.rd) 192
 have HB : Hid (Below w.heap.size w W) := hb
 obtain ⟨xs, xt, xi, xm, sa, rd⟩ := x
 simp only [Tk.val] at hx c0 c1 c2 c3 c4 c5 hW |-
 have h : bits .xor .u32 IntKind.u32.max (bits .or .u32 (xs : Int) (xt : Int)) = ((4294967295 - (xs ||| xt) : Nat) : Int) := by rw [or_u32 xs xt hx.s hx.t]; exact not_u32 _ (or_lt xs xt hx.s hx.t)
 have hH : Hid _ := h
 clear h hx hb hz
 go_enter Tryz.func163, Tryz.ntmps163
 go_wp2
 go_ret
 exact ⟨ret_u32 hH.out, HB.out⟩
set_option maxHeartbeats 1000000 in
theorem w_andi (x : Tk) (hx : x.Ok) (w : World) : Calls Tryz.prog 164 #[x.val] w fun e w' => Told (workN 10 x) e /\ Below w.heap.size w w' := by
 obtain ⟨W, hW, hb, hz, c0, c1, c2, c3, c4, c5⟩ := box6 w (.int .u32 x.s) (.int .u32 x.t) (.int .u32 x.imm) (.int .u32 x.simm) (.int .i64 x.sa) (.int .i64 x.rd) 192
 have HB : Hid (Below w.heap.size w W) := hb
 obtain ⟨xs, xt, xi, xm, sa, rd⟩ := x
 simp only [Tk.val] at hx c0 c1 c2 c3 c4 c5 hW |-
 have h := and_u32 xs xi hx.s hx.imm
 have hH : Hid _ := h
 clear h hx hb hz
 go_enter Tryz.func164, Tryz.ntmps164
 go_wp2
 go_ret
 exact ⟨ret_u32 hH.out, HB.out⟩
set_option maxHeartbeats 1000000 in
theorem w_ori (x : Tk) (hx : x.Ok) (w : World) : Calls Tryz.prog 165 #[x.val] w fun e w' => Told (workN 11 x) e /\ Below w.heap.size w w' := by
 obtain ⟨W, hW, hb, hz, c0, c1, c2, c3, c4, c5⟩ := box6 w (.int .u32 x.s) (.int .u32 x.t) (.int .u32 x.imm) (.int .u32 x.simm) (.int .i64 x.sa) (.int .i64 x.rd) 192
 have HB : Hid (Below w.heap.size w W) := hb
 obtain ⟨xs, xt, xi, xm, sa, rd⟩ := x
 simp only [Tk.val] at hx c0 c1 c2 c3 c4 c5 hW |-
 have h := or_u32 xs xi hx.s hx.imm
 have hH : Hid _ := h
 clear h hx hb hz
 go_enter Tryz.func165, Tryz.ntmps165
 go_wp2
 go_ret
 exact ⟨ret_u32 hH.out, HB.out⟩
set_option maxHeartbeats 1000000 in
theorem w_xori (x : Tk) (hx : x.Ok) (w : World) : Calls Tryz.prog 166 #[x.val] w fun e w' => Told (workN 12 x) e /\ Below w.heap.size w w' := by
 obtain ⟨W, hW, hb, hz, c0, c1, c2, c3, c4, c5⟩ := box6 w (.int .u32 x.s) (.int .u32 x.t) (.int .u32 x.imm) (.int .u32 x.simm) (.int .i64 x.sa) (.int .i64 x.rd) 192
 have HB : Hid (Below w.heap.size w W) := hb
 obtain ⟨xs, xt, xi, xm, sa, rd⟩ := x
 simp only [Tk.val] at hx c0 c1 c2 c3 c4 c5 hW |-
 have h := xor_u32 xs xi hx.s hx.imm
 have hH : Hid _ := h
 clear h hx hb hz
 go_enter Tryz.func166, Tryz.ntmps166
 go_wp2
 go_ret
 exact ⟨ret_u32 hH.out, HB.out⟩
set_option maxHeartbeats 1000000 in
theorem w_lui (x : Tk) (hx : x.Ok) (w : World) : Calls Tryz.prog 172 #[x.val] w fun e w' => Told (workN 17 x) e /\ Below w.heap.size w w' := by
 obtain ⟨W, hW, hb, hz, c0, c1, c2, c3, c4, c5⟩ := box6 w (.int .u32 x.s) (.int .u32 x.t) (.int .u32 x.imm) (.int .u32 x.simm) (.int .i64 x.sa) (.int .i64 x.rd) 192
 have HB : Hid (Below w.heap.size w W) := hb
 obtain ⟨xs, xt, xi, xm, sa, rd⟩ := x
 simp only [Tk.val] at hx c0 c1 c2 c3 c4 c5 hW |-
 have h : (xi : Int) * 65536 % 4294967296 = ((xi * 65536 % 4294967296 : Nat) : Int) := by omega
 have hH : Hid _ := h
 clear h hx hb hz
 go_enter Tryz.func172, Tryz.ntmps172
 go_wp2
 go_ret
 exact ⟨ret_u32 hH.out, HB.out⟩
set_option maxHeartbeats 1000000 in
theorem w_mul (x : Tk) (hx : x.Ok) (w : World) : Calls Tryz.prog 182 #[x.val] w fun e w' => Told (workN 26 x) e /\ Below w.heap.size w w' := by
 obtain ⟨W, hW, hb, hz, c0, c1, c2, c3, c4, c5⟩ := box6 w (.int .u32 x.s) (.int .u32 x.t) (.int .u32 x.imm) (.int .u32 x.simm) (.int .i64 x.sa) (.int .i64 x.rd) 192
 have HB : Hid (Below w.heap.size w W) := hb
 obtain ⟨xs, xt, xi, xm, sa, rd⟩ := x
 simp only [Tk.val] at hx c0 c1 c2 c3 c4 c5 hW |-
 have h : (xs : Int) * (xt : Int) % 4294967296 = ((xs * xt % 4294967296 : Nat) : Int) := by simp
 have hH : Hid _ := h
 clear h hx hb hz
 go_enter Tryz.func182, Tryz.ntmps182
 go_wp2
 go_ret
 exact ⟨ret_u32 hH.out, HB.out⟩
set_option maxHeartbeats 1000000 in
theorem w_sll (x : Tk) (hx : x.Ok) (h0 : 0 <= x.sa /\ x.sa < 32) (w : World) : Calls Tryz.prog 173 #[x.val] w fun e w' => Told (workN 18 x) e /\ Below w.heap.size w w' := by
 obtain ⟨W, hW, hb, hz, c0, c1, c2, c3, c4, c5⟩ := box6 w (.int .u32 x.s) (.int .u32 x.t) (.int .u32 x.imm) (.int .u32 x.simm) (.int .i64 x.sa) (.int .i64 x.rd) 192
 have HB : Hid (Below w.heap.size w W) := hb
 obtain ⟨xs, xt, xi, xm, sa, rd⟩ := x
 simp only [Tk.val] at hx c0 c1 c2 c3 c4 c5 hW |-
 obtain ⟨h1, h2⟩ := h0
 simp only at h1 h2
 obtain ⟨n, rfl⟩ := Int.eq_ofNat_of_zero_le h1
 have hn : n < 32 := by omega
 have h : (xt : Int) * 2 ^ n % 4294967296 = ((xt * 2 ^ n % 4294967296 : Nat) : Int) := by simp
 have H : Hid ((workN 18 ⟨xs, xt, xi, xm, (n : Int), rd⟩) = some _) := rfl
 simp only [Int.toNat_natCast] at H
 have hH : Hid _ := h
 clear h hx hb hz
 go_enter Tryz.func173, Tryz.ntmps173
 go_wp2
 go_ret
 exact ⟨ret_u32 hH.out, HB.out⟩
set_option maxHeartbeats 1000000 in
theorem w_srl (x : Tk) (hx : x.Ok) (h0 : 0 <= x.sa /\ x.sa < 32) (w : World) : Calls Tryz.prog 174 #[x.val] w fun e w' => Told (workN 19 x) e /\ Below w.heap.size w w' := by
 obtain ⟨W, hW, hb, hz, c0, c1, c2, c3, c4, c5⟩ := box6 w (.int .u32 x.s) (.int .u32 x.t) (.int .u32 x.imm) (.int .u32 x.simm) (.int .i64 x.sa) (.int .i64 x.rd) 192
 have HB : Hid (Below w.heap.size w W) := hb
 obtain ⟨xs, xt, xi, xm, sa, rd⟩ := x
 simp only [Tk.val] at hx c0 c1 c2 c3 c4 c5 hW |-
 obtain ⟨h1, h2⟩ := h0
 simp only at h1 h2
 obtain ⟨n, rfl⟩ := Int.eq_ofNat_of_zero_le h1
 have hn : n < 32 := by omega
 have h : (xt : Int) / 2 ^ n = ((xt / 2 ^ n : Nat) : Int) := by simp
 have H : Hid ((workN 19 ⟨xs, xt, xi, xm, (n : Int), rd⟩) = some _) := rfl
 simp only [Int.toNat_natCast] at H
 have hH : Hid _ := h
 clear h hx hb hz
 go_enter Tryz.func174, Tryz.ntmps174
 go_wp2
 go_ret
 exact ⟨ret_u32 hH.out, HB.out⟩
set_option maxHeartbeats 1000000 in
theorem w_sllv (x : Tk) (hx : x.Ok) (w : World) : Calls Tryz.prog 176 #[x.val] w fun e w' => Told (workN 21 x) e /\ Below w.heap.size w w' := by
 obtain ⟨W, hW, hb, hz, c0, c1, c2, c3, c4, c5⟩ := box6 w (.int .u32 x.s) (.int .u32 x.t) (.int .u32 x.imm) (.int .u32 x.simm) (.int .i64 x.sa) (.int .i64 x.rd) 192
 have HB : Hid (Below w.heap.size w W) := hb
 obtain ⟨xs, xt, xi, xm, sa, rd⟩ := x
 simp only [Tk.val] at hx c0 c1 c2 c3 c4 c5 hW |-
 have hm : (xs : Int).tmod 32 = ((xs % 32 : Nat) : Int) := by rw [Int.tmod_eq_emod_of_nonneg (by omega)]; omega
 have hn : xs % 32 < 32 := by omega
 have h : (xt : Int) * 2 ^ (xs % 32) % 4294967296 = ((xt * 2 ^ (xs % 32) % 4294967296 : Nat) : Int) := by simp
 have hH : Hid _ := h
 clear h hx hb hz
 go_enter Tryz.func176, Tryz.ntmps176
 go_wp2
 go_ret
 exact ⟨ret_u32 hH.out, HB.out⟩
set_option maxHeartbeats 1000000 in
theorem w_srlv (x : Tk) (hx : x.Ok) (w : World) : Calls Tryz.prog 177 #[x.val] w fun e w' => Told (workN 22 x) e /\ Below w.heap.size w w' := by
 obtain ⟨W, hW, hb, hz, c0, c1, c2, c3, c4, c5⟩ := box6 w (.int .u32 x.s) (.int .u32 x.t) (.int .u32 x.imm) (.int .u32 x.simm) (.int .i64 x.sa) (.int .i64 x.rd) 192
 have HB : Hid (Below w.heap.size w W) := hb
 obtain ⟨xs, xt, xi, xm, sa, rd⟩ := x
 simp only [Tk.val] at hx c0 c1 c2 c3 c4 c5 hW |-
 have hm : (xs : Int).tmod 32 = ((xs % 32 : Nat) : Int) := by rw [Int.tmod_eq_emod_of_nonneg (by omega)]; omega
 have hn : xs % 32 < 32 := by omega
 have h : (xt : Int) / 2 ^ (xs % 32) = ((xt / 2 ^ (xs % 32) : Nat) : Int) := by simp
 have hH : Hid _ := h
 clear h hx hb hz
 go_enter Tryz.func177, Tryz.ntmps177
 go_wp2
 go_ret
 exact ⟨ret_u32 hH.out, HB.out⟩
set_option maxHeartbeats 1000000 in
theorem w_wsbh (x : Tk) (hx : x.Ok) (w : World) : Calls Tryz.prog 190 #[x.val] w fun e w' => Told (workN 31 x) e /\ Below w.heap.size w w' := by
 obtain ⟨W, hW, hb, hz, c0, c1, c2, c3, c4, c5⟩ := box6 w (.int .u32 x.s) (.int .u32 x.t) (.int .u32 x.imm) (.int .u32 x.simm) (.int .i64 x.sa) (.int .i64 x.rd) 192
 have HB : Hid (Below w.heap.size w W) := hb
 obtain ⟨xs, xt, xi, xm, sa, rd⟩ := x
 simp only [Tk.val] at hx c0 c1 c2 c3 c4 c5 hW |-
 have h : bits .or .u32 (bits .and .u32 (xt : Int) 16711935 * 256 % 4294967296) (bits .and .u32 ((xt : Int) / 256) 16711935) = ((((xt &&& 16711935) * 256 % 4294967296) ||| (xt / 256 &&& 16711935) : Nat) : Int) := wsbh_is xt hx.t
 have hH : Hid _ := h
 clear h hx hb hz
 go_enter Tryz.func190, Tryz.ntmps190
 go_wp2
 go_ret
 exact ⟨ret_u32 hH.out, HB.out⟩
set_option maxHeartbeats 1000000 in
theorem w_sltu (x : Tk) (hx : x.Ok) (w : World) : Calls Tryz.prog 169 #[x.val] w fun e w' => Told (workN 14 x) e /\ Below w.heap.size w w' := by
 obtain ⟨W, hW, hb, hz, c0, c1, c2, c3, c4, c5⟩ := box6 w (.int .u32 x.s) (.int .u32 x.t) (.int .u32 x.imm) (.int .u32 x.simm) (.int .i64 x.sa) (.int .i64 x.rd) 192
 have HB : Hid (Below w.heap.size w W) := hb
 obtain ⟨xs, xt, xi, xm, sa, rd⟩ := x
 simp only [Tk.val] at hx c0 c1 c2 c3 c4 c5 hW |-
 have hd : decide ((xs : Int) < (xt : Int)) = decide (xs < xt) := by simp
 have K := truth56 (decide (xs < xt)) W
 obtain ⟨b, eb⟩ : ∃ b, decide (xs < xt) = b := ⟨_, rfl⟩
 rw [eb] at hd K
 have HR : Hid (workN 14 ⟨xs, xt, xi, xm, sa, rd⟩ = some (bitN b)) := by show _ = _; rw [<- eb]; rfl
 obtain ⟨r, hr⟩ : ∃ r, r = workN 14 ⟨xs, xt, xi, xm, sa, rd⟩ := ⟨_, rfl⟩
 rw [<- hr] at HR |-
 clear hx hb hz hr
 try simp only at HR
 go_enter Tryz.func169, Tryz.ntmps169
 go_wp2_with fail
 refine K.mono ?_
 rintro e w3 ⟨rfl, rfl⟩
 go_wp2
 go_ret
 exact ⟨by rw [HR.out]; rfl, HB.out⟩
set_option maxHeartbeats 1000000 in
theorem w_sltiu (x : Tk) (hx : x.Ok) (w : World) : Calls Tryz.prog 171 #[x.val] w fun e w' => Told (workN 16 x) e /\ Below w.heap.size w w' := by
 obtain ⟨W, hW, hb, hz, c0, c1, c2, c3, c4, c5⟩ := box6 w (.int .u32 x.s) (.int .u32 x.t) (.int .u32 x.imm) (.int .u32 x.simm) (.int .i64 x.sa) (.int .i64 x.rd) 192
 have HB : Hid (Below w.heap.size w W) := hb
 obtain ⟨xs, xt, xi, xm, sa, rd⟩ := x
 simp only [Tk.val] at hx c0 c1 c2 c3 c4 c5 hW |-
 have hd : decide ((xs : Int) < (xm : Int)) = decide (xs < xm) := by simp
 have K := truth56 (decide (xs < xm)) W
 obtain ⟨b, eb⟩ : ∃ b, decide (xs < xm) = b := ⟨_, rfl⟩
 rw [eb] at hd K
 have HR : Hid (workN 16 ⟨xs, xt, xi, xm, sa, rd⟩ = some (bitN b)) := by show _ = _; rw [<- eb]; rfl
 obtain ⟨r, hr⟩ : ∃ r, r = workN 16 ⟨xs, xt, xi, xm, sa, rd⟩ := ⟨_, rfl⟩
 rw [<- hr] at HR |-
 clear hx hb hz hr
 try simp only at HR
 go_enter Tryz.func171, Tryz.ntmps171
 go_wp2_with fail
 refine K.mono ?_
 rintro e w3 ⟨rfl, rfl⟩
 go_wp2
 go_ret
 exact ⟨by rw [HR.out]; rfl, HB.out⟩
set_option maxHeartbeats 1000000 in
theorem w_rotr (x : Tk) (hx : x.Ok) (w : World) : Calls Tryz.prog 179 #[x.val] w fun e w' => Told (workN 24 x) e /\ Below w.heap.size w w' := by
 obtain ⟨W, hW, hb, hz, c0, c1, c2, c3, c4, c5⟩ := box6 w (.int .u32 x.s) (.int .u32 x.t) (.int .u32 x.imm) (.int .u32 x.simm) (.int .i64 x.sa) (.int .i64 x.rd) 192
 have HB : Hid (Below w.heap.size w W) := hb
 obtain ⟨xs, xt, xi, xm, sa, rd⟩ := x
 simp only [Tk.val] at hx c0 c1 c2 c3 c4 c5 hW |-
 have K := Sw.rot_any xt hx.t sa W
 have HR : Hid (workN 24 ⟨xs, xt, xi, xm, sa, rd⟩ = some _) := rfl
 obtain ⟨r, hr⟩ : ∃ r, r = workN 24 ⟨xs, xt, xi, xm, sa, rd⟩ := ⟨_, rfl⟩
 rw [<- hr] at HR |-
 clear hx hb hz hr
 try simp only at HR
 go_enter Tryz.func179, Tryz.ntmps179
 go_wp2_with fail
 refine K.mono ?_
 rintro e w3 ⟨rfl, hb3⟩
 have HB3 : Hid (Below w.heap.size w w3) := below_tr HB.out hb3
 clear hb3
 go_wp2
 go_ret
 exact ⟨by rw [HR.out]; rfl, HB3.out⟩
set_option maxHeartbeats 1000000 in
theorem w_rotrv (x : Tk) (hx : x.Ok) (w : World) : Calls Tryz.prog 181 #[x.val] w fun e w' => Told (workN 25 x) e /\ Below w.heap.size w w' := by
 obtain ⟨W, hW, hb, hz, c0, c1, c2, c3, c4, c5⟩ := box6 w (.int .u32 x.s) (.int .u32 x.t) (.int .u32 x.imm) (.int .u32 x.simm) (.int .i64 x.sa) (.int .i64 x.rd) 192
 have HB : Hid (Below w.heap.size w W) := hb
 obtain ⟨xs, xt, xi, xm, sa, rd⟩ := x
 simp only [Tk.val] at hx c0 c1 c2 c3 c4 c5 hW |-
 have hm : (xs : Int).tmod 32 = ((xs % 32 : Nat) : Int) := by rw [Int.tmod_eq_emod_of_nonneg (by omega)]; omega
 have hw : wrap64 ((xs % 32 : Nat) : Int) = ((xs % 32 : Nat) : Int) := by unfold wrap64; omega
 have K := Sw.rot_any xt hx.t ((xs % 32 : Nat) : Int) W
 have HR : Hid (workN 25 ⟨xs, xt, xi, xm, sa, rd⟩ = some _) := rfl
 obtain ⟨r, hr⟩ : ∃ r, r = workN 25 ⟨xs, xt, xi, xm, sa, rd⟩ := ⟨_, rfl⟩
 rw [<- hr] at HR |-
 clear hx hb hz hr
 try simp only at HR
 go_enter Tryz.func181, Tryz.ntmps181
 go_wp2_with fail
 refine K.mono ?_
 rintro e w3 ⟨rfl, hb3⟩
 have HB3 : Hid (Below w.heap.size w w3) := below_tr HB.out hb3
 clear hb3
 go_wp2
 go_ret
 exact ⟨by rw [HR.out]; rfl, HB3.out⟩
set_option maxHeartbeats 1000000 in
theorem w_clz (x : Tk) (hx : x.Ok) (w : World) : Calls Tryz.prog 183 #[x.val] w fun e w' => Told (workN 27 x) e /\ Below w.heap.size w w' := by
 obtain ⟨W, hW, hb, hz, c0, c1, c2, c3, c4, c5⟩ := box6 w (.int .u32 x.s) (.int .u32 x.t) (.int .u32 x.imm) (.int .u32 x.simm) (.int .i64 x.sa) (.int .i64 x.rd) 192
 have HB : Hid (Below w.heap.size w W) := hb
 obtain ⟨xs, xt, xi, xm, sa, rd⟩ := x
 simp only [Tk.val] at hx c0 c1 c2 c3 c4 c5 hW |-
 have K := leading72 xs 0 hx.s (by decide) W
 have HR : Hid (workN 27 ⟨xs, xt, xi, xm, sa, rd⟩ = some _) := rfl
 obtain ⟨r, hr⟩ : ∃ r, r = workN 27 ⟨xs, xt, xi, xm, sa, rd⟩ := ⟨_, rfl⟩
 rw [<- hr] at HR |-
 clear hx hb hz hr
 try simp only at HR
 go_enter Tryz.func183, Tryz.ntmps183
 go_wp2_with fail
 refine K.mono ?_
 rintro e w3 ⟨rfl, hb3⟩
 have HB3 : Hid (Below w.heap.size w w3) := below_tr HB.out hb3
 clear hb3
 go_wp2
 go_ret
 exact ⟨by rw [HR.out]; rfl, HB3.out⟩
set_option maxHeartbeats 1000000 in
theorem w_clo (x : Tk) (hx : x.Ok) (w : World) : Calls Tryz.prog 185 #[x.val] w fun e w' => Told (workN 28 x) e /\ Below w.heap.size w w' := by
 obtain ⟨W, hW, hb, hz, c0, c1, c2, c3, c4, c5⟩ := box6 w (.int .u32 x.s) (.int .u32 x.t) (.int .u32 x.imm) (.int .u32 x.simm) (.int .i64 x.sa) (.int .i64 x.rd) 192
 have HB : Hid (Below w.heap.size w W) := hb
 obtain ⟨xs, xt, xi, xm, sa, rd⟩ := x
 simp only [Tk.val] at hx c0 c1 c2 c3 c4 c5 hW |-
 have K := leading72 xs 1 hx.s (by decide) W
 have HR : Hid (workN 28 ⟨xs, xt, xi, xm, sa, rd⟩ = some _) := rfl
 obtain ⟨r, hr⟩ : ∃ r, r = workN 28 ⟨xs, xt, xi, xm, sa, rd⟩ := ⟨_, rfl⟩
 rw [<- hr] at HR |-
 clear hx hb hz hr
 try simp only at HR
 go_enter Tryz.func185, Tryz.ntmps185
 go_wp2_with fail
 refine K.mono ?_
 rintro e w3 ⟨rfl, hb3⟩
 have HB3 : Hid (Below w.heap.size w w3) := below_tr HB.out hb3
 clear hb3
 go_wp2
 go_ret
 exact ⟨by rw [HR.out]; rfl, HB3.out⟩
set_option maxHeartbeats 1000000 in
theorem w_seb (x : Tk) (hx : x.Ok) (w : World) : Calls Tryz.prog 191 #[x.val] w fun e w' => Told (workN 32 x) e /\ Below w.heap.size w w' := by
 obtain ⟨W, hW, hb, hz, c0, c1, c2, c3, c4, c5⟩ := box6 w (.int .u32 x.s) (.int .u32 x.t) (.int .u32 x.imm) (.int .u32 x.simm) (.int .i64 x.sa) (.int .i64 x.rd) 192
 have HB : Hid (Below w.heap.size w W) := hb
 obtain ⟨xs, xt, xi, xm, sa, rd⟩ := x
 simp only [Tk.val] at hx c0 c1 c2 c3 c4 c5 hW |-
 have K := Sw.sext_any xt 8 W
 have HR : Hid (workN 32 ⟨xs, xt, xi, xm, sa, rd⟩ = some _) := rfl
 obtain ⟨r, hr⟩ : ∃ r, r = workN 32 ⟨xs, xt, xi, xm, sa, rd⟩ := ⟨_, rfl⟩
 rw [<- hr] at HR |-
 clear hx hb hz hr
 try simp only at HR
 go_enter Tryz.func191, Tryz.ntmps191
 go_wp2_with fail
 refine K.mono ?_
 rintro e w3 ⟨rfl, rfl⟩
 go_wp2
 go_ret
 exact ⟨by rw [HR.out]; rfl, HB.out⟩
set_option maxHeartbeats 1000000 in
theorem w_seh (x : Tk) (hx : x.Ok) (w : World) : Calls Tryz.prog 192 #[x.val] w fun e w' => Told (workN 33 x) e /\ Below w.heap.size w w' := by
 obtain ⟨W, hW, hb, hz, c0, c1, c2, c3, c4, c5⟩ := box6 w (.int .u32 x.s) (.int .u32 x.t) (.int .u32 x.imm) (.int .u32 x.simm) (.int .i64 x.sa) (.int .i64 x.rd) 192
 have HB : Hid (Below w.heap.size w W) := hb
 obtain ⟨xs, xt, xi, xm, sa, rd⟩ := x
 simp only [Tk.val] at hx c0 c1 c2 c3 c4 c5 hW |-
 have K := Sw.sext_any xt 16 W
 have HR : Hid (workN 33 ⟨xs, xt, xi, xm, sa, rd⟩ = some _) := rfl
 obtain ⟨r, hr⟩ : ∃ r, r = workN 33 ⟨xs, xt, xi, xm, sa, rd⟩ := ⟨_, rfl⟩
 rw [<- hr] at HR |-
 clear hx hb hz hr
 try simp only at HR
 go_enter Tryz.func192, Tryz.ntmps192
 go_wp2_with fail
 refine K.mono ?_
 rintro e w3 ⟨rfl, rfl⟩
 go_wp2
 go_ret
 exact ⟨by rw [HR.out]; rfl, HB.out⟩
end Go.Proofs.YtimfipkbddpdmaaGreatDoor
