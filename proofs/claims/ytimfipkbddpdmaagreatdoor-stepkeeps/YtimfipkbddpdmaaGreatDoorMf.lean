import Derived.Test.YtimfipkbddpdmaaGreatDoorMd
import Derived.BigQuiet
import Derived.Deep.QuietTactic
set_option linter.unusedVariables false
set_option linter.unusedSimpArgs false
set_option maxRecDepth 100000
open Go Go.RowKit
namespace Go.Proofs.YtimfipkbddpdmaaGreatDoor
def rg (c : Cp) (k : Int) : Nat := c.r.getD k.toNat 0
def Cp.cells (c : Cp) : List Value := c.regs ++ c.tail
def Cb (c : Cp) (b : Nat) (w : World) : Prop := w.heap[b]? = some (.cells c.cells.toArray 25 (0, 0))
theorem Cb.lt {c : Cp} {b : Nat} {w : World} (h : Cb c b w) : b < w.heap.size := (Array.getElem?_eq_some_iff.1 h).1
theorem Cb.keep {c : Cp} {b : Nat} {w w' : World} (h : Cb c b w) (hb : Below w.heap.size w w') : Cb c b w' := (hb.block b h.lt).trans h
theorem Cb.reg {c : Cp} {b : Nat} {w : World} (h : Cb c b w) (k : Nat) (hk : k < c.r.length) : w.cell? ⟨b, k, none⟩ = some (.int .u32 (c.r[k] : Int)) := by
 have h' : w.heap[b]? = _ := h
 have e : c.cells[k]? = some (.int .u32 (c.r[k] : Int)) := by
  unfold Cp.cells Cp.regs
  rw [List.getElem?_append_left (by simpa using hk), List.getElem?_map, List.getElem?_eq_getElem hk]
  rfl
 simp [World.cell?, h', e]
theorem Cb.fields {c : Cp} {b : Nat} {w : World} (h : Cb c b w) (hl : c.r.length = 32) : w.cell? ⟨b, 34, none⟩ = some (.int .u32 c.pc) := by
 have h' : w.heap[b]? = _ := h
 have e : c.cells[34]? = some (.int .u32 c.pc) := by
  unfold Cp.cells
  rw [List.getElem?_append_right (by unfold Cp.regs; simp [hl])]
  unfold Cp.regs Cp.tail
  simp [hl]
 simp [World.cell?, h', e]
def Fr3 (w : World) (n : Nat) : Prop := Free w ⟨n, 0, none⟩ /\ Free w ⟨n, 1, none⟩ /\ Free w ⟨n, 2, none⟩
theorem Fr3.keep {w w' : World} {n : Nat} (h : Fr3 w n) (hb : Below w.heap.size w w') : Fr3 w' n := ⟨h.1.keep hb, h.2.1.keep hb, h.2.2.keep hb⟩
theorem boxT (w : World) (a b c d e f : Value) (C : Array Value) (x y z : Value) (s t u : Nat) : ∃ W, ((w.alloc (.cells #[a, b, c, d, e, f] s)).alloc (.cells C t)).alloc (.cells #[x, y, z] u) = W /\ Below w.heap.size w W /\ W.heap.size = w.heap.size + 3 /\
  (W.cell? ⟨w.heap.size, 0, none⟩ = some a /\ W.cell? ⟨w.heap.size, 1, none⟩ = some b /\ W.cell? ⟨w.heap.size, 2, none⟩ = some c /\ W.cell? ⟨w.heap.size, 3, none⟩ = some d /\ W.cell? ⟨w.heap.size, 4, none⟩ = some e /\ W.cell? ⟨w.heap.size, 5, none⟩ = some f) /\
  W.heap[w.heap.size + 1]? = some (.cells C t (0, 0)) /\ Fr3 W (w.heap.size + 1 + 1) := by
 have hz : w.heap.size + 1 = (w.alloc (.cells #[a, b, c, d, e, f] s)).heap.size := by simp
 have hz2 : w.heap.size + 1 + 1 = ((w.alloc (.cells #[a, b, c, d, e, f] s)).alloc (.cells C t)).heap.size := by simp
 refine ⟨_, rfl, (((Below.refl _ _).alloc (Nat.le_refl _) _).alloc (by simp) _).alloc (by simp only [World.size_alloc]; omega) _, by simp, ⟨?_, ?_, ?_, ?_, ?_, ?_⟩, ?_, ⟨⟨x, ?_⟩, ?_⟩, ⟨⟨y, ?_⟩, ?_⟩, ⟨⟨z, ?_⟩, ?_⟩⟩
 case refine_7 =>
  rw [show ((w.alloc (.cells #[a, b, c, d, e, f] s)).alloc (.cells C t)).alloc (.cells #[x, y, z] u) = _ from rfl]
  exact (heap_alloc_old _ _ (by simp)).trans (heap_alloc2_new w _ _)
 all_goals first | exact cell_old (cell_old (cell_newA w _ _ _ _ _ rfl rfl) _) _ | exact cell_newA _ _ _ _ _ _ hz2 rfl | (rw [World.frozen?_alloc_at _ _ _ _ hz2])
theorem res3 (w : World) (n : Nat) (x0 x1 x2 : Value) (h : Fr3 w n) :
  let W := ((w.setCell ⟨n, 0, none⟩ x0).setCell ⟨n, 1, none⟩ x1).setCell ⟨n, 2, none⟩ x2
  W.cell? ⟨n, 0, none⟩ = some x0 /\ W.cell? ⟨n, 1, none⟩ = some x1 /\ W.cell? ⟨n, 2, none⟩ = some x2 := by
 obtain ⟨f0, f1, f2⟩ := h
 refine ⟨?_, ?_, ?_⟩
 ·rw [World.cell?_setCell_other _ _ _ _ (by simp), World.cell?_setCell_other _ _ _ _ (by simp)]; exact World.cell?_setCell_same _ _ _ f0.cell
 ·rw [World.cell?_setCell_other _ _ _ _ (by simp)]; exact World.cell?_setCell_same _ _ _ (f1.set _ _).cell
 ·exact World.cell?_setCell_same _ _ _ ((f2.set _ _).set _ _).cell
theorem below3 {B : Nat} {w0 w : World} {n : Nat} (h : Below B w0 w) (hn : B <= n) (x0 x1 x2 : Value) : Below B w0 (((w.setCell ⟨n, 0, none⟩ x0).setCell ⟨n, 1, none⟩ x1).setCell ⟨n, 2, none⟩ x2) :=
 ((h.setCell hn _).setCell hn _).setCell hn _
theorem far_key (p m : Nat) (hp : p < 4294967296) (hm : m < 67108864) : bits .or .u32 (bits .andNot .u32 (p : Int) 268435455) ((m : Int) * 4) = ((p / 268435456 * 268435456 + m * 4 : Nat) : Int) := by
 have e1 : bits .andNot .u32 (p : Int) ((268435455 : Nat) : Int) = ((p &&& (4294967295 - 268435455) : Nat) : Int) := u32_andNot_nat p 268435455 hp (by decide)
 have e2 : p &&& (4294967295 - 268435455) = p / 2 ^ 28 * 2 ^ 28 := by
  rw [show 4294967295 - 268435455 = (2 ^ 4 - 1) * 2 ^ 28 by decide]
  refine Nat.eq_of_testBit_eq fun i => ?_
  rw [Nat.testBit_and, Nat.testBit_mul_two_pow, Nat.testBit_mul_two_pow, Nat.testBit_two_pow_sub_one, Nat.testBit_div_two_pow]
  by_cases h : 28 <= i
  ·by_cases h2 : i - 28 < 4
   ·rw [show i - 28 + 28 = i by omega]; simp [h, h2]
   ·rw [show i - 28 + 28 = i by omega, Nat.testBit_lt_two_pow (Nat.lt_of_lt_of_le hp (Nat.pow_le_pow_right (show 2 > 0 by decide) (show 32 <= i by omega)))]; simp
  ·simp [h]
 have e3 : (p / 2 ^ 28 * 2 ^ 28 ||| m * 4) = p / 2 ^ 28 * 2 ^ 28 + m * 4 := by
  rw [Nat.mul_comm]
  exact (Nat.two_pow_add_eq_or_of_lt (show m * 4 < 2 ^ 28 by omega) _).symm
 have e4 : p / 2 ^ 28 * 2 ^ 28 < 4294967296 := by rw [show (2 : Nat) ^ 28 = 268435456 by decide]; omega
 rw [show (268435455 : Int) = ((268435455 : Nat) : Int) from rfl, e1, e2, show ((m : Int) * 4) = ((m * 4 : Nat) : Int) by omega, u32_or_nat _ _ e4 (by omega), e3]
def wayB (n : List UInt8) (s t far near rd : Nat) : Option Wy :=
 if n == [106] then some ⟨far, true, 0⟩
 else if n == [106, 97, 108] then some ⟨far, true, 31⟩
 else if n == [106, 114] then some ⟨s, true, 0⟩
 else if n == [106, 97, 108, 114] then some ⟨s, true, rd⟩
 else if n == [98, 101, 113] then some ⟨near, s == t, 0⟩
 else if n == [98, 110, 101] then some ⟨near, s != t, 0⟩
 else if n == [98, 108, 101, 122] then some ⟨near, decide (sg s <= 0), 0⟩
 else if n == [98, 103, 116, 122] then some ⟨near, decide (0 < sg s), 0⟩
 else if n == [98, 108, 116, 122] then some ⟨near, decide (sg s < 0), 0⟩
 else if n == [98, 103, 101, 122] then some ⟨near, decide (0 <= sg s), 0⟩
 else if n == [98, 108, 116, 122, 97, 108] then some ⟨near, decide (sg s < 0), 31⟩
 else if n == [98, 103, 101, 122, 97, 108] then some ⟨near, decide (0 <= sg s), 31⟩
 else none
def farN (i : In) (c : Cp) : Nat := (c.pc + 4) % 4294967296 / 268435456 * 268435456 + i.imm * 4
def nearN (i : In) (c : Cp) : Nat := ((c.pc + 4) % 4294967296 + simN i * 4) % 4294967296
def wayN (i : In) (c : Cp) : Option Wy := wayB i.name.toList (rg c i.rs) (rg c i.rt) (farN i c) (nearN i c) i.rd.toNat
theorem drewN_below (w : World) : ∀ n, Below w.heap.size w (w.drewN n)
 | 0 => Below.refl _ _
 | n + 1 => by exact ⟨rfl, rfl, rfl, Nat.le_refl _, fun _ _ => rfl⟩
set_option maxHeartbeats 4000000 in
theorem turnOf58 (i : In) (c : Cp) (hc : c.Ok) (hrs : 0 <= i.rs /\ i.rs < 32) (hrt : 0 <= i.rt /\ i.rt < 32) (hrd : 0 <= i.rd /\ i.rd < 32) (hi : i.imm < 67108864) (w : World) :
  Calls Tryz.prog 58 #[i.val, .agg c.cells.toArray] w fun e w' => e = .returned (.tuple #[((wayN i c).getD ⟨0, false, 0⟩).val, .bool (wayN i c).isSome]) /\ Below w.heap.size w w' := by
 have K79 := simm79 i
 have HZ : Hid (wayN i c = wayB i.name.toList (rg c i.rs) (rg c i.rt) (farN i c) (nearN i c) i.rd.toNat) := rfl
 have hfar : farN i c = (c.pc + 4) % 4294967296 / 268435456 * 268435456 + i.imm * 4 := rfl
 have hnear : nearN i c = ((c.pc + 4) % 4294967296 + simN i * 4) % 4294967296 := rfl
 have hsm : simN i < 4294967296 := sext16_lt _
 generalize wayN i c = Z at HZ |-
 generalize farN i c = FAR at HZ hfar
 generalize nearN i c = NEAR at HZ hnear
 generalize simN i = SM at K79 hnear hsm
 obtain ⟨name, rs, rt, rd, sa, imm⟩ := i
 simp only at hrs hrt hrd hi HZ hfar
 obtain ⟨ks, rfl⟩ := Int.eq_ofNat_of_zero_le hrs.1
 obtain ⟨kt, rfl⟩ := Int.eq_ofNat_of_zero_le hrt.1
 obtain ⟨kd, rfl⟩ := Int.eq_ofNat_of_zero_le hrd.1
 have lks : ks < c.r.length := by rw [hc.len]; omega
 have lkt : kt < c.r.length := by rw [hc.len]; omega
 have es : rg c (ks : Int) = c.r[ks] := by unfold rg; rw [show ((ks : Int)).toNat = ks from rfl, List.getD_eq_getElem?_getD, List.getElem?_eq_getElem lks]; rfl
 have et : rg c (kt : Int) = c.r[kt] := by unfold rg; rw [show ((kt : Int)).toNat = kt from rfl, List.getD_eq_getElem?_getD, List.getElem?_eq_getElem lkt]; rfl
 rw [es, et, show ((kd : Int)).toNat = kd from rfl] at HZ
 have l1 := hc.all _ (List.getElem_mem lks)
 have l2 := hc.all _ (List.getElem_mem lkt)
 obtain ⟨W, hW, hb, hz, ⟨d0, d1, d2, d3, d4, d5⟩, hcb, hfr⟩ := boxT w (.string name) (.int .i64 ks) (.int .i64 kt) (.int .i64 kd) (.int .i64 sa) (.int .u32 imm) c.cells.toArray (.int .u32 0) (.bool false) (.int .i64 0) 55 25 114
 have hcb' : Cb c (w.heap.size + 1) W := hcb
 have r1 := hcb'.reg ks lks
 have r2 := hcb'.reg kt lkt
 have r3 := hcb'.fields hc.len
 generalize c.r[ks] = S at HZ l1 r1
 generalize c.r[kt] = T at HZ l2 r2
 have lpc := hc.pc
 generalize c.pc = PC at r3 hfar hnear lpc
 obtain ⟨SL, hSL⟩ : ∃ n, n = (PC + 4) % 4294967296 := ⟨_, rfl⟩
 rw [<- hSL] at hfar hnear
 have eSL : IntKind.u32.wrap ((PC : Int) + 4) = (SL : Int) := by rw [IntKind.wrap_u32]; omega
 have eSL2 : ((PC : Int) + 4) % 4294967296 = (SL : Int) := by omega
 have lSL : SL < 4294967296 := by omega
 have eF := far_key SL imm lSL hi
 rw [<- hfar] at eF
 have eF1 : ((imm : Int) * 4) % 4294967296 = (imm : Int) * 4 := by omega
 have eF2 : IntKind.u32.wrap ((imm : Int) * 4) = (imm : Int) * 4 := by rw [IntKind.wrap_u32]; omega
 have eN0 : IntKind.u32.wrap ((SL : Int) + ((SM : Int) * 4) % 4294967296) = (NEAR : Int) := by rw [IntKind.wrap_u32]; omega
 have eN1 : ((SL : Int) + ((SM : Int) * 4) % 4294967296) % 4294967296 = (NEAR : Int) := by omega
 have eN2 : ((SL : Int) + (SM : Int) * 4) % 4294967296 = (NEAR : Int) := by omega
 have eS := sg_wrap S l1
 have HSE : Hid (((S : Int) == (T : Int)) = (S == T)) := eq_cast S T
 have HB : Hid (Below w.heap.size w W /\ Fr3 W (w.heap.size + 1 + 1)) := ⟨hb, hfr⟩
 have hks : (ks : Int) < 32 := hrs.2
 have hkt : (kt : Int) < 32 := hrt.2
 generalize c.cells.toArray = CA at hW
 have K79 : Hid _ := K79
 have HK : Hid (∀ w1, Below W.heap.size W w1 -> w1.cell? ⟨w.heap.size, 0, none⟩ = some (.string name) /\ w1.cell? ⟨w.heap.size, 3, none⟩ = some (.int .i64 kd) /\ Fr3 w1 (w.heap.size + 1 + 1) /\ Below w.heap.size w w1) := fun w1 h => ⟨keep_cell h d0, keep_cell h d3, hfr.keep h, below_tr hb h⟩
 unfold In.val at K79 |-
 clear hb hz hcb hcb' hfr hc lks lkt es et hrs hrt hrd hSL hfar hnear lpc hi hsm
 go_enter Tryz.func58, Tryz.ntmps58
 go_wp2
 go_quiet (fail)
 go_wp2_with fail
 refine (K79.out _).mono ?_
 rintro e w1 ⟨rfl, hb1⟩
 have hb1 : Below W.heap.size W w1 := below_tr (drewN_below W _) hb1
 obtain ⟨q0, q3, hf3, hbw⟩ := HK.out w1 hb1
 have a0 := hf3.1.cell
 have a1 := hf3.2.1.cell
 have a2 := hf3.2.2.cell
 have z0 := hf3.1.frozen
 have z1 := hf3.2.1.frozen
 have z2 := hf3.2.2.frozen
 clear hb1 K79 HK HB
 by_cases h0 : (name.toList == [106]) = true
 ·have hZ : Z = some ⟨FAR, true, 0⟩ := by rw [HZ.out, wayB, if_pos h0]
  subst hZ
  have hres := res3 w1 (w.heap.size + 1 + 1) (.int .u32 FAR) (.bool true) (.int .i64 0) hf3
  simp only at hres
  have HBE := below3 (n := w.heap.size + 1 + 1) hbw (by omega) (.int .u32 FAR) (.bool true) (.int .i64 0)
  obtain ⟨W9, hW9⟩ : ∃ z, ((w1.setCell ⟨w.heap.size + 1 + 1, 0, none⟩ (.int .u32 FAR)).setCell ⟨w.heap.size + 1 + 1, 1, none⟩ (.bool true)).setCell ⟨w.heap.size + 1 + 1, 2, none⟩ (.int .i64 0) = z := ⟨_, rfl⟩
  rw [hW9] at hres HBE
  obtain ⟨s0, s1, s2⟩ := hres
  have HBE : Hid _ := HBE
  go_wp2
  refine bodyPost_ret (v := .tuple #[.agg #[.int .u32 FAR, .bool true, .int .i64 0], .bool true]) ?_ rfl ⟨rfl, HBE.out⟩
  rw [results_cell_tmp rfl]; simp [go_sem, s0, s1, s2]
 by_cases h1 : (name.toList == [106, 97, 108]) = true
 ·have hZ : Z = some ⟨FAR, true, 31⟩ := by rw [HZ.out, wayB, if_neg h0, if_pos h1]
  subst hZ
  rw [Bool.not_eq_true] at h0
  have hres := res3 w1 (w.heap.size + 1 + 1) (.int .u32 FAR) (.bool true) (.int .i64 31) hf3
  simp only at hres
  have HBE := below3 (n := w.heap.size + 1 + 1) hbw (by omega) (.int .u32 FAR) (.bool true) (.int .i64 31)
  obtain ⟨W9, hW9⟩ : ∃ z, ((w1.setCell ⟨w.heap.size + 1 + 1, 0, none⟩ (.int .u32 FAR)).setCell ⟨w.heap.size + 1 + 1, 1, none⟩ (.bool true)).setCell ⟨w.heap.size + 1 + 1, 2, none⟩ (.int .i64 31) = z := ⟨_, rfl⟩
  rw [hW9] at hres HBE
  obtain ⟨s0, s1, s2⟩ := hres
  have HBE : Hid _ := HBE
  go_wp2
  refine bodyPost_ret (v := .tuple #[.agg #[.int .u32 FAR, .bool true, .int .i64 31], .bool true]) ?_ rfl ⟨rfl, HBE.out⟩
  rw [results_cell_tmp rfl]; simp [go_sem, s0, s1, s2]
 by_cases h2 : (name.toList == [106, 114]) = true
 ·have hZ : Z = some ⟨S, true, 0⟩ := by rw [HZ.out, wayB, if_neg h0, if_neg h1, if_pos h2]
  subst hZ
  rw [Bool.not_eq_true] at h0
  rw [Bool.not_eq_true] at h1
  have hres := res3 w1 (w.heap.size + 1 + 1) (.int .u32 S) (.bool true) (.int .i64 0) hf3
  simp only at hres
  have HBE := below3 (n := w.heap.size + 1 + 1) hbw (by omega) (.int .u32 S) (.bool true) (.int .i64 0)
  obtain ⟨W9, hW9⟩ : ∃ z, ((w1.setCell ⟨w.heap.size + 1 + 1, 0, none⟩ (.int .u32 S)).setCell ⟨w.heap.size + 1 + 1, 1, none⟩ (.bool true)).setCell ⟨w.heap.size + 1 + 1, 2, none⟩ (.int .i64 0) = z := ⟨_, rfl⟩
  rw [hW9] at hres HBE
  obtain ⟨s0, s1, s2⟩ := hres
  have HBE : Hid _ := HBE
  go_wp2
  refine bodyPost_ret (v := .tuple #[.agg #[.int .u32 S, .bool true, .int .i64 0], .bool true]) ?_ rfl ⟨rfl, HBE.out⟩
  rw [results_cell_tmp rfl]; simp [go_sem, s0, s1, s2]
 by_cases h3 : (name.toList == [106, 97, 108, 114]) = true
 ·have hZ : Z = some ⟨S, true, kd⟩ := by rw [HZ.out, wayB, if_neg h0, if_neg h1, if_neg h2, if_pos h3]
  subst hZ
  rw [Bool.not_eq_true] at h0
  rw [Bool.not_eq_true] at h1
  rw [Bool.not_eq_true] at h2
  have hres := res3 w1 (w.heap.size + 1 + 1) (.int .u32 S) (.bool true) (.int .i64 kd) hf3
  simp only at hres
  have HBE := below3 (n := w.heap.size + 1 + 1) hbw (by omega) (.int .u32 S) (.bool true) (.int .i64 kd)
  obtain ⟨W9, hW9⟩ : ∃ z, ((w1.setCell ⟨w.heap.size + 1 + 1, 0, none⟩ (.int .u32 S)).setCell ⟨w.heap.size + 1 + 1, 1, none⟩ (.bool true)).setCell ⟨w.heap.size + 1 + 1, 2, none⟩ (.int .i64 kd) = z := ⟨_, rfl⟩
  rw [hW9] at hres HBE
  obtain ⟨s0, s1, s2⟩ := hres
  have HBE : Hid _ := HBE
  go_wp2
  refine bodyPost_ret (v := .tuple #[.agg #[.int .u32 S, .bool true, .int .i64 kd], .bool true]) ?_ rfl ⟨rfl, HBE.out⟩
  rw [results_cell_tmp rfl]; simp [go_sem, s0, s1, s2]
 by_cases h4 : (name.toList == [98, 101, 113]) = true
 ·have hZ : Z = some ⟨NEAR, (S == T), 0⟩ := by rw [HZ.out, wayB, if_neg h0, if_neg h1, if_neg h2, if_neg h3, if_pos h4]
  obtain ⟨BB, hBB⟩ : ∃ x, x = (S == T) := ⟨_, rfl⟩
  rw [<- hBB] at hZ
  subst hZ
  rw [Bool.not_eq_true] at h0
  rw [Bool.not_eq_true] at h1
  rw [Bool.not_eq_true] at h2
  rw [Bool.not_eq_true] at h3
  have hse := HSE.out
  have hse' : ((S : Int) == (T : Int)) = BB := by rw [hBB]; exact hse
  clear hse hBB
  have hres := res3 w1 (w.heap.size + 1 + 1) (.int .u32 NEAR) (.bool BB) (.int .i64 0) hf3
  simp only at hres
  have HBE := below3 (n := w.heap.size + 1 + 1) hbw (by omega) (.int .u32 NEAR) (.bool BB) (.int .i64 0)
  obtain ⟨W9, hW9⟩ : ∃ z, ((w1.setCell ⟨w.heap.size + 1 + 1, 0, none⟩ (.int .u32 NEAR)).setCell ⟨w.heap.size + 1 + 1, 1, none⟩ (.bool BB)).setCell ⟨w.heap.size + 1 + 1, 2, none⟩ (.int .i64 0) = z := ⟨_, rfl⟩
  rw [hW9] at hres HBE
  obtain ⟨s0, s1, s2⟩ := hres
  have HBE : Hid _ := HBE
  go_wp2
  refine bodyPost_ret (v := .tuple #[.agg #[.int .u32 NEAR, .bool BB, .int .i64 0], .bool true]) ?_ rfl ⟨rfl, HBE.out⟩
  rw [results_cell_tmp rfl]; simp [go_sem, s0, s1, s2]
 by_cases h5 : (name.toList == [98, 110, 101]) = true
 ·have hZ : Z = some ⟨NEAR, (S != T), 0⟩ := by rw [HZ.out, wayB, if_neg h0, if_neg h1, if_neg h2, if_neg h3, if_neg h4, if_pos h5]
  obtain ⟨BB, hBB⟩ : ∃ x, x = (S != T) := ⟨_, rfl⟩
  rw [<- hBB] at hZ
  subst hZ
  rw [Bool.not_eq_true] at h0
  rw [Bool.not_eq_true] at h1
  rw [Bool.not_eq_true] at h2
  rw [Bool.not_eq_true] at h3
  rw [Bool.not_eq_true] at h4
  have hse := HSE.out
  have hse' : ((S : Int) != (T : Int)) = BB := by rw [hBB]; show (!((S : Int) == (T : Int))) = !(S == T); rw [hse]
  clear hse hBB
  have hres := res3 w1 (w.heap.size + 1 + 1) (.int .u32 NEAR) (.bool BB) (.int .i64 0) hf3
  simp only at hres
  have HBE := below3 (n := w.heap.size + 1 + 1) hbw (by omega) (.int .u32 NEAR) (.bool BB) (.int .i64 0)
  obtain ⟨W9, hW9⟩ : ∃ z, ((w1.setCell ⟨w.heap.size + 1 + 1, 0, none⟩ (.int .u32 NEAR)).setCell ⟨w.heap.size + 1 + 1, 1, none⟩ (.bool BB)).setCell ⟨w.heap.size + 1 + 1, 2, none⟩ (.int .i64 0) = z := ⟨_, rfl⟩
  rw [hW9] at hres HBE
  obtain ⟨s0, s1, s2⟩ := hres
  have HBE : Hid _ := HBE
  go_wp2
  refine bodyPost_ret (v := .tuple #[.agg #[.int .u32 NEAR, .bool BB, .int .i64 0], .bool true]) ?_ rfl ⟨rfl, HBE.out⟩
  rw [results_cell_tmp rfl]; simp [go_sem, s0, s1, s2]
 by_cases h6 : (name.toList == [98, 108, 101, 122]) = true
 ·have hZ : Z = some ⟨NEAR, (decide (sg S <= 0)), 0⟩ := by rw [HZ.out, wayB, if_neg h0, if_neg h1, if_neg h2, if_neg h3, if_neg h4, if_neg h5, if_pos h6]
  subst hZ
  rw [Bool.not_eq_true] at h0
  rw [Bool.not_eq_true] at h1
  rw [Bool.not_eq_true] at h2
  rw [Bool.not_eq_true] at h3
  rw [Bool.not_eq_true] at h4
  rw [Bool.not_eq_true] at h5
  have hres := res3 w1 (w.heap.size + 1 + 1) (.int .u32 NEAR) (.bool (decide (sg S <= 0))) (.int .i64 0) hf3
  simp only at hres
  have HBE := below3 (n := w.heap.size + 1 + 1) hbw (by omega) (.int .u32 NEAR) (.bool (decide (sg S <= 0))) (.int .i64 0)
  obtain ⟨W9, hW9⟩ : ∃ z, ((w1.setCell ⟨w.heap.size + 1 + 1, 0, none⟩ (.int .u32 NEAR)).setCell ⟨w.heap.size + 1 + 1, 1, none⟩ (.bool (decide (sg S <= 0)))).setCell ⟨w.heap.size + 1 + 1, 2, none⟩ (.int .i64 0) = z := ⟨_, rfl⟩
  rw [hW9] at hres HBE
  obtain ⟨s0, s1, s2⟩ := hres
  have HBE : Hid _ := HBE
  go_wp2
  refine bodyPost_ret (v := .tuple #[.agg #[.int .u32 NEAR, .bool (decide (sg S <= 0)), .int .i64 0], .bool true]) ?_ rfl ⟨rfl, HBE.out⟩
  rw [results_cell_tmp rfl]; simp [go_sem, s0, s1, s2]
 by_cases h7 : (name.toList == [98, 103, 116, 122]) = true
 ·have hZ : Z = some ⟨NEAR, (decide (0 < sg S)), 0⟩ := by rw [HZ.out, wayB, if_neg h0, if_neg h1, if_neg h2, if_neg h3, if_neg h4, if_neg h5, if_neg h6, if_pos h7]
  subst hZ
  rw [Bool.not_eq_true] at h0
  rw [Bool.not_eq_true] at h1
  rw [Bool.not_eq_true] at h2
  rw [Bool.not_eq_true] at h3
  rw [Bool.not_eq_true] at h4
  rw [Bool.not_eq_true] at h5
  rw [Bool.not_eq_true] at h6
  have hres := res3 w1 (w.heap.size + 1 + 1) (.int .u32 NEAR) (.bool (decide (0 < sg S))) (.int .i64 0) hf3
  simp only at hres
  have HBE := below3 (n := w.heap.size + 1 + 1) hbw (by omega) (.int .u32 NEAR) (.bool (decide (0 < sg S))) (.int .i64 0)
  obtain ⟨W9, hW9⟩ : ∃ z, ((w1.setCell ⟨w.heap.size + 1 + 1, 0, none⟩ (.int .u32 NEAR)).setCell ⟨w.heap.size + 1 + 1, 1, none⟩ (.bool (decide (0 < sg S)))).setCell ⟨w.heap.size + 1 + 1, 2, none⟩ (.int .i64 0) = z := ⟨_, rfl⟩
  rw [hW9] at hres HBE
  obtain ⟨s0, s1, s2⟩ := hres
  have HBE : Hid _ := HBE
  go_wp2
  refine bodyPost_ret (v := .tuple #[.agg #[.int .u32 NEAR, .bool (decide (0 < sg S)), .int .i64 0], .bool true]) ?_ rfl ⟨rfl, HBE.out⟩
  rw [results_cell_tmp rfl]; simp [go_sem, s0, s1, s2]
 by_cases h8 : (name.toList == [98, 108, 116, 122]) = true
 ·have hZ : Z = some ⟨NEAR, (decide (sg S < 0)), 0⟩ := by rw [HZ.out, wayB, if_neg h0, if_neg h1, if_neg h2, if_neg h3, if_neg h4, if_neg h5, if_neg h6, if_neg h7, if_pos h8]
  subst hZ
  rw [Bool.not_eq_true] at h0
  rw [Bool.not_eq_true] at h1
  rw [Bool.not_eq_true] at h2
  rw [Bool.not_eq_true] at h3
  rw [Bool.not_eq_true] at h4
  rw [Bool.not_eq_true] at h5
  rw [Bool.not_eq_true] at h6
  rw [Bool.not_eq_true] at h7
  have hres := res3 w1 (w.heap.size + 1 + 1) (.int .u32 NEAR) (.bool (decide (sg S < 0))) (.int .i64 0) hf3
  simp only at hres
  have HBE := below3 (n := w.heap.size + 1 + 1) hbw (by omega) (.int .u32 NEAR) (.bool (decide (sg S < 0))) (.int .i64 0)
  obtain ⟨W9, hW9⟩ : ∃ z, ((w1.setCell ⟨w.heap.size + 1 + 1, 0, none⟩ (.int .u32 NEAR)).setCell ⟨w.heap.size + 1 + 1, 1, none⟩ (.bool (decide (sg S < 0)))).setCell ⟨w.heap.size + 1 + 1, 2, none⟩ (.int .i64 0) = z := ⟨_, rfl⟩
  rw [hW9] at hres HBE
  obtain ⟨s0, s1, s2⟩ := hres
  have HBE : Hid _ := HBE
  go_wp2
  refine bodyPost_ret (v := .tuple #[.agg #[.int .u32 NEAR, .bool (decide (sg S < 0)), .int .i64 0], .bool true]) ?_ rfl ⟨rfl, HBE.out⟩
  rw [results_cell_tmp rfl]; simp [go_sem, s0, s1, s2]
 by_cases h9 : (name.toList == [98, 103, 101, 122]) = true
 ·have hZ : Z = some ⟨NEAR, (decide (0 <= sg S)), 0⟩ := by rw [HZ.out, wayB, if_neg h0, if_neg h1, if_neg h2, if_neg h3, if_neg h4, if_neg h5, if_neg h6, if_neg h7, if_neg h8, if_pos h9]
  subst hZ
  rw [Bool.not_eq_true] at h0
  rw [Bool.not_eq_true] at h1
  rw [Bool.not_eq_true] at h2
  rw [Bool.not_eq_true] at h3
  rw [Bool.not_eq_true] at h4
  rw [Bool.not_eq_true] at h5
  rw [Bool.not_eq_true] at h6
  rw [Bool.not_eq_true] at h7
  rw [Bool.not_eq_true] at h8
  have hres := res3 w1 (w.heap.size + 1 + 1) (.int .u32 NEAR) (.bool (decide (0 <= sg S))) (.int .i64 0) hf3
  simp only at hres
  have HBE := below3 (n := w.heap.size + 1 + 1) hbw (by omega) (.int .u32 NEAR) (.bool (decide (0 <= sg S))) (.int .i64 0)
  obtain ⟨W9, hW9⟩ : ∃ z, ((w1.setCell ⟨w.heap.size + 1 + 1, 0, none⟩ (.int .u32 NEAR)).setCell ⟨w.heap.size + 1 + 1, 1, none⟩ (.bool (decide (0 <= sg S)))).setCell ⟨w.heap.size + 1 + 1, 2, none⟩ (.int .i64 0) = z := ⟨_, rfl⟩
  rw [hW9] at hres HBE
  obtain ⟨s0, s1, s2⟩ := hres
  have HBE : Hid _ := HBE
  go_wp2
  refine bodyPost_ret (v := .tuple #[.agg #[.int .u32 NEAR, .bool (decide (0 <= sg S)), .int .i64 0], .bool true]) ?_ rfl ⟨rfl, HBE.out⟩
  rw [results_cell_tmp rfl]; simp [go_sem, s0, s1, s2]
 by_cases h10 : (name.toList == [98, 108, 116, 122, 97, 108]) = true
 ·have hZ : Z = some ⟨NEAR, (decide (sg S < 0)), 31⟩ := by rw [HZ.out, wayB, if_neg h0, if_neg h1, if_neg h2, if_neg h3, if_neg h4, if_neg h5, if_neg h6, if_neg h7, if_neg h8, if_neg h9, if_pos h10]
  subst hZ
  rw [Bool.not_eq_true] at h0
  rw [Bool.not_eq_true] at h1
  rw [Bool.not_eq_true] at h2
  rw [Bool.not_eq_true] at h3
  rw [Bool.not_eq_true] at h4
  rw [Bool.not_eq_true] at h5
  rw [Bool.not_eq_true] at h6
  rw [Bool.not_eq_true] at h7
  rw [Bool.not_eq_true] at h8
  rw [Bool.not_eq_true] at h9
  have hres := res3 w1 (w.heap.size + 1 + 1) (.int .u32 NEAR) (.bool (decide (sg S < 0))) (.int .i64 31) hf3
  simp only at hres
  have HBE := below3 (n := w.heap.size + 1 + 1) hbw (by omega) (.int .u32 NEAR) (.bool (decide (sg S < 0))) (.int .i64 31)
  obtain ⟨W9, hW9⟩ : ∃ z, ((w1.setCell ⟨w.heap.size + 1 + 1, 0, none⟩ (.int .u32 NEAR)).setCell ⟨w.heap.size + 1 + 1, 1, none⟩ (.bool (decide (sg S < 0)))).setCell ⟨w.heap.size + 1 + 1, 2, none⟩ (.int .i64 31) = z := ⟨_, rfl⟩
  rw [hW9] at hres HBE
  obtain ⟨s0, s1, s2⟩ := hres
  have HBE : Hid _ := HBE
  go_wp2
  refine bodyPost_ret (v := .tuple #[.agg #[.int .u32 NEAR, .bool (decide (sg S < 0)), .int .i64 31], .bool true]) ?_ rfl ⟨rfl, HBE.out⟩
  rw [results_cell_tmp rfl]; simp [go_sem, s0, s1, s2]
 by_cases h11 : (name.toList == [98, 103, 101, 122, 97, 108]) = true
 ·have hZ : Z = some ⟨NEAR, (decide (0 <= sg S)), 31⟩ := by rw [HZ.out, wayB, if_neg h0, if_neg h1, if_neg h2, if_neg h3, if_neg h4, if_neg h5, if_neg h6, if_neg h7, if_neg h8, if_neg h9, if_neg h10, if_pos h11]
  subst hZ
  rw [Bool.not_eq_true] at h0
  rw [Bool.not_eq_true] at h1
  rw [Bool.not_eq_true] at h2
  rw [Bool.not_eq_true] at h3
  rw [Bool.not_eq_true] at h4
  rw [Bool.not_eq_true] at h5
  rw [Bool.not_eq_true] at h6
  rw [Bool.not_eq_true] at h7
  rw [Bool.not_eq_true] at h8
  rw [Bool.not_eq_true] at h9
  rw [Bool.not_eq_true] at h10
  have hres := res3 w1 (w.heap.size + 1 + 1) (.int .u32 NEAR) (.bool (decide (0 <= sg S))) (.int .i64 31) hf3
  simp only at hres
  have HBE := below3 (n := w.heap.size + 1 + 1) hbw (by omega) (.int .u32 NEAR) (.bool (decide (0 <= sg S))) (.int .i64 31)
  obtain ⟨W9, hW9⟩ : ∃ z, ((w1.setCell ⟨w.heap.size + 1 + 1, 0, none⟩ (.int .u32 NEAR)).setCell ⟨w.heap.size + 1 + 1, 1, none⟩ (.bool (decide (0 <= sg S)))).setCell ⟨w.heap.size + 1 + 1, 2, none⟩ (.int .i64 31) = z := ⟨_, rfl⟩
  rw [hW9] at hres HBE
  obtain ⟨s0, s1, s2⟩ := hres
  have HBE : Hid _ := HBE
  go_wp2
  refine bodyPost_ret (v := .tuple #[.agg #[.int .u32 NEAR, .bool (decide (0 <= sg S)), .int .i64 31], .bool true]) ?_ rfl ⟨rfl, HBE.out⟩
  rw [results_cell_tmp rfl]; simp [go_sem, s0, s1, s2]
 rw [Bool.not_eq_true] at h0 h1 h2 h3 h4 h5 h6 h7 h8 h9 h10 h11
 have hZ : Z = none := by rw [HZ.out, wayB, h0, h1, h2, h3, h4, h5, h6, h7, h8, h9, h10, h11]; simp
 subst hZ
 have hres := res3 w1 (w.heap.size + 1 + 1) (.int .u32 0) (.bool false) (.int .i64 0) hf3
 simp only at hres
 have HBE := below3 (n := w.heap.size + 1 + 1) hbw (by omega) (.int .u32 0) (.bool false) (.int .i64 0)
 obtain ⟨W9, hW9⟩ : ∃ z, ((w1.setCell ⟨w.heap.size + 1 + 1, 0, none⟩ (.int .u32 0)).setCell ⟨w.heap.size + 1 + 1, 1, none⟩ (.bool false)).setCell ⟨w.heap.size + 1 + 1, 2, none⟩ (.int .i64 0) = z := ⟨_, rfl⟩
 rw [hW9] at hres HBE
 obtain ⟨s0, s1, s2⟩ := hres
 have HBE : Hid _ := HBE
 go_wp2
 refine bodyPost_ret (v := .tuple #[.agg #[.int .u32 0, .bool false, .int .i64 0], .bool false]) ?_ rfl ⟨rfl, HBE.out⟩
 rw [results_cell_tmp rfl]; simp [go_sem, s0, s1, s2]
end Go.Proofs.YtimfipkbddpdmaaGreatDoor
