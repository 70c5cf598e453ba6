import Derived.Test.YtimfipkbddpdmaaGreatDoorVals
import Derived.Test.YtimfipkbddpdmaaGreatDoorSm
set_option linter.unusedVariables false
set_option linter.unusedSimpArgs false
set_option maxRecDepth 100000
open Go Go.RowKit
namespace Go.Proofs.YtimfipkbddpdmaaGreatDoor
theorem and_u32 (a b : Nat) (ha : a < 4294967296) (hb : b < 4294967296) : bits BinOp.and IntKind.u32 (a : Int) (b : Int) = ((a &&& b : Nat) : Int) := (bits_nat .u32 32 (by decide) (fun n h0 h1 => by rw [IntKind.wrap_u32]; omega) a b (by omega) (by omega)).1
theorem or_u32 (a b : Nat) (ha : a < 4294967296) (hb : b < 4294967296) : bits BinOp.or IntKind.u32 (a : Int) (b : Int) = ((a ||| b : Nat) : Int) := (bits_nat .u32 32 (by decide) (fun n h0 h1 => by rw [IntKind.wrap_u32]; omega) a b (by omega) (by omega)).2
theorem and31 (a d : Nat) (ha : a < 4294967296) : bits BinOp.and IntKind.u32 ((a : Int) / (d : Int)) 31 = ((a / d % 32 : Nat) : Int) := by
 have h : a / d <= a := Nat.div_le_self _ _
 have h' : ((a / d : Nat) : Int) <= (a : Int) := by exact_mod_cast h
 have h2 : ((a / d : Nat) : Int) < 2 ^ 32 := by rw [show (2 : Int) ^ 32 = 4294967296 from rfl]; omega
 have := bits_mask .u32 32 (by decide) (fun n h0 h1 => by rw [IntKind.wrap_u32]; omega) 5 (by decide) (((a / d : Nat)) : Int) (Int.natCast_nonneg _) h2
 simpa using this
theorem tz_le (g : Nat) : tzN g <= 32 := by
 unfold tzN
 repeat' split
 all_goals omega
def insN (s : Sh) (x : Nat) : In := ⟨s.name, ((x &&& s.few) / 2097152 % 32 : Nat), ((x &&& s.few) / 65536 % 32 : Nat), ((x &&& s.few) / 2048 % 32 : Nat), ((x &&& s.few) / 64 % 32 : Nat), (x &&& s.great) / 2 ^ tzN s.great⟩
theorem box66 (w : World) (a b c d e f x0 x1 x2 x3 x4 x5 : Value) (t u : Nat) : ∃ W, (w.alloc (.cells #[a, b, c, d, e, f] t)).alloc (.cells #[x0, x1, x2, x3, x4, x5] u) = W /\ Below w.heap.size w W /\ W.heap.size = w.heap.size + 2 /\
  (W.cell? ⟨w.heap.size, 0, none⟩ = some a /\ W.cell? ⟨w.heap.size, 1, none⟩ = some b /\ W.cell? ⟨w.heap.size, 2, none⟩ = some c /\ W.cell? ⟨w.heap.size, 3, none⟩ = some d /\ W.cell? ⟨w.heap.size, 4, none⟩ = some e /\ W.cell? ⟨w.heap.size, 5, none⟩ = some f) /\
  (W.cell? ⟨w.heap.size + 1, 0, none⟩ = some x0 /\ W.cell? ⟨w.heap.size + 1, 1, none⟩ = some x1 /\ W.cell? ⟨w.heap.size + 1, 2, none⟩ = some x2 /\ W.cell? ⟨w.heap.size + 1, 3, none⟩ = some x3 /\ W.cell? ⟨w.heap.size + 1, 4, none⟩ = some x4 /\ W.cell? ⟨w.heap.size + 1, 5, none⟩ = some x5) /\
  (Free W ⟨w.heap.size + 1, 0, none⟩ /\ Free W ⟨w.heap.size + 1, 1, none⟩ /\ Free W ⟨w.heap.size + 1, 2, none⟩ /\ Free W ⟨w.heap.size + 1, 3, none⟩ /\ Free W ⟨w.heap.size + 1, 4, none⟩ /\ Free W ⟨w.heap.size + 1, 5, none⟩) := by
 have hz : w.heap.size + 1 = (w.alloc (.cells #[a, b, c, d, e, f] t)).heap.size := by simp
 refine ⟨_, rfl, ((Below.refl _ _).alloc (Nat.le_refl _) _).alloc (by simp) _, by simp, ⟨?_, ?_, ?_, ?_, ?_, ?_⟩, ⟨?_, ?_, ?_, ?_, ?_, ?_⟩, ⟨⟨⟨x0, ?_⟩, ?_⟩, ⟨⟨x1, ?_⟩, ?_⟩, ⟨⟨x2, ?_⟩, ?_⟩, ⟨⟨x3, ?_⟩, ?_⟩, ⟨⟨x4, ?_⟩, ?_⟩, ⟨⟨x5, ?_⟩, ?_⟩⟩⟩
 all_goals first | exact cell_old (cell_newA w _ _ _ _ _ rfl rfl) _ | exact cell_newA _ _ _ _ _ _ hz rfl | (rw [World.frozen?_alloc_at _ _ _ _ hz])
theorem res6 (w : World) (n : Nat) (x0 x1 x2 x3 x4 x5 : Value) (h : Free w ⟨n, 0, none⟩ /\ Free w ⟨n, 1, none⟩ /\ Free w ⟨n, 2, none⟩ /\ Free w ⟨n, 3, none⟩ /\ Free w ⟨n, 4, none⟩ /\ Free w ⟨n, 5, none⟩) :
  let W := (((((w.setCell ⟨n, 0, none⟩ x0).setCell ⟨n, 1, none⟩ x1).setCell ⟨n, 2, none⟩ x2).setCell ⟨n, 3, none⟩ x3).setCell ⟨n, 4, none⟩ x4).setCell ⟨n, 5, none⟩ x5
  W.cell? ⟨n, 0, none⟩ = some x0 /\ W.cell? ⟨n, 1, none⟩ = some x1 /\ W.cell? ⟨n, 2, none⟩ = some x2 /\ W.cell? ⟨n, 3, none⟩ = some x3 /\ W.cell? ⟨n, 4, none⟩ = some x4 /\ W.cell? ⟨n, 5, none⟩ = some x5 := by
 obtain ⟨f0, f1, f2, f3, f4, f5⟩ := h
 refine ⟨?_, ?_, ?_, ?_, ?_, ?_⟩
 ·rw [World.cell?_setCell_other _ _ _ _ (by simp)]; rw [World.cell?_setCell_other _ _ _ _ (by simp)]; rw [World.cell?_setCell_other _ _ _ _ (by simp)]; rw [World.cell?_setCell_other _ _ _ _ (by simp)]; rw [World.cell?_setCell_other _ _ _ _ (by simp)]; exact World.cell?_setCell_same _ _ _ f0.cell
 ·rw [World.cell?_setCell_other _ _ _ _ (by simp)]; rw [World.cell?_setCell_other _ _ _ _ (by simp)]; rw [World.cell?_setCell_other _ _ _ _ (by simp)]; rw [World.cell?_setCell_other _ _ _ _ (by simp)]; exact World.cell?_setCell_same _ _ _ (f1.set _ _).cell
 ·rw [World.cell?_setCell_other _ _ _ _ (by simp)]; rw [World.cell?_setCell_other _ _ _ _ (by simp)]; rw [World.cell?_setCell_other _ _ _ _ (by simp)]; exact World.cell?_setCell_same _ _ _ ((f2.set _ _).set _ _).cell
 ·rw [World.cell?_setCell_other _ _ _ _ (by simp)]; rw [World.cell?_setCell_other _ _ _ _ (by simp)]; exact World.cell?_setCell_same _ _ _ (((f3.set _ _).set _ _).set _ _).cell
 ·rw [World.cell?_setCell_other _ _ _ _ (by simp)]; exact World.cell?_setCell_same _ _ _ ((((f4.set _ _).set _ _).set _ _).set _ _).cell
 ·exact World.cell?_setCell_same _ _ _ (((((f5.set _ _).set _ _).set _ _).set _ _).set _ _).cell
theorem below6 {B : Nat} {w0 w : World} {n : Nat} (h : Below B w0 w) (hn : B <= n) (x0 x1 x2 x3 x4 x5 : Value) : Below B w0 ((((((w.setCell ⟨n, 0, none⟩ x0).setCell ⟨n, 1, none⟩ x1).setCell ⟨n, 2, none⟩ x2).setCell ⟨n, 3, none⟩ x3).setCell ⟨n, 4, none⟩ x4).setCell ⟨n, 5, none⟩ x5) :=
 (((((h.setCell hn _).setCell hn _).setCell hn _).setCell hn _).setCell hn _).setCell hn _
set_option maxHeartbeats 1000000 in
theorem ins20 (s : Sh) (x : Nat) (w : World) (hx : x < 4294967296) (hf : s.few < 4294967296) (hg : Great s.great) (ht : Tab w) : Calls Tryz.prog 78 #[s.val, .int .u32 x] w fun e w' => e = .returned (insN s x).val /\ Below w.heap.size w w' := by
 obtain ⟨name, op, same, form, few, great⟩ := s
 simp only [Sh.val]
 simp only at hf hg
 obtain ⟨W, hW, hb, hz, ⟨c0, c1, c2, c3, c4, c5⟩, ⟨d0, d1, d2, d3, d4, d5⟩, hfr⟩ := box66 w (.string name) (.int .u32 op) (.int .u32 same) (.string form) (.int .u32 few) (.int .u32 great) (.string ⟨#[]⟩) (.int .i64 0) (.int .i64 0) (.int .i64 0) (.int .i64 0) (.int .u32 0) 139 55
 have HTA : Hid (∀ w', Below W.heap.size W w' -> Tab w') := fun w' h => ht.keep (below_tr hb h)
 have hg' : great < 4294967296 := by rcases hg with h | h | h | h <;> omega
 have hF' := and_u32 x few hx hf
 have hG' := and_u32 x great hx hg'
 have hFl : x &&& few < 4294967296 := by have := Nat.and_le_left (n := x) (m := few); omega
 obtain ⟨F, hF⟩ : ∃ F, F = x &&& few := ⟨_, rfl⟩
 obtain ⟨G, hG⟩ : ∃ F, F = x &&& great := ⟨_, rfl⟩
 obtain ⟨T, hT⟩ : ∃ T, T = tzN great := ⟨_, rfl⟩
 have hT32 : T <= 32 := by rw [hT]; exact tz_le _
 rw [<- hF] at hF' hFl
 rw [<- hG] at hG'
 have K30 : Hid (∀ w', Tab w' -> Calls Tryz.prog 99 #[.int .u32 great] w' fun e w'' => e = .returned (.int .i64 T) /\ w'' = w') := fun w' h => by rw [hT]; exact tz30 great hg w' h
 have e21 : bits BinOp.and IntKind.u32 ((F : Int) / 2097152) 31 = ((F / 2097152 % 32 : Nat) : Int) := and31 F 2097152 hFl
 have e16 : bits BinOp.and IntKind.u32 ((F : Int) / 65536) 31 = ((F / 65536 % 32 : Nat) : Int) := and31 F 65536 hFl
 have e11 : bits BinOp.and IntKind.u32 ((F : Int) / 2048) 31 = ((F / 2048 % 32 : Nat) : Int) := and31 F 2048 hFl
 have e6 : bits BinOp.and IntKind.u32 ((F : Int) / 64) 31 = ((F / 64 % 32 : Nat) : Int) := and31 F 64 hFl
 obtain ⟨R21, r21⟩ : ∃ R, F / 2097152 % 32 = R := ⟨_, rfl⟩
 obtain ⟨R16, r16⟩ : ∃ R, F / 65536 % 32 = R := ⟨_, rfl⟩
 obtain ⟨R11, r11⟩ : ∃ R, F / 2048 % 32 = R := ⟨_, rfl⟩
 obtain ⟨R6, r6⟩ : ∃ R, F / 64 % 32 = R := ⟨_, rfl⟩
 obtain ⟨M, hM⟩ : ∃ R, G / 2 ^ T = R := ⟨_, rfl⟩
 rw [r21] at e21
 rw [r16] at e16
 rw [r11] at e11
 rw [r6] at e6
 have w21 : IntKind.i64.wrap (R21 : Int) = (R21 : Int) := by rw [IntKind.wrap_i64]; omega
 have w16 : IntKind.i64.wrap (R16 : Int) = (R16 : Int) := by rw [IntKind.wrap_i64]; omega
 have w11 : IntKind.i64.wrap (R11 : Int) = (R11 : Int) := by rw [IntKind.wrap_i64]; omega
 have w6 : IntKind.i64.wrap (R6 : Int) = (R6 : Int) := by rw [IntKind.wrap_i64]; omega
 have eG := hG'
 have eM : (G : Int) / 2 ^ min T 32 = (M : Int) := by rw [Nat.min_eq_left hT32, <- hM]; simp
 have HE : Hid ((insN ⟨name, op, same, form, few, great⟩ x).val = .agg #[.string name, .int .i64 R21, .int .i64 R16, .int .i64 R11, .int .i64 R6, .int .u32 M]) := by
  show _ = _
  simp only [insN, In.val]
  rw [<- hF, <- hG, r21, r16, r11, r6, <- hT, hM]
 obtain ⟨V, hV⟩ : ∃ V, V = (insN ⟨name, op, same, form, few, great⟩ x).val := ⟨_, rfl⟩
 rw [<- hV] at HE |-
 have HB : Hid (Below w.heap.size w W) := hb
 have HFR : Hid (∀ w', Below W.heap.size W w' -> Free w' ⟨w.heap.size + 1, 0, none⟩ /\ Free w' ⟨w.heap.size + 1, 1, none⟩ /\ Free w' ⟨w.heap.size + 1, 2, none⟩ /\ Free w' ⟨w.heap.size + 1, 3, none⟩ /\ Free w' ⟨w.heap.size + 1, 4, none⟩ /\ Free w' ⟨w.heap.size + 1, 5, none⟩) := fun w' h => ⟨hfr.1.keep h, hfr.2.1.keep h, hfr.2.2.1.keep h, hfr.2.2.2.1.keep h, hfr.2.2.2.2.1.keep h, hfr.2.2.2.2.2.keep h⟩
 clear hV hT hF hG hb hg ht hx hf hg' hG' hFl hT32 r21 r16 r11 r6 hM hfr hz
 go_enter Tryz.func78, Tryz.ntmps78
 go_wp2
 refine wp_region_valsL [.pointer (some ⟨w.heap.size, 0, none⟩), .pointer (some ⟨w.heap.size, 0, none⟩), .string name, .int .u32 F, .int .u32 ((F : Int) / 2097152), .int .u32 R21, .int .i64 R21, .int .u32 F, .int .u32 ((F : Int) / 65536), .int .u32 R16, .int .i64 R16, .int .u32 F, .int .u32 ((F : Int) / 2048), .int .u32 R11, .int .i64 R11, .int .u32 F, .int .u32 ((F : Int) / 64), .int .u32 R6, .int .i64 R6, .int .u32 x, .pointer (some ⟨w.heap.size, 4, none⟩), .pointer (some ⟨w.heap.size, 5, none⟩), .int .u32 great, .int .u32 G, .pointer (some ⟨w.heap.size, 4, none⟩), .pointer (some ⟨w.heap.size, 5, none⟩), .int .u32 great, .int .i64 T, .int .u32 M, .agg #[.string name, .int .i64 R21, .int .i64 R16, .int .i64 R11, .int .i64 R6, .int .u32 M]] _ 30 _ (by kernel_rfl) rfl (by kernel_rfl) rfl rfl rfl (by kernel_rfl) (by kernel_rfl) (fun C hC => ?_)
 simp only [putVs, List.take_succ_cons, List.take_zero, Act.put, List.setIfInBounds_toArray, List.set_cons_zero, List.set_cons_succ] at hC
 subst hC
 refine ⟨?_, fun wy hR K hK => ?_⟩
 ·repeat' refine And.intro ?_ ?_
  all_goals first | exact True.intro | intro wx hR
  all_goals try (refine yes ?_; have c0 := keep_cell hR c0; have c4 := keep_cell hR c4; have c5 := keep_cell hR c5; simp [go_sem, e21, e16, e11, e6, eG, eM, w21, w16, w11, w6, c0, c4, c5]; exact lands)
  ·refine yes ?_
   simp [go_sem, e21, e16, e11, e6, eG, eM, w21, w16, w11, w6]
   refine (K30.out wx (HTA.out wx hR)).mono ?_
   rintro e wG ⟨rfl, rfl⟩
   exact lands
 obtain ⟨f0, f1, f2, f3, f4, f5⟩ := HFR.out wy hR
 have q0 := f0.cell
 have q1 := f1.cell
 have q2 := f2.cell
 have q3 := f3.cell
 have q4 := f4.cell
 have q5 := f5.cell
 have z0 := f0.frozen
 have z1 := f1.frozen
 have z2 := f2.frozen
 have z3 := f3.frozen
 have z4 := f4.frozen
 have z5 := f5.frozen
 simp [go_sem, q0, q1, q2, q3, q4, q5, z0, z1, z2, z3, z4, z5]
 refine hK.out _ _ ?_
 have hres := res6 wy (w.heap.size + 1) (.string name) (.int .i64 R21) (.int .i64 R16) (.int .i64 R11) (.int .i64 R6) (.int .u32 M) (HFR.out wy hR)
 have HBE : Hid _ := below6 (n := w.heap.size + 1) (below_tr HB.out hR) (by omega) (.string name) (.int .i64 R21) (.int .i64 R16) (.int .i64 R11) (.int .i64 R6) (.int .u32 M)
 simp only at hres
 obtain ⟨W9, hW9⟩ : ∃ z, (((((wy.setCell ⟨w.heap.size + 1, 0, none⟩ (.string name)).setCell ⟨w.heap.size + 1, 1, none⟩ (.int .i64 R21)).setCell ⟨w.heap.size + 1, 2, none⟩ (.int .i64 R16)).setCell ⟨w.heap.size + 1, 3, none⟩ (.int .i64 R11)).setCell ⟨w.heap.size + 1, 4, none⟩ (.int .i64 R6)).setCell ⟨w.heap.size + 1, 5, none⟩ (.int .u32 M) = z := ⟨_, rfl⟩
 rw [hW9] at hres HBE |-
 obtain ⟨s0, s1, s2, s3, s4, s5⟩ := hres
 clear hW9 hK q0 q1 q2 q3 q4 q5 z0 z1 z2 z3 z4 z5 f0 f1 f2 f3 f4 f5
 go_wp2
 refine bodyPost_ret (v := V) ?_ rfl ⟨rfl, HBE.out⟩
 rw [HE.out, results_cell1 rfl]; simp [go_sem, s0, s1, s2, s3, s4, s5]
def shN (z : Int) (m : Nat) : Nat := (z % 4294967296).toNat * m % 4294967296
theorem shN_is (z : Int) (m : Nat) : z % 4294967296 * (m : Int) % 4294967296 = (shN z m : Int) := by
 have h : ((z % 4294967296).toNat : Int) = z % 4294967296 := Int.toNat_of_nonneg (Int.emod_nonneg _ (by decide))
 unfold shN
 rw [Int.natCast_emod, Int.natCast_mul, h]
 rfl
theorem shN_lt (z : Int) (m : Nat) : shN z m < 4294967296 := Nat.mod_lt _ (by decide)
def isDsd (s : Sh) : Bool := s.form.toList == [100, 115, 100]
def bareN (s : Sh) (i : In) : Nat := ((s.op * 67108864 % 4294967296 ||| s.same) ||| (((shN i.rs 2097152 ||| shN i.rt 65536) ||| shN i.rd 2048) ||| shN i.sa 64)) ||| (if isDsd s then shN i.rd 65536 else 0)
def wordN (s : Sh) (i : In) : Nat := bareN s i ||| i.imm * 2 ^ tzN s.great % 4294967296
theorem or_lt (a b : Nat) (ha : a < 4294967296) (hb : b < 4294967296) : a ||| b < 4294967296 := Nat.or_lt_two_pow (n := 32) ha hb
set_option maxHeartbeats 1000000 in
theorem word25 (s : Sh) (i : In) (w : World) (hi : i.imm < 4294967296) (hsa : s.same < 4294967296) (hg : Great s.great) (ht : Tab w) : Calls Tryz.prog 97 #[s.val, i.val] w fun e w' => e = .returned (.int .u32 (wordN s i : Int)) /\ Below w.heap.size w w' := by
 obtain ⟨name, op, same, form, few, great⟩ := s
 obtain ⟨nm, rs, rt, rd, sa, imm⟩ := i
 simp only [Sh.val, In.val, wordN, bareN]
 simp only at hi hsa hg
 obtain ⟨W, hW, hb, hz, ⟨c0, c1, c2, c3, c4, c5⟩, ⟨d0, d1, d2, d3, d4, d5⟩, hfr⟩ := box66 w (.string name) (.int .u32 op) (.int .u32 same) (.string form) (.int .u32 few) (.int .u32 great) (.string nm) (.int .i64 rs) (.int .i64 rt) (.int .i64 rd) (.int .i64 sa) (.int .u32 imm) 139 55
 have HTA : Hid (∀ w', Below W.heap.size W w' -> Tab w') := fun w' h => ht.keep (below_tr hb h)
 obtain ⟨T, hT⟩ : ∃ T, T = tzN great := ⟨_, rfl⟩
 have hT32 : T <= 32 := by rw [hT]; exact tz_le _
 have K30 : Hid (∀ w', Tab w' -> Calls Tryz.prog 99 #[.int .u32 great] w' fun e w'' => e = .returned (.int .i64 T) /\ w'' = w') := fun w' h => by rw [hT]; exact tz30 great hg w' h
 have s1 : rs % 4294967296 * 2097152 % 4294967296 = _ := shN_is rs 2097152
 have s2 : rt % 4294967296 * 65536 % 4294967296 = _ := shN_is rt 65536
 have s3 : rd % 4294967296 * 2048 % 4294967296 = _ := shN_is rd 2048
 have s4 : sa % 4294967296 * 64 % 4294967296 = _ := shN_is sa 64
 have s5 : rd % 4294967296 * 65536 % 4294967296 = _ := shN_is rd 65536
 have l1 := shN_lt rs 2097152
 have l2 := shN_lt rt 65536
 have l3 := shN_lt rd 2048
 have l4 := shN_lt sa 64
 have l5 := shN_lt rd 65536
 generalize shN rs 2097152 = S1 at s1 l1 |-
 generalize shN rt 65536 = S2 at s2 l2 |-
 generalize shN rd 2048 = S3 at s3 l3 |-
 generalize shN sa 64 = S4 at s4 l4 |-
 generalize shN rd 65536 = S5 at s5 l5 |-
 have a1 : (op : Int) * 67108864 % 4294967296 = ((op * 67108864 % 4294967296 : Nat) : Int) := by simp
 have l0 : op * 67108864 % 4294967296 < 4294967296 := Nat.mod_lt _ (by decide)
 generalize op * 67108864 % 4294967296 = O at a1 l0 |-
 have b0 := or_u32 O same l0 hsa
 have m0 := or_lt O same l0 hsa
 generalize O ||| same = B0 at b0 m0 |-
 have b1 := or_u32 S1 S2 l1 l2
 have m1 := or_lt S1 S2 l1 l2
 generalize S1 ||| S2 = C1 at b1 m1 |-
 have b2 := or_u32 C1 S3 m1 l3
 have m2 := or_lt C1 S3 m1 l3
 generalize C1 ||| S3 = C2 at b2 m2 |-
 have b3 := or_u32 C2 S4 m2 l4
 have m3 := or_lt C2 S4 m2 l4
 generalize C2 ||| S4 = C3 at b3 m3 |-
 have b4 := or_u32 B0 C3 m0 m3
 have m4 := or_lt B0 C3 m0 m3
 generalize B0 ||| C3 = B1 at b4 m4 |-
 have b5 := or_u32 B1 S5 m4 l5
 have m5 := or_lt B1 S5 m4 l5
 have hMl : imm * 2 ^ T % 4294967296 < 4294967296 := Nat.mod_lt _ (by decide)
 have eM0 : (imm : Int) * 2 ^ T % 4294967296 = ((imm * 2 ^ T % 4294967296 : Nat) : Int) := by simp
 have eM : (imm : Int) * 2 ^ min T 32 % 4294967296 = ((imm * 2 ^ T % 4294967296 : Nat) : Int) := by rw [Nat.min_eq_left hT32]; exact eM0
 have eMw : IntKind.u32.wrap ((imm : Int) * 2 ^ min T 32) = ((imm * 2 ^ T % 4294967296 : Nat) : Int) := by rw [IntKind.wrap_u32]; exact eM
 rw [<- hT]
 obtain ⟨M, hM⟩ : ∃ z, z = imm * 2 ^ T % 4294967296 := ⟨_, rfl⟩
 rw [<- hM] at hMl eM eMw |-
 clear hM
 have HB : Hid (Below w.heap.size w W) := hb
 clear eM0 hT32 hb hT hg hi hsa hfr hz l0 l1 l2 l3 l4 l5 m0 m1 m2 m3 ht
 obtain ⟨D, hD⟩ : ∃ D, D = isDsd ⟨name, op, same, form, few, great⟩ := ⟨_, rfl⟩
 rw [<- hD]
 have hd : (form.toList == [100, 115, 100]) = D := hD.symm
 clear hD
 cases D
 rotate_left
 ·rw [if_pos rfl]
  generalize B1 ||| S5 = B at b5 m5 |-
  have eR := or_u32 B M m5 hMl
  generalize B ||| M = R at eR |-
  clear m4 m5 hMl
  go_enter Tryz.func97, Tryz.ntmps97
  go_wp2
  refine wp_region_valsA [.int .u32 B, .pointer (some ⟨w.heap.size + 1, 5, none⟩), .int .u32 imm, .pointer (some ⟨w.heap.size, 4, none⟩), .pointer (some ⟨w.heap.size, 5, none⟩), .int .u32 great, .int .i64 T, .int .u32 M, .int .u32 R, .int .u32 R] _ (by kernel_rfl) rfl (by kernel_rfl) (by kernel_rfl) (by kernel_rfl) (fun C hC => ?_)
  simp only [putVs, List.take_succ_cons, List.take_zero, Act.put, List.setIfInBounds_toArray, List.set_cons_zero, List.set_cons_succ] at hC
  subst hC
  refine ⟨?_, fun wy hR => ?_⟩
  ·repeat' refine And.intro ?_ ?_
   all_goals first | exact True.intro | intro wx hR
   all_goals try (refine yes ?_; have c5 := keep_cell hR c5; have d5 := keep_cell hR d5; simp [go_sem, eM, eMw, eR, c5, d5]; exact lands)
   ·refine yes ?_
    simp [go_sem, eM, eMw, eR]
    refine (K30.out wx (HTA.out wx hR)).mono ?_
    rintro e wG ⟨rfl, rfl⟩
    exact lands
  have HBE : Hid (Below w.heap.size w wy) := below_tr HB.out hR
  go_wp2
  go_ret
  exact ⟨rfl, HBE.out⟩
 ·rw [if_neg (by decide), Nat.or_zero]
  have eR := or_u32 B1 M m4 hMl
  generalize B1 ||| M = R at eR |-
  clear m4 m5 hMl b5 s5
  go_enter Tryz.func97, Tryz.ntmps97
  go_wp2
  refine wp_region_valsA [.int .u32 B1, .pointer (some ⟨w.heap.size + 1, 5, none⟩), .int .u32 imm, .pointer (some ⟨w.heap.size, 4, none⟩), .pointer (some ⟨w.heap.size, 5, none⟩), .int .u32 great, .int .i64 T, .int .u32 M, .int .u32 R, .int .u32 R] _ (by kernel_rfl) rfl (by kernel_rfl) (by kernel_rfl) (by kernel_rfl) (fun C hC => ?_)
  simp only [putVs, List.take_succ_cons, List.take_zero, Act.put, List.setIfInBounds_toArray, List.set_cons_zero, List.set_cons_succ] at hC
  subst hC
  refine ⟨?_, fun wy hR => ?_⟩
  ·repeat' refine And.intro ?_ ?_
   all_goals first | exact True.intro | intro wx hR
   all_goals try (refine yes ?_; have c5 := keep_cell hR c5; have d5 := keep_cell hR d5; simp [go_sem, eM, eMw, eR, c5, d5]; exact lands)
   ·refine yes ?_
    simp [go_sem, eM, eMw, eR]
    refine (K30.out wx (HTA.out wx hR)).mono ?_
    rintro e wG ⟨rfl, rfl⟩
    exact lands
  have HBE : Hid (Below w.heap.size w wy) := below_tr HB.out hR
  go_wp2
  go_ret
  exact ⟨rfl, HBE.out⟩
def inEq (i j : In) : Bool := i.name.toList == j.name.toList && (i.rs == j.rs && (i.rt == j.rt && (i.rd == j.rd && (i.sa == j.sa && (i.imm == j.imm)))))
theorem inEq_iff (i j : In) : inEq i j = true ↔ i = j := by
 obtain ⟨n, a, b, c, d, e⟩ := i
 obtain ⟨n', a', b', c', d', e'⟩ := j
 have : (n.toList == n'.toList) = (n == n') := (beq_toListBytes n n').symm
 simp only [inEq, this, Bool.and_eq_true, beq_iff_eq, In.mk.injEq]
 rw [show ((n == n') = true ↔ n = n') from ⟨fun h => by obtain ⟨⟨x⟩⟩ := n; obtain ⟨⟨y⟩⟩ := n'; have h' : ((⟨x⟩ : Array UInt8) == ⟨y⟩) = true := h; simp at h'; rw [h'], fun h => by rw [h]; obtain ⟨⟨y⟩⟩ := n'; show ((⟨y⟩ : Array UInt8) == ⟨y⟩) = true; simp⟩]
set_option maxHeartbeats 1000000 in
theorem eq24 (i j : In) (w : World) : (binOp .eql 55 i.val j.val).run Tryz.prog w = .ok (.bool (inEq i j)) w := by
 obtain ⟨n, a, b, c, d, e⟩ := i
 obtain ⟨n', a', b', c', d', e'⟩ := j
 have he : ((e : Int) == (e' : Int)) = (e == e') := by
  rw [Bool.eq_iff_iff]; simp only [beq_iff_eq]; omega
 simp only [In.val, inEq]
 rw [<- he]
 cases h0 : (n.toList == n'.toList) with
 | false => simp [go_sem, h0]
 | true =>
  cases h1 : (a == a') with
  | false => simp [go_sem, h0, h1]
  | true =>
   cases h2 : (b == b') with
   | false => simp [go_sem, h0, h1, h2]
   | true =>
    cases h3 : (c == c') with
    | false => simp [go_sem, h0, h1, h2, h3]
    | true =>
     cases h4 : (d == d') with
     | false => simp [go_sem, h0, h1, h2, h3, h4]
     | true =>
      cases h5 : ((e : Int) == (e' : Int)) with
      | false => simp [go_sem, h0, h1, h2, h3, h4, h5]
      | true =>
       simp [go_sem, h0, h1, h2, h3, h4, h5]
def belongB (s : Sh) (i : In) (x : Nat) : Bool := inEq (insN s x) i && ((wordN s i == x) && allowsB s i)
set_option maxHeartbeats 1000000 in
theorem belong19 (s : Sh) (i : In) (x : Nat) (w : World) (hx : x < 4294967296) (hi : i.imm < 4294967296) (hf : s.few < 4294967296) (hsa : s.same < 4294967296) (hg : Great s.great) (ht : Tab w) : Calls Tryz.prog 77 #[s.val, i.val, .int .u32 x] w fun e w' => e = .returned (.bool (belongB s i x)) /\ Below w.heap.size w w' := by
 have EQ0 := fun w' => eq24 (insN s x) i w'
 obtain ⟨W, hW, hb, hz, hc, hd, hfr⟩ := box66 w (.string s.name) (.int .u32 s.op) (.int .u32 s.same) (.string s.form) (.int .u32 s.few) (.int .u32 s.great) (.string i.name) (.int .i64 i.rs) (.int .i64 i.rt) (.int .i64 i.rd) (.int .i64 i.sa) (.int .u32 i.imm) 139 55
 have K20 : Hid (∀ w', Below W.heap.size W w' -> Calls Tryz.prog 78 #[s.val, .int .u32 x] w' fun e w'' => e = .returned (insN s x).val /\ Below w'.heap.size w' w'') := fun w' h => ins20 s x w' hx hf hg (ht.keep (below_tr hb h))
 have K25 : Hid (∀ w', Below W.heap.size W w' -> Calls Tryz.prog 97 #[s.val, i.val] w' fun e w'' => e = .returned (.int .u32 (wordN s i : Int)) /\ Below w'.heap.size w' w'') := fun w' h => word25 s i w' hi hsa hg (ht.keep (below_tr hb h))
 have K29 : Hid (∀ w', Below W.heap.size W w' -> Calls Tryz.prog 98 #[s.val, i.val] w' fun e w'' => e = .returned (.bool (allowsB s i)) /\ Below w'.heap.size w' w'') := fun w' h => allows29 s i w'
 unfold belongB
 generalize insN s x = I at EQ0 K20 |-
 generalize inEq I i = b1 at EQ0 |-
 obtain ⟨n1, r1, r2, r3, r4, m1⟩ := I
 generalize wordN s i = WN at K25 |-
 generalize allowsB s i = b3 at K29 |-
 have HB : Hid (Below w.heap.size w W) := hb
 clear hx hi hf hsa hg ht hb hfr hz
 obtain ⟨name, op, same, form, few, great⟩ := s
 obtain ⟨nm, rs, rt, rd, sa, imm⟩ := i
 simp only [Sh.val, In.val] at K20 K25 K29 EQ0 hc hd hW |-
 obtain ⟨c0, c1, c2, c3, c4, c5⟩ := hc
 obtain ⟨d0, d1, d2, d3, d4, d5⟩ := hd
 have EQ := EQ0
 clear EQ0
 cases b1 with
 | false =>
  have e2 : True := trivial
  simp only [Bool.false_and]
  go_enter Tryz.func77, Tryz.ntmps77
  go_wp2
  refine wp_region_valsA [.agg #[.string name, .int .u32 op, .int .u32 same, .string form, .int .u32 few, .int .u32 great], .int .u32 x, .agg #[.string n1, .int .i64 r1, .int .i64 r2, .int .i64 r3, .int .i64 r4, .int .u32 m1], .agg #[.string nm, .int .i64 rs, .int .i64 rt, .int .i64 rd, .int .i64 sa, .int .u32 imm], .bool false, .bool false, undef, undef, undef, undef, undef, .bool false, .bool false, undef, undef, undef, .bool false, .bool false] _ (by kernel_rfl) rfl (by kernel_rfl) (by kernel_rfl) (by kernel_rfl) (fun C hC => ?_)
  simp only [putVs, List.take_succ_cons, List.take_zero, Act.put, List.setIfInBounds_toArray, List.set_cons_zero, List.set_cons_succ] at hC
  subst hC
  refine ⟨?_, fun wy hR => ?_⟩
  ·repeat' refine And.intro ?_ ?_
   all_goals first | exact True.intro | intro wx hR
   all_goals try (first | exact skips (by kernel_rfl) rfl | (refine yes ?_; have c0 := keep_cell hR c0; have c1 := keep_cell hR c1; have c2 := keep_cell hR c2; have c3 := keep_cell hR c3; have c4 := keep_cell hR c4; have c5 := keep_cell hR c5; have d0 := keep_cell hR d0; have d1 := keep_cell hR d1; have d2 := keep_cell hR d2; have d3 := keep_cell hR d3; have d4 := keep_cell hR d4; have d5 := keep_cell hR d5; simp [go_sem, c0, c1, c2, c3, c4, c5, d0, d1, d2, d3, d4, d5, EQ, e2]; exact lands))
   ·refine yes ?_
    simp [go_sem, EQ, e2]
    refine (K20.out wx hR).mono ?_
    rintro e wG ⟨rfl, hbG⟩
    exact landsAt hbG
  have HBE : Hid (Below w.heap.size w wy) := below_tr HB.out hR
  go_wp2
  go_ret
  exact ⟨rfl, HBE.out⟩
 | true =>
  cases e2' : (WN == x) with
  | false =>
   have e2 : ((WN : Int) == (x : Int)) = false := by simp at e2' |-; omega
   simp only [Bool.true_and, Bool.false_and]
   clear e2'
   go_enter Tryz.func77, Tryz.ntmps77
   go_wp2
   refine wp_region_valsA [.agg #[.string name, .int .u32 op, .int .u32 same, .string form, .int .u32 few, .int .u32 great], .int .u32 x, .agg #[.string n1, .int .i64 r1, .int .i64 r2, .int .i64 r3, .int .i64 r4, .int .u32 m1], .agg #[.string nm, .int .i64 rs, .int .i64 rt, .int .i64 rd, .int .i64 sa, .int .u32 imm], .bool true, .bool true, .agg #[.string name, .int .u32 op, .int .u32 same, .string form, .int .u32 few, .int .u32 great], .agg #[.string nm, .int .i64 rs, .int .i64 rt, .int .i64 rd, .int .i64 sa, .int .u32 imm], .int .u32 WN, .int .u32 x, .bool false, .bool false, .bool false, undef, undef, undef, .bool false, .bool false] _ (by kernel_rfl) rfl (by kernel_rfl) (by kernel_rfl) (by kernel_rfl) (fun C hC => ?_)
   simp only [putVs, List.take_succ_cons, List.take_zero, Act.put, List.setIfInBounds_toArray, List.set_cons_zero, List.set_cons_succ] at hC
   subst hC
   refine ⟨?_, fun wy hR => ?_⟩
   ·repeat' refine And.intro ?_ ?_
    all_goals first | exact True.intro | intro wx hR
    all_goals try (first | exact skips (by kernel_rfl) rfl | (refine yes ?_; have c0 := keep_cell hR c0; have c1 := keep_cell hR c1; have c2 := keep_cell hR c2; have c3 := keep_cell hR c3; have c4 := keep_cell hR c4; have c5 := keep_cell hR c5; have d0 := keep_cell hR d0; have d1 := keep_cell hR d1; have d2 := keep_cell hR d2; have d3 := keep_cell hR d3; have d4 := keep_cell hR d4; have d5 := keep_cell hR d5; simp [go_sem, c0, c1, c2, c3, c4, c5, d0, d1, d2, d3, d4, d5, EQ, e2]; exact lands))
    ·refine yes ?_
     simp [go_sem, EQ, e2]
     refine (K20.out wx hR).mono ?_
     rintro e wG ⟨rfl, hbG⟩
     exact landsAt hbG
    ·refine yes ?_
     simp [go_sem, EQ, e2]
     refine (K25.out wx hR).mono ?_
     rintro e wG ⟨rfl, hbG⟩
     exact landsAt hbG
   have HBE : Hid (Below w.heap.size w wy) := below_tr HB.out hR
   go_wp2
   go_ret
   exact ⟨rfl, HBE.out⟩
  | true =>
   have e2 : ((WN : Int) == (x : Int)) = true := by simp at e2' |-; omega
   simp only [Bool.true_and]
   clear e2'
   go_enter Tryz.func77, Tryz.ntmps77
   go_wp2
   refine wp_region_valsA [.agg #[.string name, .int .u32 op, .int .u32 same, .string form, .int .u32 few, .int .u32 great], .int .u32 x, .agg #[.string n1, .int .i64 r1, .int .i64 r2, .int .i64 r3, .int .i64 r4, .int .u32 m1], .agg #[.string nm, .int .i64 rs, .int .i64 rt, .int .i64 rd, .int .i64 sa, .int .u32 imm], .bool true, .bool true, .agg #[.string name, .int .u32 op, .int .u32 same, .string form, .int .u32 few, .int .u32 great], .agg #[.string nm, .int .i64 rs, .int .i64 rt, .int .i64 rd, .int .i64 sa, .int .u32 imm], .int .u32 WN, .int .u32 x, .bool true, .bool true, .bool true, .agg #[.string name, .int .u32 op, .int .u32 same, .string form, .int .u32 few, .int .u32 great], .agg #[.string nm, .int .i64 rs, .int .i64 rt, .int .i64 rd, .int .i64 sa, .int .u32 imm], .bool b3, .bool b3, .bool b3] _ (by kernel_rfl) rfl (by kernel_rfl) (by kernel_rfl) (by kernel_rfl) (fun C hC => ?_)
   simp only [putVs, List.take_succ_cons, List.take_zero, Act.put, List.setIfInBounds_toArray, List.set_cons_zero, List.set_cons_succ] at hC
   subst hC
   refine ⟨?_, fun wy hR => ?_⟩
   ·repeat' refine And.intro ?_ ?_
    all_goals first | exact True.intro | intro wx hR
    all_goals try (refine yes ?_; have c0 := keep_cell hR c0; have c1 := keep_cell hR c1; have c2 := keep_cell hR c2; have c3 := keep_cell hR c3; have c4 := keep_cell hR c4; have c5 := keep_cell hR c5; have d0 := keep_cell hR d0; have d1 := keep_cell hR d1; have d2 := keep_cell hR d2; have d3 := keep_cell hR d3; have d4 := keep_cell hR d4; have d5 := keep_cell hR d5; simp [go_sem, c0, c1, c2, c3, c4, c5, d0, d1, d2, d3, d4, d5, EQ, e2]; exact lands)
    ·refine yes ?_
     simp [go_sem, EQ, e2]
     refine (K20.out wx hR).mono ?_
     rintro e wG ⟨rfl, hbG⟩
     exact landsAt hbG
    ·refine yes ?_
     simp [go_sem, EQ, e2]
     refine (K25.out wx hR).mono ?_
     rintro e wG ⟨rfl, hbG⟩
     exact landsAt hbG
    ·refine yes ?_
     simp [go_sem, EQ, e2]
     refine (K29.out wx hR).mono ?_
     rintro e wG ⟨rfl, hbG⟩
     exact landsAt hbG
   have HBE : Hid (Below w.heap.size w wy) := below_tr HB.out hR
   go_wp2
   go_ret
   exact ⟨rfl, HBE.out⟩
end Go.Proofs.YtimfipkbddpdmaaGreatDoor
