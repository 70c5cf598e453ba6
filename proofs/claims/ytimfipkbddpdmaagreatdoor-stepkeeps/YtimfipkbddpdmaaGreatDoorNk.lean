import Derived.Test.YtimfipkbddpdmaaGreatDoorEach7
import Derived.Deep.CutRange
set_option linter.unusedVariables false
set_option linter.unusedSimpArgs false
set_option maxRecDepth 100000
open Go Go.RowKit
namespace Go.Proofs.YtimfipkbddpdmaaGreatDoor
def TS (vm : Value) (B : Nat) (cs : List (Nat × Int)) (v : Value) (w : World) : Prop := ∃ t1 t2 t3, v = .tuple #[.agg #[vm, .slice t1 t2 t3], .agg #[.int .i64 0, .int .u64 0]] /\ w.ownsRow B 48 2 (.slice t1 t2 t3) cs.length (Gm.rowOf .u64 cs)
def AS (vm : Value) (B : Nat) (cs : List (Nat × Int)) (v : Value) (w : World) : Prop := ∃ t1 t2 t3, v = .agg #[vm, .slice t1 t2 t3] /\ w.ownsRow B 48 2 (.slice t1 t2 t3) cs.length (Gm.rowOf .u64 cs)
theorem TS.keep {vm : Value} {B : Nat} {cs : List (Nat × Int)} {v : Value} {w w' : World} (h : TS vm B cs v w) (hb : Below w.heap.size w w') : TS vm B cs v w' := by
 obtain ⟨t1, t2, t3, e, o⟩ := h
 exact ⟨t1, t2, t3, e, Gm.own_keep o hb⟩
theorem AS.keep {vm : Value} {B : Nat} {cs : List (Nat × Int)} {v : Value} {w w' : World} (h : AS vm B cs v w) (hb : Below w.heap.size w w') : AS vm B cs v w' := by
 obtain ⟨t1, t2, t3, e, o⟩ := h
 exact ⟨t1, t2, t3, e, Gm.own_keep o hb⟩
def csA : List (Nat × Int) := [(4096, 144115256879219236)]
def csB : List (Nat × Int) := [(4096, 144115256879219236), (4104, 34603404)]
theorem pkA : pkN [] 4096 144115256879219236 8 = csA := by decide +kernel
theorem pkB : pkN csA 4104 34603404 4 = csB := by decide +kernel
theorem okA : ∀ m, m < 8 -> Gm.Srt (pkN [] 4096 144115256879219236 m) /\ Gm.Words (pkN [] 4096 144115256879219236 m) /\ (pkN [] 4096 144115256879219236 m).length <= 1000 := by
 unfold Gm.Srt Gm.Words
 decide +kernel
theorem okB : ∀ m, m < 4 -> Gm.Srt (pkN csA 4104 34603404 m) /\ Gm.Words (pkN csA 4104 34603404 m) /\ (pkN csA 4104 34603404 m).length <= 1000 := by
 unfold Gm.Srt Gm.Words
 decide +kernel
def G12 (B : Nat) (w : World) (a : Option Addr) (n p : Nat) (a' : Option Addr) (n' p' : Nat) (cs : List (Nat × Int)) (s1 : Option Addr) (s2 s3 : Nat) : Prop := w.ownsRow B 86 2 (.slice a n p) 1 (Gm.rowOf .i64 [(0, 3)]) /\ w.ownsRow B 48 2 (.slice s1 s2 s3) cs.length (Gm.rowOf .u64 cs) /\ w.ownsRow B 45 2 (.slice a' n' p') 1 (Gm.Pg.rowOf .i64 [(1, 7)])
theorem G12.keep {B : Nat} {w w' : World} {a : Option Addr} {n p : Nat} {a' : Option Addr} {n' p' : Nat} {cs : List (Nat × Int)} {s1 : Option Addr} {s2 s3 : Nat} (h : G12 B w a n p a' n' p' cs s1 s2 s3) (hb : Below w.heap.size w w') : G12 B w' a n p a' n' p' cs s1 s2 s3 := ⟨Gm.own_keep h.1 hb, Gm.own_keep h.2.1 hb, Gm.own_keep h.2.2 hb⟩
theorem G12.row {B b t : Nat} {X : List Value} {w w' : World} {a : Option Addr} {n p : Nat} {a' : Option Addr} {n' p' : Nat} {cs : List (Nat × Int)} {s1 : Option Addr} {s2 s3 : Nat} (h : G12 B w a n p a' n' p' cs s1 s2 s3) (hk : Hk b X t w) (hg : w.grownBy w' (some b)) (ht : t ≠ 86 /\ t ≠ 48 /\ t ≠ 45) : G12 B w' a n p a' n' p' cs s1 s2 s3 := ⟨own_row h.1 hk ht.1 hg, own_row h.2.1 hk ht.2.1 hg, own_row h.2.2 hk ht.2.2 hg⟩
set_option maxHeartbeats 4000000 in
theorem put42l (a : Option Addr) (n p : Nat) (a' : Option Addr) (n' p' : Nat) (w : World) (hg : G12 0 w a n p a' n' p' [] none 0 0) : Calls Tryz.prog 42 #[.agg #[.slice a n p, .slice none 0 0, .int .u64 0, .slice a' n' p'], .int .u32 4096, .string ⟨#[36, 2, 0, 5, 16, 0, 0, 2, 140, 1, 16, 2]⟩, .int .i64 0] w fun e w' => ∃ t1 t2 t3, e = .returned (.tuple #[.agg #[.slice a n p, .slice t1 t2 t3, .int .u64 0, .slice a' n' p'], .agg #[.int .i64 0, .int .u64 0]]) /\ G12 0 w' a n p a' n' p' csB t1 t2 t3 /\ Below w.heap.size w w' := by
 obtain ⟨W0, hW0, b0, s0, k0⟩ := allocw w [.slice a n p, .slice none 0 0, .int .u64 0, .slice a' n' p'] 33
 obtain ⟨W1, hW1, b1, s1, k1⟩ := allocw W0 z4 33
 obtain ⟨W, hW, b2, s2, k2⟩ := allocw W1 [.int .i64 0, .int .u64 0] 38
 have kA := (k0.keep b1).keep b2
 have kB := k1.keep b2
 have hb := below_tr b0 (below_tr b1 b2)
 have HG : Hid (G12 0 W a n p a' n' p' [] none 0 0) := hg.keep hb
 have HK : Hid (Below w.heap.size w W /\ Hk w.heap.size [.slice a n p, .slice none 0 0, .int .u64 0, .slice a' n' p'] 33 W /\ Hk W0.heap.size z4 33 W /\ Hk W1.heap.size [.int .i64 0, .int .u64 0] 38 W /\ W0.heap.size = w.heap.size + 1 /\ W1.heap.size = w.heap.size + 2 /\ W.heap.size = w.heap.size + 3) := ⟨hb, kA, kB, k2, s0, by omega, by omega⟩
 obtain ⟨c0, c1, c2, c3⟩ := kA.four
 have sl0 : (⟨#[36, 2, 0, 5, 16, 0, 0, 2, 140, 1, 16, 2]⟩ : ByteArray).extract 0 8 = ⟨#[36, 2, 0, 5, 16, 0, 0, 2]⟩ := rfl
 have sl1 : (⟨#[36, 2, 0, 5, 16, 0, 0, 2, 140, 1, 16, 2]⟩ : ByteArray).extract 8 12 = ⟨#[140, 1, 16, 2]⟩ := rfl
 have sl2 : (⟨#[140, 1, 16, 2]⟩ : ByteArray).extract 0 4 = ⟨#[140, 1, 16, 2]⟩ := rfl
 have hm8 : (min 8 12 : Int) = 8 := rfl
 have hm4 : (min 8 4 : Int) = 4 := rfl
 have sl3 : (⟨#[140, 1, 16, 2]⟩ : ByteArray).extract 4 4 = ⟨#[]⟩ := rfl
 clear hg b0 s0 k0 b1 s1 k1 b2 s2 k2 kA kB hb
 go_enter Tryz.func42, Tryz.ntmps42
 go_wp2_with fail
 refine (ask24l (.slice a n p) (.slice none 0 0) (.slice a' n' p') W ⟨_, _, _, rfl⟩ ⟨_, _, _, rfl⟩ (Gm.Pg.own_sl HG.out.2.2)).mono ?_
 rintro e w1 ⟨rfl, hb1⟩
 clear c0 c1 c2 c3
 obtain ⟨X1, hX1, g1, s1, k3⟩ := allocw w1 [.int .i64 0, .int .u64 0] 38
 obtain ⟨X2, hX2, g2, s2, k4⟩ := set2w X1 w1.heap.size (.int .i64 0) (.int .u64 0)
 have d0 := k3.at_ 0 rfl
 have d1 := k3.at_ 1 rfl
 have x0 := k3.frozen 0
 have x1 := k3.frozen 1
 have k4 := k4 _ _ k3
 obtain ⟨e0, e1⟩ := k4.two
 obtain ⟨hb, kA, kB, kC, l1, l2, l3⟩ := HK.out
 have l4 := hb1.size
 have kA := ((kA.keep hb1).keep g1).row g2 (by omega)
 have kB := ((kB.keep hb1).keep g1).row g2 (by omega)
 have kC := ((kC.keep hb1).keep g1).row g2 (by omega)
 have bX := below_row (below_tr (below_tr hb hb1) g1) g2 (by omega)
 have gX := ((HG.out.keep hb1).keep g1).row k3 g2 (by decide)
 obtain ⟨c0, c1, c2, c3⟩ := kA.four
 have H2 : Hid (Below w.heap.size w X2 /\ Hk w.heap.size [.slice a n p, .slice none 0 0, .int .u64 0, .slice a' n' p'] 33 X2 /\ Hk W0.heap.size z4 33 X2 /\ Hk W1.heap.size [.int .i64 0, .int .u64 0] 38 X2 /\ Hk w1.heap.size [.int .i64 0, .int .u64 0] 38 X2 /\ G12 0 X2 a n p a' n' p' [] none 0 0) := ⟨bX, kA, kB, kC, k4, gX⟩
 have HL : Hid (W0.heap.size = w.heap.size + 1 /\ W1.heap.size = w.heap.size + 2 /\ w.heap.size + 3 <= w1.heap.size) := ⟨l1, l2, by omega⟩
 clear hb1 g1 s1 k3 k4 g2 s2 hb kA kB kC l1 l2 l3 l4 bX gX HG HK
 go_wp2_with fail
 refine (Gm.place40l _ _ _ X2 ⟨_, _, _, rfl⟩ ⟨_, _, _, rfl⟩ ⟨_, _, _, rfl⟩).mono ?_
 rintro e w2 ⟨rfl, hb2⟩
 clear c0 c1 c2 c3 e0 e1 d0 d1 x0 x1 hX1 hX2
 obtain ⟨hb, kA, kB, kC, kD, gX⟩ := H2.out
 have hb := below_tr hb hb2
 have kA := kA.keep hb2
 have kB := kB.keep hb2
 have kC := kC.keep hb2
 have kD := kD.keep hb2
 have gX := gX.keep hb2
 obtain ⟨c0, c1, c2, c3⟩ := kA.four
 have f0 := kA.frozen 0
 have f1 := kA.frozen 1
 clear hb2 H2
 go_wp2_with fail
 refine wp_loop_rounds 3 ?_
 rw [rounds_succ]
 have HQ : Hid (Below w.heap.size w w2 /\ Hk w.heap.size [.slice a n p, .slice none 0 0, .int .u64 0, .slice a' n' p'] 33 w2 /\ Hk W0.heap.size z4 33 w2 /\ Hk W1.heap.size [.int .i64 0, .int .u64 0] 38 w2 /\ Hk w1.heap.size [.int .i64 0, .int .u64 0] 38 w2 /\ G12 0 w2 a n p a' n' p' [] none 0 0) := ⟨hb, kA, kB, kC, kD, gX⟩
 have KS : Hid (∀ wx, Below w2.heap.size w2 wx -> Calls Tryz.prog 54 #[.agg #[.slice a n p, .slice none 0 0], .int .u64 4096, .int .i64 8, .int .u64 144115256879219236] wx fun e w' => ∃ s1 s2 s3, e = .returned (.tuple #[.agg #[.slice a n p, .slice s1 s2 s3], .agg #[.int .i64 0, .int .u64 0]]) /\ w'.ownsRow wx.heap.size 48 2 (.slice s1 s2 s3) csA.length (Gm.rowOf .u64 csA) /\ Below wx.heap.size wx w') := fun wx hx => by
  have h := store54l (.slice a n p) (.slice none 0 0) [(0, 3)] [] 4096 8 144115256879219236 wx 0 0 (Gm.own_keep gX.1 hx) (Gm.own_keep gX.2.1 hx) (by decide) (by decide) (by decide) (by decide) (by decide +kernel) okA
  rw [pkA] at h
  exact h
 clear hb kA kB kC kD gX
 go_wp2_with fail
 go_cut [] from 41 to 53 (fun wx => ∃ t1 t2 t3, Below w.heap.size w wx /\ Hk w.heap.size [.slice a n p, .slice t1 t2 t3, .int .u64 0, .slice a' n' p'] 33 wx /\ Hk W0.heap.size z4 33 wx /\ Hk W1.heap.size [.int .i64 0, .int .u64 0] 38 wx /\ Hk w1.heap.size [.int .i64 0, .int .u64 0] 38 wx /\ G12 0 wx a n p a' n' p' csA t1 t2 t3)
 case first =>
  refine wp_region_lates (R := Ext) [⟨42, fun v _ => v = .pointer (some ⟨w.heap.size, 0, none⟩), fun _ _ _ _ h => h⟩, ⟨43, fun v _ => v = .agg #[.slice a n p, .slice none 0 0], fun _ _ _ _ h => h⟩, ⟨44, fun v _ => v = .int .u64 4096, fun _ _ _ _ h => h⟩, ⟨45, fun v _ => v = .int .i64 8, fun _ _ _ _ h => h⟩, ⟨46, fun v _ => v = .string ⟨#[36, 2, 0, 5, 16, 0, 0, 2, 140, 1, 16, 2]⟩, fun _ _ _ _ h => h⟩, ⟨47, fun v _ => v = .int .i64 8, fun _ _ _ _ h => h⟩, ⟨48, fun v _ => v = .string ⟨#[36, 2, 0, 5, 16, 0, 0, 2]⟩, fun _ _ _ _ h => h⟩, ⟨49, fun v _ => v = .int .u64 144115256879219236, fun _ _ _ _ h => h⟩, ⟨50, TS (.slice a n p) w2.heap.size (csA), fun _ _ _ hb h => h.keep hb⟩, ⟨41, TS (.slice a n p) w2.heap.size (csA), fun _ _ _ hb h => h.keep hb⟩, ⟨51, AS (.slice a n p) w2.heap.size (csA), fun _ _ _ hb h => h.keep hb⟩, ⟨52, fun v _ => v = .agg #[.int .i64 0, .int .u64 0], fun _ _ _ _ h => h⟩, ⟨53, fun v _ => v = .pointer (some ⟨w.heap.size, 0, none⟩), fun _ _ _ _ h => h⟩] _ 13 [11] (by kernel_rfl) rfl (by kernel_rfl) (by decide) (by kernel_rfl) (Below.drew (Below.refl _ _)) (fun _ _ _ h1 h2 => below_tr h1 h2) (fun QQ => ⟨?_, ?_, ?_, ?_, ?_, ?_, ?_, ?_, ?_, ?_, ?_, ?_, ?_, trivial⟩) (fun listed f wy hls h1 h2 hR hf A hA i hi hmi => ?_)
  ·intro A wx hR hout hdep K hK
   have h4 : _ = Value.pointer (some ⟨w.heap.size, 0, none⟩) := hout 4 (by kernel_rfl)
   refine yes ?_
   simp [go_sem, h4, sl0, sl1, sl2, sl3, hm8, hm4]
   exact hK.out _ _ (Below.refl _ _) rfl
  ·intro A wx hR hout hdep K hK
   have h42 : _ = Value.pointer (some ⟨w.heap.size, 0, none⟩) := hdep 42 (by kernel_rfl)
   refine yes ?_
   have c0 := keep_cell hR c0
   have c1 := keep_cell hR c1
   have c2 := keep_cell hR c2
   have c3 := keep_cell hR c3
   simp [go_sem, h42, c0, c1, c2, c3, sl0, sl1, sl2, sl3, hm8, hm4]
   exact hK.out _ _ (Below.refl _ _) rfl
  ·intro A wx hR hout hdep K hK
   have h11 : _ = Value.int .u64 4096 := hout 11 (by kernel_rfl)
   refine yes ?_
   simp [go_sem, h11, sl0, sl1, sl2, sl3, hm8, hm4]
   exact hK.out _ _ (Below.refl _ _) rfl
  ·intro A wx hR hout hdep K hK
   have h12 : _ = Value.int .i64 (min 8 12) := hout 12 (by kernel_rfl)
   refine yes ?_
   simp [go_sem, h12, sl0, sl1, sl2, sl3, hm8, hm4]
   exact hK.out _ _ (Below.refl _ _) rfl
  ·intro A wx hR hout hdep K hK
   have h2 : _ = Value.string ⟨#[36, 2, 0, 5, 16, 0, 0, 2, 140, 1, 16, 2]⟩ := hout 2 (by kernel_rfl)
   refine yes ?_
   simp [go_sem, h2, sl0, sl1, sl2, sl3, hm8, hm4]
   exact hK.out _ _ (Below.refl _ _) rfl
  ·intro A wx hR hout hdep K hK
   have h12 : _ = Value.int .i64 (min 8 12) := hout 12 (by kernel_rfl)
   refine yes ?_
   simp [go_sem, h12, sl0, sl1, sl2, sl3, hm8, hm4]
   exact hK.out _ _ (Below.refl _ _) rfl
  ·intro A wx hR hout hdep K hK
   have h46 : _ = Value.string ⟨#[36, 2, 0, 5, 16, 0, 0, 2, 140, 1, 16, 2]⟩ := hdep 46 (by kernel_rfl)
   have h47 : _ = Value.int .i64 8 := hdep 47 (by kernel_rfl)
   refine yes ?_
   simp [go_sem, h46, h47, sl0, sl1, sl2, sl3, hm8, hm4]
   exact hK.out _ _ (Below.refl _ _) rfl
  ·intro A wx hR hout hdep K hK
   have h48 : _ = Value.string ⟨#[36, 2, 0, 5, 16, 0, 0, 2]⟩ := hdep 48 (by kernel_rfl)
   refine yes ?_
   simp [go_sem, h48, sl0, sl1, sl2, sl3, hm8, hm4]
   refine (le55a wx).mono ?_
   rintro e wG ⟨rfl, rfl⟩
   exact hK.out _ _ (Below.refl _ _) rfl
  ·intro A wx hR hout hdep K hK
   have h43 : _ = Value.agg #[.slice a n p, .slice none 0 0] := hdep 43 (by kernel_rfl)
   have h44 : _ = Value.int .u64 4096 := hdep 44 (by kernel_rfl)
   have h45 : _ = Value.int .i64 8 := hdep 45 (by kernel_rfl)
   have h49 : _ = Value.int .u64 144115256879219236 := hdep 49 (by kernel_rfl)
   refine yes ?_
   simp [go_sem, h43, h44, h45, h49, sl0, sl1, sl2, sl3, hm8, hm4]
   refine (KS.out wx hR).mono ?_
   rintro e wG ⟨t1, t2, t3, rfl, ho, hbG⟩
   exact hK.out _ _ hbG ⟨t1, t2, t3, rfl, Gm.own_base ho hR.size⟩
  ·intro A wx hR hout hdep K hK
   refine yes ?_
   obtain ⟨t1, t2, t3, h50, ho⟩ := hdep 50 (by kernel_rfl)
   simp [go_sem, h50]
   exact hK.out _ _ (Below.refl _ _) ⟨t1, t2, t3, rfl, ho⟩
  ·intro A wx hR hout hdep K hK
   refine yes ?_
   obtain ⟨t1, t2, t3, h41, ho⟩ := hdep 41 (by kernel_rfl)
   simp [go_sem, h41]
   exact hK.out _ _ (Below.refl _ _) ⟨t1, t2, t3, rfl, ho⟩
  ·intro A wx hR hout hdep K hK
   refine yes ?_
   obtain ⟨t1, t2, t3, h41, ho⟩ := hdep 41 (by kernel_rfl)
   simp [go_sem, h41]
   exact hK.out _ _ (Below.refl _ _) rfl
  ·intro A wx hR hout hdep K hK
   have h4 : _ = Value.pointer (some ⟨w.heap.size, 0, none⟩) := hout 4 (by kernel_rfl)
   refine yes ?_
   simp [go_sem, h4, sl0, sl1, sl2, sl3, hm8, hm4]
   exact hK.out _ _ (Below.refl _ _) rfl
  obtain ⟨ll⟩ := listed
  match ll, hls with
  | [x0, x1, x2, x3, x4, x5, x6, x7, x8, x9, x10, x11, x12, x13], _ =>
  obtain rfl : x0 = true := h1 0 (by decide) (by decide)
  obtain rfl : x1 = true := h1 1 (by decide) (by decide)
  obtain rfl : x2 = true := h1 2 (by decide) (by decide)
  obtain rfl : x3 = true := h1 3 (by decide) (by decide)
  obtain rfl : x4 = true := h1 4 (by decide) (by decide)
  obtain rfl : x5 = true := h1 5 (by decide) (by decide)
  obtain rfl : x6 = true := h1 6 (by decide) (by decide)
  obtain rfl : x7 = true := h1 7 (by decide) (by decide)
  obtain rfl : x8 = true := h1 8 (by decide) (by decide)
  obtain rfl : x9 = true := h1 9 (by decide) (by decide)
  obtain rfl : x10 = true := h1 10 (by decide) (by decide)
  obtain rfl : x12 = true := h1 12 (by decide) (by decide)
  obtain rfl : x13 = false := h2 13 (by decide) (by decide)
  have h42 : f 42 = .pointer (some ⟨w.heap.size, 0, none⟩) := hf 0 42 (by decide) rfl rfl
  have h43 : f 43 = .agg #[.slice a n p, .slice none 0 0] := hf 1 43 (by decide) rfl rfl
  have h44 : f 44 = .int .u64 4096 := hf 2 44 (by decide) rfl rfl
  have h45 : f 45 = .int .i64 8 := hf 3 45 (by decide) rfl rfl
  have h46 : f 46 = .string ⟨#[36, 2, 0, 5, 16, 0, 0, 2, 140, 1, 16, 2]⟩ := hf 4 46 (by decide) rfl rfl
  have h47 : f 47 = .int .i64 8 := hf 5 47 (by decide) rfl rfl
  have h48 : f 48 = .string ⟨#[36, 2, 0, 5, 16, 0, 0, 2]⟩ := hf 6 48 (by decide) rfl rfl
  have h49 : f 49 = .int .u64 144115256879219236 := hf 7 49 (by decide) rfl rfl
  obtain ⟨u1, u2, u3, h50, _⟩ : TS (.slice a n p) w2.heap.size (csA) (f 50) wy := hf 8 50 (by decide) rfl rfl
  obtain ⟨v1, v2, v3, h41, _⟩ : TS (.slice a n p) w2.heap.size (csA) (f 41) wy := hf 9 41 (by decide) rfl rfl
  obtain ⟨t1, t2, t3, h51, ho⟩ : AS (.slice a n p) w2.heap.size (csA) (f 51) wy := hf 10 51 (by decide) rfl rfl
  have h53 : f 53 = .pointer (some ⟨w.heap.size, 0, none⟩) := hf 12 53 (by decide) rfl rfl
  obtain ⟨hb, kA, kB, kC, kD, gX⟩ := HQ.out
  have hb := below_tr hb hR
  have kA := kA.keep hR
  have kB := kB.keep hR
  have kC := kC.keep hR
  have kD := kD.keep hR
  have gX := gX.keep hR
  obtain ⟨l1, l2, l3⟩ := HL.out
  obtain ⟨c0, c1, c2, c3⟩ := kA.four
  have f0 := kA.frozen 0
  have f1 := kA.frozen 1
  obtain ⟨X, hX, g, s, k5⟩ := set2w wy w.heap.size (.slice a n p) (.slice t1 t2 t3)
  have HV : Hid (Below w.heap.size w X /\ Hk w.heap.size [.slice a n p, .slice t1 t2 t3, .int .u64 0, .slice a' n' p'] 33 X /\ Hk W0.heap.size z4 33 X /\ Hk W1.heap.size [.int .i64 0, .int .u64 0] 38 X /\ Hk w1.heap.size [.int .i64 0, .int .u64 0] 38 X /\ G12 0 X a n p a' n' p' csA t1 t2 t3) := ⟨below_row hb g (Nat.le_refl _), k5 _ _ kA, kB.row g (by omega), kC.row g (by omega), kD.row g (by omega), own_row gX.1 kA (by decide) g, own_row (Gm.own_base ho (Nat.zero_le _)) kA (by decide) g, own_row gX.2.2 kA (by decide) g⟩
  clear hb kA kB kC kD gX g s k5 hR ho HQ KS
  cases x11 with
  | false =>
   simp only [putSl, List.take_succ_cons, List.take_zero, Act.put, List.setIfInBounds_toArray, List.set_cons_zero, List.set_cons_succ, h42, h43, h44, h45, h46, h47, h48, h49, h50, h41, h51, h53] at hA
   subst hA
   rw [show Region.ready .any _ _ = [11, 13] by kernel_rfl] at hi
   have hi2 : i = 11 \/ i = 13 := by simpa using hi
   obtain rfl : i = 13 := by omega
   clear hi hi2 hmi
   refine wpOp_step (i := 13) rfl ?_
   intro K hK
   refine yes ?_
   simp [go_sem, c0, c1, f0, f1]
   refine hK _ _ ?_
   clear hK K
   change wpAny _ _ _ _ 1 _ _ _
   refine ready1 11 fun K hK => yes ?_
   simp [go_sem, sl0, sl1, sl2, sl3, hm8, hm4]
   refine hK _ _ ?_
   clear hK K
   refine wpAny_done (by kernel_rfl) ?_ _
   (try simp only [Act.put, List.setIfInBounds_toArray, List.set_cons_zero, List.set_cons_succ])
   go_wp2
   go_meet
   rw [hX]
   exact ⟨_, _, _, HV.out⟩
  | true =>
   have h52 : f 52 = .agg #[.int .i64 0, .int .u64 0] := hf 11 52 (by decide) rfl rfl
   simp only [putSl, List.take_succ_cons, List.take_zero, Act.put, List.setIfInBounds_toArray, List.set_cons_zero, List.set_cons_succ, h42, h43, h44, h45, h46, h47, h48, h49, h50, h41, h51, h53, h52] at hA
   subst hA
   rw [show Region.ready .any _ _ = [13] by kernel_rfl] at hi
   have hi2 : i = 13 := by simpa using hi
   obtain rfl : i = 13 := by omega
   clear hi hi2 hmi
   refine wpOp_step (i := 13) rfl ?_
   intro K hK
   refine yes ?_
   simp [go_sem, c0, c1, f0, f1]
   refine hK _ _ ?_
   clear hK K
   refine wpAny_done (by kernel_rfl) ?_ _
   (try simp only [Act.put, List.setIfInBounds_toArray, List.set_cons_zero, List.set_cons_succ])
   go_wp2
   go_meet
   rw [hX]
   exact ⟨_, _, _, HV.out⟩
 case rest =>
  obtain ⟨s1, s2, s3, hq⟩ := hcut
  obtain ⟨wd, hwd⟩ : ∃ z, z = wc := ⟨_, rfl⟩
  rw [<- hwd] at hq |-
  clear hwd c0 c1 c2 c3 f0 f1
  have HQ : Hid (Below w.heap.size w wd /\ Hk w.heap.size [.slice a n p, .slice s1 s2 s3, .int .u64 0, .slice a' n' p'] 33 wd /\ Hk W0.heap.size z4 33 wd /\ Hk W1.heap.size [.int .i64 0, .int .u64 0] 38 wd /\ Hk w1.heap.size [.int .i64 0, .int .u64 0] 38 wd /\ G12 0 wd a n p a' n' p' csA s1 s2 s3) := hq
  have KS : Hid (∀ wx, Below wd.heap.size wd wx -> Calls Tryz.prog 54 #[.agg #[.slice a n p, .slice s1 s2 s3], .int .u64 4104, .int .i64 4, .int .u64 34603404] wx fun e w' => ∃ s1 s2 s3, e = .returned (.tuple #[.agg #[.slice a n p, .slice s1 s2 s3], .agg #[.int .i64 0, .int .u64 0]]) /\ w'.ownsRow wx.heap.size 48 2 (.slice s1 s2 s3) csB.length (Gm.rowOf .u64 csB) /\ Below wx.heap.size wx w') := fun wx hx => by
   have h := store54l (.slice a n p) (.slice s1 s2 s3) [(0, 3)] csA 4104 4 34603404 wx 0 0 (Gm.own_keep hq.2.2.2.2.2.1 hx) (Gm.own_keep hq.2.2.2.2.2.2.1 hx) (by decide) (by decide) (by decide) (by decide) (by decide +kernel) okB
   rw [pkB] at h
   exact h
  obtain ⟨c0, c1, c2, c3⟩ := hq.2.1.four
  have f0 := hq.2.1.frozen 0
  have f1 := hq.2.1.frozen 1
  clear hq
  go_wp2_with fail
  rw [rounds_succ]
  go_wp2_with fail
  go_cut [] from 41 to 53 (fun wx => ∃ t1 t2 t3, Below w.heap.size w wx /\ Hk w.heap.size [.slice a n p, .slice t1 t2 t3, .int .u64 0, .slice a' n' p'] 33 wx /\ Hk W0.heap.size z4 33 wx /\ Hk W1.heap.size [.int .i64 0, .int .u64 0] 38 wx /\ Hk w1.heap.size [.int .i64 0, .int .u64 0] 38 wx /\ G12 0 wx a n p a' n' p' csB t1 t2 t3)
  case first =>
   refine wp_region_lates (R := Ext) [⟨42, fun v _ => v = .pointer (some ⟨w.heap.size, 0, none⟩), fun _ _ _ _ h => h⟩, ⟨43, fun v _ => v = .agg #[.slice a n p, .slice s1 s2 s3], fun _ _ _ _ h => h⟩, ⟨44, fun v _ => v = .int .u64 4104, fun _ _ _ _ h => h⟩, ⟨45, fun v _ => v = .int .i64 4, fun _ _ _ _ h => h⟩, ⟨46, fun v _ => v = .string ⟨#[140, 1, 16, 2]⟩, fun _ _ _ _ h => h⟩, ⟨47, fun v _ => v = .int .i64 4, fun _ _ _ _ h => h⟩, ⟨48, fun v _ => v = .string ⟨#[140, 1, 16, 2]⟩, fun _ _ _ _ h => h⟩, ⟨49, fun v _ => v = .int .u64 34603404, fun _ _ _ _ h => h⟩, ⟨50, TS (.slice a n p) wd.heap.size (csB), fun _ _ _ hb h => h.keep hb⟩, ⟨41, TS (.slice a n p) wd.heap.size (csB), fun _ _ _ hb h => h.keep hb⟩, ⟨51, AS (.slice a n p) wd.heap.size (csB), fun _ _ _ hb h => h.keep hb⟩, ⟨52, fun v _ => v = .agg #[.int .i64 0, .int .u64 0], fun _ _ _ _ h => h⟩, ⟨53, fun v _ => v = .pointer (some ⟨w.heap.size, 0, none⟩), fun _ _ _ _ h => h⟩] _ 13 [11] (by kernel_rfl) rfl (by kernel_rfl) (by decide) (by kernel_rfl) (Below.drew (Below.refl _ _)) (fun _ _ _ h1 h2 => below_tr h1 h2) (fun QQ => ⟨?_, ?_, ?_, ?_, ?_, ?_, ?_, ?_, ?_, ?_, ?_, ?_, ?_, trivial⟩) (fun listed f wy hls h1 h2 hR hf A hA i hi hmi => ?_)
   ·intro A wx hR hout hdep K hK
    have h4 : _ = Value.pointer (some ⟨w.heap.size, 0, none⟩) := hout 4 (by kernel_rfl)
    refine yes ?_
    simp [go_sem, h4, sl0, sl1, sl2, sl3, hm8, hm4]
    exact hK.out _ _ (Below.refl _ _) rfl
   ·intro A wx hR hout hdep K hK
    have h42 : _ = Value.pointer (some ⟨w.heap.size, 0, none⟩) := hdep 42 (by kernel_rfl)
    refine yes ?_
    have c0 := keep_cell hR c0
    have c1 := keep_cell hR c1
    have c2 := keep_cell hR c2
    have c3 := keep_cell hR c3
    simp [go_sem, h42, c0, c1, c2, c3, sl0, sl1, sl2, sl3, hm8, hm4]
    exact hK.out _ _ (Below.refl _ _) rfl
   ·intro A wx hR hout hdep K hK
    have h11 : _ = Value.int .u64 4104 := hout 11 (by kernel_rfl)
    refine yes ?_
    simp [go_sem, h11, sl0, sl1, sl2, sl3, hm8, hm4]
    exact hK.out _ _ (Below.refl _ _) rfl
   ·intro A wx hR hout hdep K hK
    have h12 : _ = Value.int .i64 (min 8 4) := hout 12 (by kernel_rfl)
    refine yes ?_
    simp [go_sem, h12, sl0, sl1, sl2, sl3, hm8, hm4]
    exact hK.out _ _ (Below.refl _ _) rfl
   ·intro A wx hR hout hdep K hK
    have h2 : _ = Value.string ⟨#[140, 1, 16, 2]⟩ := hout 2 (by kernel_rfl)
    refine yes ?_
    simp [go_sem, h2, sl0, sl1, sl2, sl3, hm8, hm4]
    exact hK.out _ _ (Below.refl _ _) rfl
   ·intro A wx hR hout hdep K hK
    have h12 : _ = Value.int .i64 (min 8 4) := hout 12 (by kernel_rfl)
    refine yes ?_
    simp [go_sem, h12, sl0, sl1, sl2, sl3, hm8, hm4]
    exact hK.out _ _ (Below.refl _ _) rfl
   ·intro A wx hR hout hdep K hK
    have h46 : _ = Value.string ⟨#[140, 1, 16, 2]⟩ := hdep 46 (by kernel_rfl)
    have h47 : _ = Value.int .i64 4 := hdep 47 (by kernel_rfl)
    refine yes ?_
    simp [go_sem, h46, h47, sl0, sl1, sl2, sl3, hm8, hm4]
    exact hK.out _ _ (Below.refl _ _) rfl
   ·intro A wx hR hout hdep K hK
    have h48 : _ = Value.string ⟨#[140, 1, 16, 2]⟩ := hdep 48 (by kernel_rfl)
    refine yes ?_
    simp [go_sem, h48, sl0, sl1, sl2, sl3, hm8, hm4]
    refine (le55b wx).mono ?_
    rintro e wG ⟨rfl, rfl⟩
    exact hK.out _ _ (Below.refl _ _) rfl
   ·intro A wx hR hout hdep K hK
    have h43 : _ = Value.agg #[.slice a n p, .slice s1 s2 s3] := hdep 43 (by kernel_rfl)
    have h44 : _ = Value.int .u64 4104 := hdep 44 (by kernel_rfl)
    have h45 : _ = Value.int .i64 4 := hdep 45 (by kernel_rfl)
    have h49 : _ = Value.int .u64 34603404 := hdep 49 (by kernel_rfl)
    refine yes ?_
    simp [go_sem, h43, h44, h45, h49, sl0, sl1, sl2, sl3, hm8, hm4]
    refine (KS.out wx hR).mono ?_
    rintro e wG ⟨t1, t2, t3, rfl, ho, hbG⟩
    exact hK.out _ _ hbG ⟨t1, t2, t3, rfl, Gm.own_base ho hR.size⟩
   ·intro A wx hR hout hdep K hK
    refine yes ?_
    obtain ⟨t1, t2, t3, h50, ho⟩ := hdep 50 (by kernel_rfl)
    simp [go_sem, h50]
    exact hK.out _ _ (Below.refl _ _) ⟨t1, t2, t3, rfl, ho⟩
   ·intro A wx hR hout hdep K hK
    refine yes ?_
    obtain ⟨t1, t2, t3, h41, ho⟩ := hdep 41 (by kernel_rfl)
    simp [go_sem, h41]
    exact hK.out _ _ (Below.refl _ _) ⟨t1, t2, t3, rfl, ho⟩
   ·intro A wx hR hout hdep K hK
    refine yes ?_
    obtain ⟨t1, t2, t3, h41, ho⟩ := hdep 41 (by kernel_rfl)
    simp [go_sem, h41]
    exact hK.out _ _ (Below.refl _ _) rfl
   ·intro A wx hR hout hdep K hK
    have h4 : _ = Value.pointer (some ⟨w.heap.size, 0, none⟩) := hout 4 (by kernel_rfl)
    refine yes ?_
    simp [go_sem, h4, sl0, sl1, sl2, sl3, hm8, hm4]
    exact hK.out _ _ (Below.refl _ _) rfl
   obtain ⟨ll⟩ := listed
   match ll, hls with
   | [x0, x1, x2, x3, x4, x5, x6, x7, x8, x9, x10, x11, x12, x13], _ =>
   obtain rfl : x0 = true := h1 0 (by decide) (by decide)
   obtain rfl : x1 = true := h1 1 (by decide) (by decide)
   obtain rfl : x2 = true := h1 2 (by decide) (by decide)
   obtain rfl : x3 = true := h1 3 (by decide) (by decide)
   obtain rfl : x4 = true := h1 4 (by decide) (by decide)
   obtain rfl : x5 = true := h1 5 (by decide) (by decide)
   obtain rfl : x6 = true := h1 6 (by decide) (by decide)
   obtain rfl : x7 = true := h1 7 (by decide) (by decide)
   obtain rfl : x8 = true := h1 8 (by decide) (by decide)
   obtain rfl : x9 = true := h1 9 (by decide) (by decide)
   obtain rfl : x10 = true := h1 10 (by decide) (by decide)
   obtain rfl : x12 = true := h1 12 (by decide) (by decide)
   obtain rfl : x13 = false := h2 13 (by decide) (by decide)
   have h42 : f 42 = .pointer (some ⟨w.heap.size, 0, none⟩) := hf 0 42 (by decide) rfl rfl
   have h43 : f 43 = .agg #[.slice a n p, .slice s1 s2 s3] := hf 1 43 (by decide) rfl rfl
   have h44 : f 44 = .int .u64 4104 := hf 2 44 (by decide) rfl rfl
   have h45 : f 45 = .int .i64 4 := hf 3 45 (by decide) rfl rfl
   have h46 : f 46 = .string ⟨#[140, 1, 16, 2]⟩ := hf 4 46 (by decide) rfl rfl
   have h47 : f 47 = .int .i64 4 := hf 5 47 (by decide) rfl rfl
   have h48 : f 48 = .string ⟨#[140, 1, 16, 2]⟩ := hf 6 48 (by decide) rfl rfl
   have h49 : f 49 = .int .u64 34603404 := hf 7 49 (by decide) rfl rfl
   obtain ⟨u1, u2, u3, h50, _⟩ : TS (.slice a n p) wd.heap.size (csB) (f 50) wy := hf 8 50 (by decide) rfl rfl
   obtain ⟨v1, v2, v3, h41, _⟩ : TS (.slice a n p) wd.heap.size (csB) (f 41) wy := hf 9 41 (by decide) rfl rfl
   obtain ⟨t1, t2, t3, h51, ho⟩ : AS (.slice a n p) wd.heap.size (csB) (f 51) wy := hf 10 51 (by decide) rfl rfl
   have h53 : f 53 = .pointer (some ⟨w.heap.size, 0, none⟩) := hf 12 53 (by decide) rfl rfl
   obtain ⟨hb, kA, kB, kC, kD, gX⟩ := HQ.out
   have hb := below_tr hb hR
   have kA := kA.keep hR
   have kB := kB.keep hR
   have kC := kC.keep hR
   have kD := kD.keep hR
   have gX := gX.keep hR
   obtain ⟨l1, l2, l3⟩ := HL.out
   obtain ⟨c0, c1, c2, c3⟩ := kA.four
   have f0 := kA.frozen 0
   have f1 := kA.frozen 1
   obtain ⟨X, hX, g, s, k5⟩ := set2w wy w.heap.size (.slice a n p) (.slice t1 t2 t3)
   have HV : Hid (Below w.heap.size w X /\ Hk w.heap.size [.slice a n p, .slice t1 t2 t3, .int .u64 0, .slice a' n' p'] 33 X /\ Hk W0.heap.size z4 33 X /\ Hk W1.heap.size [.int .i64 0, .int .u64 0] 38 X /\ Hk w1.heap.size [.int .i64 0, .int .u64 0] 38 X /\ G12 0 X a n p a' n' p' csB t1 t2 t3) := ⟨below_row hb g (Nat.le_refl _), k5 _ _ kA, kB.row g (by omega), kC.row g (by omega), kD.row g (by omega), own_row gX.1 kA (by decide) g, own_row (Gm.own_base ho (Nat.zero_le _)) kA (by decide) g, own_row gX.2.2 kA (by decide) g⟩
   clear hb kA kB kC kD gX g s k5 hR ho HQ KS
   cases x11 with
   | false =>
    simp only [putSl, List.take_succ_cons, List.take_zero, Act.put, List.setIfInBounds_toArray, List.set_cons_zero, List.set_cons_succ, h42, h43, h44, h45, h46, h47, h48, h49, h50, h41, h51, h53] at hA
    subst hA
    rw [show Region.ready .any _ _ = [11, 13] by kernel_rfl] at hi
    have hi2 : i = 11 \/ i = 13 := by simpa using hi
    obtain rfl : i = 13 := by omega
    clear hi hi2 hmi
    refine wpOp_step (i := 13) rfl ?_
    intro K hK
    refine yes ?_
    simp [go_sem, c0, c1, f0, f1]
    refine hK _ _ ?_
    clear hK K
    change wpAny _ _ _ _ 1 _ _ _
    refine ready1 11 fun K hK => yes ?_
    simp [go_sem, sl0, sl1, sl2, sl3, hm8, hm4]
    refine hK _ _ ?_
    clear hK K
    refine wpAny_done (by kernel_rfl) ?_ _
    (try simp only [Act.put, List.setIfInBounds_toArray, List.set_cons_zero, List.set_cons_succ])
    go_wp2
    go_meet
    rw [hX]
    exact ⟨_, _, _, HV.out⟩
   | true =>
    have h52 : f 52 = .agg #[.int .i64 0, .int .u64 0] := hf 11 52 (by decide) rfl rfl
    simp only [putSl, List.take_succ_cons, List.take_zero, Act.put, List.setIfInBounds_toArray, List.set_cons_zero, List.set_cons_succ, h42, h43, h44, h45, h46, h47, h48, h49, h50, h41, h51, h53, h52] at hA
    subst hA
    rw [show Region.ready .any _ _ = [13] by kernel_rfl] at hi
    have hi2 : i = 13 := by simpa using hi
    obtain rfl : i = 13 := by omega
    clear hi hi2 hmi
    refine wpOp_step (i := 13) rfl ?_
    intro K hK
    refine yes ?_
    simp [go_sem, c0, c1, f0, f1]
    refine hK _ _ ?_
    clear hK K
    refine wpAny_done (by kernel_rfl) ?_ _
    (try simp only [Act.put, List.setIfInBounds_toArray, List.set_cons_zero, List.set_cons_succ])
    go_wp2
    go_meet
    rw [hX]
    exact ⟨_, _, _, HV.out⟩
  case rest =>
   obtain ⟨r1, r2, r3, hq⟩ := hcut
   obtain ⟨hb, kA, kB, kC, kD, gX⟩ := hq
   obtain ⟨l1, l2, l3⟩ := HL.out
   clear c0 c1 c2 c3 f0 f1
   obtain ⟨c0, c1, c2, c3⟩ := kA.four
   obtain ⟨d0, d1⟩ := kD.two
   obtain ⟨e0, e1, e2, e3⟩ := kB.four
   obtain ⟨m0, m1⟩ := kC.two
   have x0 := kB.frozen 0
   have x1 := kB.frozen 1
   have x2 := kB.frozen 2
   have x3 := kB.frozen 3
   have y0 := kC.frozen 0
   have y1 := kC.frozen 1
   obtain ⟨X, hX, g, s, k5⟩ := set4w wc W0.heap.size (.slice a n p) (.slice r1 r2 r3) (.int .u64 0) (.slice a' n' p')
   have kC' := kC.row g (by omega)
   have k5 := k5 _ _ kB
   obtain ⟨Y, hY, g', s', k6⟩ := set2w X W1.heap.size (.int .i64 0) (.int .u64 0)
   have bY := below_row (below_row hb g (by omega)) g' (by omega)
   have gY := (gX.row kB g (by decide)).row kC' g' (by decide)
   have bd : Below Y.heap.size Y Y.drew := (Below.refl _ _).drew
   obtain ⟨q0, q1, q2, q3⟩ := ((k5.row g' (by omega)).keep bd).four
   obtain ⟨q4, q5⟩ := ((k6 _ _ kC').keep bd).two
   have HE : Hid (G12 0 Y.drew a n p a' n' p' csB r1 r2 r3 /\ Below w.heap.size w Y.drew) := ⟨gY.keep bd, below_tr bY bd⟩
   obtain ⟨o0, o1⟩ := (kD.row g (by omega)).two
   obtain ⟨n0, n1⟩ := kC'.two
   have z0 := kC'.frozen 0
   have z1 := kC'.frozen 1
   clear bd
   clear hb kA kB kC kD gX g s k5 kC' g' s' k6 bY gY l1 l2 l3 HL HQ KS
   go_wp2_with fail
   rw [rounds_succ]
   go_wp2_with fail
   go_region
   all_goals go_wp2
   all_goals (try simp only [Exit.inBlock, Exit.then])
   all_goals (try rw [hX, hY])
   all_goals refine bodyPost_ret (v := .tuple #[.agg #[.slice a n p, .slice r1 r2 r3, .int .u64 0, .slice a' n' p'], .agg #[.int .i64 0, .int .u64 0]]) ?_ rfl ⟨_, _, _, rfl, HE.out⟩
   all_goals (rw [Gm.results_cells rfl]; simp [go_sem, q0, q1, q2, q3, q4, q5])
set_option maxHeartbeats 2000000 in
theorem poke18l (a : Option Addr) (n p : Nat) (a' : Option Addr) (n' p' : Nat) (w : World) (hg : G12 0 w a n p a' n' p' [] none 0 0) : Calls Tryz.prog 18 #[.agg #[.slice a n p, .slice none 0 0, .int .u64 0, .slice a' n' p'], .int .u32 4096, .string ⟨#[36, 2, 0, 5, 16, 0, 0, 2, 140, 1, 16, 2]⟩] w fun e w' => ∃ t1 t2 t3, e = .returned (.tuple #[.agg #[.slice a n p, .slice t1 t2 t3, .int .u64 0, .slice a' n' p'], .agg #[.int .i64 0, .int .u64 0]]) /\ G12 0 w' a n p a' n' p' csB t1 t2 t3 /\ Below w.heap.size w w' := by
 obtain ⟨W0, hW0, b0, s0, k0⟩ := allocw w [.slice a n p, .slice none 0 0, .int .u64 0, .slice a' n' p'] 33
 obtain ⟨W1, hW1, b1, s1, k1⟩ := allocw W0 z4 33
 obtain ⟨W, hW, b2, s2, k2⟩ := allocw W1 [.int .i64 0, .int .u64 0] 38
 have kA := (k0.keep b1).keep b2
 have kB := k1.keep b2
 have hb := below_tr b0 (below_tr b1 b2)
 have HK : Hid (Below w.heap.size w W /\ Hk W0.heap.size z4 33 W /\ Hk W1.heap.size [.int .i64 0, .int .u64 0] 38 W /\ W0.heap.size = w.heap.size + 1 /\ W1.heap.size = w.heap.size + 2) := ⟨hb, kB, k2, s0, by omega⟩
 have K42 := put42l a n p a' n' p' W (hg.keep hb)
 obtain ⟨c0, c1, c2, c3⟩ := kA.four
 clear hg b0 s0 k0 b1 s1 k1 b2 s2 k2 kA kB hb
 go_enter Tryz.func18, Tryz.ntmps18
 go_wp2_with fail
 refine K42.mono ?_
 rintro e w1 ⟨r1, r2, r3, rfl, gX, hb1⟩
 clear c0 c1 c2 c3 K42
 obtain ⟨hb, kB, kC, l1, l2⟩ := HK.out
 have hb := below_tr hb hb1
 have kB := kB.keep hb1
 have kC := kC.keep hb1
 obtain ⟨e0, e1, e2, e3⟩ := kB.four
 obtain ⟨m0, m1⟩ := kC.two
 have x0 := kB.frozen 0
 have x1 := kB.frozen 1
 have x2 := kB.frozen 2
 have x3 := kB.frozen 3
 obtain ⟨X, hX, g, s, k5⟩ := set4w w1 W0.heap.size (.slice a n p) (.slice r1 r2 r3) (.int .u64 0) (.slice a' n' p')
 have kC' := kC.row g (by omega)
 have k5 := k5 _ _ kB
 obtain ⟨n0, n1⟩ := kC'.two
 have y0 := kC'.frozen 0
 have y1 := kC'.frozen 1
 obtain ⟨Y, hY, g', s', k6⟩ := set2w X W1.heap.size (.int .i64 0) (.int .u64 0)
 have bY := below_row (below_row hb g (by omega)) g' (by omega)
 have gY := (gX.row kB g (by decide)).row kC' g' (by decide)
 obtain ⟨q0, q1, q2, q3⟩ := (k5.row g' (by omega)).four
 obtain ⟨q4, q5⟩ := (k6 _ _ kC').two
 have HE : Hid (G12 0 Y a n p a' n' p' csB r1 r2 r3 /\ Below w.heap.size w Y) := ⟨gY, bY⟩
 clear hb kB kC gX g s k5 kC' g' s' k6 bY gY l1 l2 HK hb1 hW hW0 hW1
 go_wp2
 (try simp only [Exit.inBlock, Exit.then])
 refine bodyPost_ret (v := .tuple #[.agg #[.slice a n p, .slice r1 r2 r3, .int .u64 0, .slice a' n' p'], .agg #[.int .i64 0, .int .u64 0]]) ?_ rfl ⟨_, _, _, rfl, HE.out⟩
 rw [Gm.results_cells rfl]; simp [go_sem, q0, q1, q2, q3, q4, q5]
end Go.Proofs.YtimfipkbddpdmaaGreatDoor
