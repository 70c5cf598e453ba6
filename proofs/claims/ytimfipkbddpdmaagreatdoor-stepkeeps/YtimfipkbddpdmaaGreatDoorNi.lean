import Derived.Test.YtimfipkbddpdmaaGreatDoorMPk
import Derived.Test.YtimfipkbddpdmaaGreatDoorSm
set_option linter.unusedVariables false
set_option linter.unusedSimpArgs false
set_option maxRecDepth 100000
open Go Go.RowKit
namespace Go.Proofs.YtimfipkbddpdmaaGreatDoor.Gm
theorem wrong35l (w : World) : Calls Tryz.prog 35 #[.int .u32 1, .int .u32 1, .int .i64 7] w fun e w' => e = .returned (.bool false) /\ w' = w := by
 go_enter Tryz.func35, Tryz.ntmps35
 go_wp2
 go_ret
 exact ⟨rfl, rfl⟩
theorem wrong52l (w : World) : Calls Tryz.prog 52 #[.int .u64 0, .int .u64 1, .int .i64 3] w fun e w' => e = .returned (.bool false) /\ w' = w := by
 go_enter Tryz.func52, Tryz.ntmps52
 go_wp2
 go_ret
 exact ⟨rfl, rfl⟩
abbrev g0V : Value := .agg #[.slice none 0 0, .slice none 0 0, .int .u64 0, .slice none 0 0]
theorem hostPage37l (w : World) : Calls Tryz.prog 37 #[g0V, .int .u32 1] w fun e w' => e = .returned (.int .u64 0) /\ Below w.heap.size w w' := by
 obtain ⟨W, hW, hb, hsz, c0, c1, c2, c3, _⟩ := box4 w (.slice none 0 0) (.slice none 0 0) (.int .u64 0) (.slice none 0 0) 33
 have HB : Hid (Below w.heap.size w W) := hb
 clear hb hsz
 go_enter Tryz.func37, Tryz.ntmps37
 go_wp2
 go_ret
 exact ⟨rfl, HB.out⟩
theorem place40l (vm vc vp : Value) (w : World) (hm : ∃ a n p, vm = .slice a n p) (hc : ∃ a n p, vc = .slice a n p) (hp : ∃ a n p, vp = .slice a n p) : Calls Tryz.prog 40 #[.agg #[vm, vc, .int .u64 0, vp], .int .u32 4096] w fun e w' => e = .returned (.int .u64 4096) /\ Below w.heap.size w w' := by
 obtain ⟨W, hW, hb, hsz, c0, c1, c2, c3, _⟩ := box4 w vm vc (.int .u64 0) vp 33
 obtain ⟨_, _, _, rfl⟩ := hm
 obtain ⟨_, _, _, rfl⟩ := hc
 obtain ⟨_, _, _, rfl⟩ := hp
 have HB : Hid (Below w.heap.size w W) := hb
 clear hb hsz
 go_enter Tryz.func40, Tryz.ntmps40
 go_wp2
 go_ret
 exact ⟨rfl, HB.out⟩
theorem without36l (w : World) : Calls Tryz.prog 36 #[g0V, .int .u32 1, .int .u32 1] w fun e w' => e = .returned (.slice none 0 0) /\ Below w.heap.size w w' := by
 obtain ⟨W, hW, hb, hsz, c0, c1, c2, c3, _⟩ := box4 w (.slice none 0 0) (.slice none 0 0) (.int .u64 0) (.slice none 0 0) 33
 have HB : Hid (Below w.heap.size w W) := hb
 clear hb hsz
 go_enter Tryz.func36, Tryz.ntmps36
 go_wp2_with fail
 refine wp_loop_rounds 1 ?_
 rw [rounds_succ]
 go_wp2
 go_ret
 exact ⟨rfl, HB.out⟩
set_option maxHeartbeats 1000000 in
theorem clear39l (am : Option Addr) (nm pm : Nat) (w : World) : Calls Tryz.prog 39 #[.agg #[.slice am nm pm, .slice none 0 0], .int .u64 4096, .int .u64 4096] w fun e w' => e = .returned (.agg #[.slice am nm pm, .slice none 0 0]) /\ Below w.heap.size w w' := by
 obtain ⟨W, hW, hb, hsz, c0, c1, f0, f1, g0, g1⟩ := box2b w (.slice am nm pm) (.slice none 0 0) (.slice none 0 0) (.slice none 0 0) 29 29
 have HB : Hid (Below w.heap.size w W /\ Free W ⟨w.heap.size + 1, 0, none⟩ /\ Free W ⟨w.heap.size + 1, 1, none⟩) := ⟨hb, g0, g1⟩
 have z1 := f1.frozen
 have y0 := g0.frozen
 have y1 := g1.frozen
 have x0 := g0.cell
 have x1 := g1.cell
 clear hb hsz f0 f1 g0 g1
 go_enter Tryz.func39, Tryz.ntmps39
 go_wp2_with fail
 refine wp_loop_rounds 1 ?_
 rw [rounds_succ]
 go_wp2
 obtain ⟨r0, r1⟩ := res2 (W.setCell ⟨w.heap.size, 1, none⟩ (.slice none 0 0)) (w.heap.size + 1) (.slice am nm pm) (.slice none 0 0) (HB.out.2.1.set _ _) (HB.out.2.2.set _ _)
 refine bodyPost_ret (v := .agg #[.slice am nm pm, .slice none 0 0]) ?_ rfl ⟨rfl, below_set (below_set (below_set HB.out.1 (by simp) _) (by simp) _) (by simp) _⟩
 rw [results_cell1 rfl]; simp [go_sem, r0, r1]
set_option maxHeartbeats 2000000 in
theorem with41l (w : World) : Calls Tryz.prog 41 #[.slice none 0 0, .int .u32 1, .int .u32 1, .int .i64 7] w fun e w' => ∃ v, e = .returned v /\ w'.ownsRow w.heap.size 45 2 v 1 (Pg.rowOf .i64 [(1, 7)]) /\ Below w.heap.size w w' := by
 obtain ⟨i0, hi, hz0, hz1, hz2⟩ := info_parts Pg.info54
 go_enter Tryz.func41, Tryz.ntmps41
 go_wp2_with fail
 refine wp_loop_rounds 2 ?_
 rw [rounds_succ]
 go_wp2_with fail
 refine wp_loop_rounds 2 ?_
 rw [rounds_succ]
 go_wp2_with (at_builtin; go_loud (refine wpList_append_own _ rfl (.tmp 41) (.tmp 47) 31 rfl w.heap.size 45 i0 _ 2 16 Tryz.underlying31 hi hz0 hz1 hz2 rfl (by decide) _ _ _ rfl (own_alloc (World.ownsRow_nil w w.heap.size 45 2) _) ⟨_, 0, none⟩ 1 1 [.int .u32 1, .int .i64 7] rfl rfl (cells2 _ _ _ _) (by intro u hu; simp at hu; rcases hu with rfl | rfl <;> rfl) (by unfold maxLen; simp) (by simp) (by simp) ?_; intro sv w2 how2 hgr2 _; obtain ⟨sa2, sn2, sp2, rfl⟩ := own_shape how2))
 have R2 : w2.ownsRow w.heap.size 45 2 (.slice sa2 sn2 sp2) 1 (Pg.rowOf .i64 [(1, 7)]) := by simpa [Pg.rowOf] using how2
 have B2 : Below w.heap.size w w2 := app_below _ (Below.refl _ _) (Nat.le_refl _) hgr2 (own_ge (World.ownsRow_nil w w.heap.size 45 2))
 have HR : Hid (w2.ownsRow w.heap.size 45 2 (.slice sa2 sn2 sp2) 1 (Pg.rowOf .i64 [(1, 7)]) /\ Below w.heap.size w w2) := ⟨R2, B2⟩
 clear R2 B2 how2 hgr2
 rw [rounds_succ]
 go_wp2_with fail
 rw [rounds_succ]
 go_wp2
 go_ret
 exact ⟨_, rfl, HR.out⟩
set_option maxHeartbeats 2000000 in
theorem map38l (w : World) : Calls Tryz.prog 38 #[.agg #[.slice none 0 0, .slice none 0 0], .int .u64 0, .int .u64 1, .int .i64 3] w fun e w' => ∃ a n p, e = .returned (.tuple #[.agg #[.slice a n p, .slice none 0 0], .int .i64 0]) /\ w'.ownsRow w.heap.size 86 2 (.slice a n p) 1 (rowOf .i64 [(0, 3)]) /\ Below w.heap.size w w' := by
 obtain ⟨W, hW, hb, hsz, c0, c1, f0, f1, g0, g1⟩ := box2b w (.slice none 0 0) (.slice none 0 0) (.slice none 0 0) (.slice none 0 0) 29 29
 obtain ⟨i0, hi, hz0, hz1, hz2⟩ := info_parts info54
 have HB : Hid (Below w.heap.size w W /\ W.heap.size = w.heap.size + 1 + 1 /\ Free W ⟨w.heap.size, 0, none⟩ /\ Free W ⟨w.heap.size + 1, 0, none⟩ /\ Free W ⟨w.heap.size + 1, 1, none⟩) := ⟨hb, hsz, f0, g0, g1⟩
 clear hb hsz f0 f1 g0 g1
 go_enter Tryz.func38, Tryz.ntmps38
 go_wp2_with fail
 refine (wrong52l W).mono ?_
 rintro e w1 ⟨rfl, rfl⟩
 go_wp2_with fail
 refine wp_loop_rounds 1 ?_
 rw [rounds_succ]
 go_wp2_with fail
 refine wp_loop_rounds 2 ?_
 rw [rounds_succ]
 go_wp2_with fail
 refine wp_loop_rounds 2 ?_
 rw [rounds_succ]
 go_wp2_with (at_builtin; go_loud (refine wpList_append_own _ rfl (.tmp 84) (.tmp 90) 26 rfl w1.heap.size 86 i0 _ 2 16 Tryz.underlying26 hi hz0 hz1 hz2 rfl (by decide) _ _ _ rfl (own_alloc (World.ownsRow_nil w1 w1.heap.size 86 2) _) ⟨_, 0, none⟩ 1 1 [.int .u64 0, .int .i64 3] rfl rfl (cells2 _ _ _ _) (by intro u hu; simp at hu; rcases hu with rfl | rfl <;> rfl) (by unfold maxLen; simp) (by simp) (by simp) ?_; intro sv w2 how2 hgr2 _; obtain ⟨sa2, sn2, sp2, rfl⟩ := own_shape how2))
 have R2 := app_own (xs := []) (p := 0) (r := 3) how2
 have B2 : Below w1.heap.size w1 w2 := app_below _ (Below.refl _ _) (Nat.le_refl _) hgr2 (own_ge (World.ownsRow_nil w1 w1.heap.size 86 2))
 obtain ⟨q1, q2, q3, q4, q5⟩ := HB.out
 have f0 := q3.keep B2
 have g0 := q4.keep B2
 have g1 := q5.keep B2
 have HR : Hid (w2.ownsRow w1.heap.size 86 2 (.slice sa2 sn2 sp2) 1 (rowOf .i64 [(0, 3)]) /\ Below w.heap.size w w2 /\ w1.heap.size = w.heap.size + 1 + 1 /\ Free w2 ⟨w.heap.size + 1, 0, none⟩ /\ Free w2 ⟨w.heap.size + 1, 1, none⟩) := ⟨R2, below_tr q1 B2, q2, g0, g1⟩
 have d0 := keep_cell B2 c0
 have d1 := keep_cell B2 c1
 have z0 := f0.frozen
 have y0 := g0.frozen
 have y1 := g1.frozen
 have x0 := g0.cell
 have x1 := g1.cell
 clear R2 B2 how2 hgr2 q1 q2 q3 q4 q5 f0 g0 g1 c0 c1 hW hi hz0 hz1 hz2
 rw [rounds_succ]
 go_wp2_with fail
 rw [rounds_succ]
 go_wp2
 obtain ⟨q1, q2, q3, q4, q5⟩ := HR.out
 obtain ⟨r0, r1⟩ := res2 (w2.setCell ⟨w.heap.size, 0, none⟩ (.slice sa2 sn2 sp2)) (w.heap.size + 1) (.slice sa2 sn2 sp2) (.slice none 0 0) (q4.set _ _) (q5.set _ _)
 refine bodyPost_ret (v := .tuple #[.agg #[.slice sa2 sn2 sp2, .slice none 0 0], .int .i64 0]) ?_ rfl ⟨_, _, _, rfl, res2_own (ownsRow_setCell_below q1 (show w.heap.size < w1.heap.size by omega) _) (by omega) (by omega), below_set (below_set (below_set q2 (by simp) _) (by simp) _) (by simp) _⟩
 rw [results_cell_tmp rfl]; simp [go_sem, r0, r1]
end Go.Proofs.YtimfipkbddpdmaaGreatDoor.Gm
namespace Go.Proofs.YtimfipkbddpdmaaGreatDoor
def Hk (n : Nat) (cs : List Value) (t : Nat) (w : World) : Prop := w.heap[n]? = some (.cells cs.toArray t (0, 0))
theorem Hk.lt {n t : Nat} {cs : List Value} {w : World} (h : Hk n cs t w) : n < w.heap.size := (Array.getElem?_eq_some_iff.1 h).1
theorem Hk.keep {n t : Nat} {cs : List Value} {w w' : World} (h : Hk n cs t w) (hb : Below w.heap.size w w') : Hk n cs t w' := (hb.block n h.lt).trans h
theorem Hk.row {n t b : Nat} {cs : List Value} {w w' : World} (h : Hk n cs t w) (hg : w.grownBy w' (some b)) (hn : n ≠ b) : Hk n cs t w' := (hg.block n h.lt (by intro e; injection e with e; exact hn e)).trans h
theorem Hk.at_ {n t : Nat} {cs : List Value} {w : World} (h : Hk n cs t w) (k : Nat) {v : Value} (hv : cs[k]? = some v) : w.cell? ⟨n, k, none⟩ = some v := by
 have h' : w.heap[n]? = _ := h
 simp [World.cell?, h', hv]
theorem Hk.frozen {n t : Nat} {cs : List Value} {w : World} (h : Hk n cs t w) (k : Nat) : w.frozen? ⟨n, k, none⟩ = false := by
 have h' : w.heap[n]? = _ := h
 simp [World.frozen?, h']
theorem Hk.new (w : World) (cs : List Value) (t : Nat) : Hk w.heap.size cs t (w.alloc (.cells cs.toArray t)) := heap_alloc_new w _
theorem Hk.set {n t : Nat} {cs : List Value} {w : World} (h : Hk n cs t w) (k : Nat) (v : Value) : Hk n (cs.set k v) t (w.setCell ⟨n, k, none⟩ v) := by
 have := blk_set h k v
 rw [List.setIfInBounds_toArray] at this
 exact this
theorem Hk.four {n t : Nat} {a b c d : Value} {w : World} (h : Hk n [a, b, c, d] t w) : w.cell? ⟨n, 0, none⟩ = some a /\ w.cell? ⟨n, 1, none⟩ = some b /\ w.cell? ⟨n, 2, none⟩ = some c /\ w.cell? ⟨n, 3, none⟩ = some d := ⟨h.at_ 0 rfl, h.at_ 1 rfl, h.at_ 2 rfl, h.at_ 3 rfl⟩
theorem Hk.two {n t : Nat} {a b : Value} {w : World} (h : Hk n [a, b] t w) : w.cell? ⟨n, 0, none⟩ = some a /\ w.cell? ⟨n, 1, none⟩ = some b := ⟨h.at_ 0 rfl, h.at_ 1 rfl⟩
theorem set2w (w : World) (n : Nat) (x y : Value) : ∃ z, (w.setCell ⟨n, 0, none⟩ x).setCell ⟨n, 1, none⟩ y = z /\ w.grownBy z (some n) /\ z.heap.size = w.heap.size /\ ∀ t cs, Hk n cs t w -> Hk n ((cs.set 0 x).set 1 y) t z :=
 ⟨_, rfl, gb_trans (grown_setk _ n 0 _) (grown_setk _ n 1 _), by simp [World.setCell], fun t cs h => (h.set 0 x).set 1 y⟩
theorem set4w (w : World) (n : Nat) (x y u v : Value) : ∃ z, (((w.setCell ⟨n, 0, none⟩ x).setCell ⟨n, 1, none⟩ y).setCell ⟨n, 2, none⟩ u).setCell ⟨n, 3, none⟩ v = z /\ w.grownBy z (some n) /\ z.heap.size = w.heap.size /\ ∀ t cs, Hk n cs t w -> Hk n ((((cs.set 0 x).set 1 y).set 2 u).set 3 v) t z :=
 ⟨_, rfl, gb_trans (gb_trans (gb_trans (grown_setk _ n 0 _) (grown_setk _ n 1 _)) (grown_setk _ n 2 _)) (grown_setk _ n 3 _), by simp [World.setCell], fun t cs h => (((h.set 0 x).set 1 y).set 2 u).set 3 v⟩
theorem allocw (w : World) (cs : List Value) (t : Nat) : ∃ z, w.alloc (.cells cs.toArray t) = z /\ Below w.heap.size w z /\ z.heap.size = w.heap.size + 1 /\ Hk w.heap.size cs t z :=
 ⟨_, rfl, (Below.refl _ _).alloc (Nat.le_refl _) _, by simp, Hk.new w cs t⟩
theorem below_row {w w1 w2 : World} {n : Nat} (h : Below w.heap.size w w1) (hg : w1.grownBy w2 (some n)) (hn : w.heap.size <= n) : Below w.heap.size w w2 :=
 ⟨hg.os.trans h.os, hg.tape.trans h.tape, hg.output.trans h.output, Nat.le_trans h.size hg.size, fun k hk => (hg.block k (Nat.lt_of_lt_of_le hk h.size) (by intro e; injection e with e; omega)).trans (h.block k hk)⟩
abbrev z2 : List Value := [.slice none 0 0, .slice none 0 0]
abbrev z4 : List Value := [.slice none 0 0, .slice none 0 0, .int .u64 0, .slice none 0 0]
def M17 (B : Nat) (w : World) (e : Ending) : Prop := ∃ a n p a' n' p', e = .returned (.tuple #[.agg #[.slice a n p, .slice none 0 0, .int .u64 0, .slice a' n' p'], .int .i64 0]) /\ Gm.OwnG B w (.slice a n p) (.slice none 0 0) (.slice a' n' p') [(0, 3)] [] [(1, 7)]
theorem used34l (w : World) : Calls Tryz.prog 34 #[Gm.g0V, .int .u64 0] w fun e w' => e = .returned (.bool false) /\ Below w.heap.size w w' := by
 refine (Gm.rused34 (.slice none 0 0) (.slice none 0 0) (.slice none 0 0) 0 0 [] w ⟨_, _, _, rfl⟩ ⟨_, _, _, rfl⟩ ⟨_, _, rfl, Nat.le_refl _, by decide, fun _ => rfl, fun i h => absurd h (by simp)⟩ (by decide) (by decide) (fun x h => absurd h (by simp))).mono ?_
 rintro e w' ⟨rfl, hb⟩
 exact ⟨rfl, hb⟩
theorem map17_own {W : World} {a a' : Option Addr} {n p n' p' B : Nat} (h1 : W.ownsRow B 86 2 (.slice a n p) 1 (Gm.rowOf .i64 [(0, 3)])) (h2 : W.ownsRow B 45 2 (.slice a' n' p') 1 (Gm.Pg.rowOf .i64 [(1, 7)])) : Gm.OwnG B W (.slice a n p) (.slice none 0 0) (.slice a' n' p') [(0, 3)] [] [(1, 7)] :=
 ⟨⟨h1, World.ownsRow_nil W B 48 2⟩, h2⟩
set_option maxHeartbeats 4000000 in
theorem map17l (w : World) : Calls Tryz.prog 17 #[Gm.g0V, .int .u32 1, .int .u32 1, .int .i64 7] w fun e w' => M17 w.heap.size w' e /\ Below w.heap.size w w' := by
 obtain ⟨W0, hW0, b0, s0, k0⟩ := allocw w z4 33
 obtain ⟨W, hW, b1, s1, k1⟩ := allocw W0 z4 33
 have kA := k0.keep b1
 have HW : Hid (Below w.heap.size w W /\ Hk w.heap.size z4 33 W /\ Hk W0.heap.size z4 33 W /\ W0.heap.size = w.heap.size + 1 /\ W.heap.size = w.heap.size + 2) := ⟨below_tr b0 b1, kA, k1, by omega, by omega⟩
 obtain ⟨c0, c1, c2, c3⟩ := kA.four
 clear b0 s0 k0 b1 s1 k1 kA
 go_enter Tryz.func17, Tryz.ntmps17
 go_wp2_with fail
 refine (Gm.wrong35l _).mono ?_
 rintro e w1 ⟨rfl, rfl⟩
 go_wp2_with fail
 refine (Gm.without36l _).mono ?_
 rintro e w2 ⟨rfl, hb2⟩
 obtain ⟨q1, kA, kB, q3, q4⟩ := HW.out
 have kA := kA.keep hb2
 have kB := kB.keep hb2
 have b2 := below_tr q1 hb2
 obtain ⟨p0, p1, p2, p3⟩ := kA.four
 obtain ⟨X1, hX1, g1, s1, k1⟩ := allocw w2 z2 29
 obtain ⟨X2, hX2, g2, s2, k2⟩ := set2w X1 w2.heap.size (.slice none 0 0) (.slice none 0 0)
 have k2 := k2 _ _ k1
 have hSN : w.heap.size + 2 <= w2.heap.size := by have := hb2.size; omega
 have kA := (kA.keep g1).row g2 (by omega)
 have kB := (kB.keep g1).row g2 (by omega)
 have b2 := below_row (below_tr b2 g1) g2 (by omega)
 clear c0 c1 c2 c3
 obtain ⟨c0, c1, c2, c3⟩ := kA.four
 have f0 := k1.frozen 0
 have f1 := k1.frozen 1
 have d0 := k1.at_ 0 rfl
 have d1 := k1.at_ 1 rfl
 have KK : Hid (Hk w.heap.size z4 33 X2 /\ Hk W0.heap.size z4 33 X2 /\ Hk w2.heap.size z2 29 X2 /\ Below w.heap.size w X2 /\ w.heap.size + 2 <= w2.heap.size /\ W0.heap.size = w.heap.size + 1) := ⟨kA, kB, k2, b2, hSN, q3⟩
 clear kA kB k2 b2 g1 s1 k1 g2 s2 hb2 q1 q3 q4 HW hW hW0
 go_wp2_with fail
 refine (Gm.hostPage37l X2).mono ?_
 rintro e w3 ⟨rfl, hb3⟩
 clear c0 c1 c2 c3 d0 d1 f0 f1 p0 p1 p2 p3
 obtain ⟨kA, kB, kN, b2, hSN, q3⟩ := KK.out
 have kA := kA.keep hb3
 have kN := kN.keep hb3
 obtain ⟨c0, c1, c2, c3⟩ := kA.four
 go_wp2_with fail
 refine wp_loop_rounds 2 ?_
 rw [rounds_succ]
 go_wp2_with fail
 refine (Gm.hostPage37l w3).mono ?_
 rintro e w4 ⟨rfl, hb4⟩
 clear c0 c1 c2 c3
 have kA := kA.keep hb4
 have kN := kN.keep hb4
 obtain ⟨c0, c1, c2, c3⟩ := kA.four
 go_wp2_with fail
 refine (used34l w4).mono ?_
 rintro e w5 ⟨rfl, hb5⟩
 clear c0 c1 c2 c3
 have kA := kA.keep hb5
 have kN := kN.keep hb5
 obtain ⟨c0, c1, c2, c3⟩ := kA.four
 obtain ⟨d0, d1⟩ := kN.two
 go_wp2_with fail
 refine (Gm.map38l w5).mono ?_
 rintro e w6 ⟨a, n, p, rfl, own, hb6⟩
 clear c0 c1 c2 c3 d0 d1
 have b6 := below_tr b2 (below_tr hb3 (below_tr hb4 (below_tr hb5 hb6)))
 have kA := kA.keep hb6
 have kN := kN.keep hb6
 have kB := (kB.keep (below_tr hb3 (below_tr hb4 hb5))).keep hb6
 obtain ⟨X3, hX3, g3, s3, k3⟩ := allocw w6 z2 29
 obtain ⟨X4, hX4, g4, s4, k4⟩ := set2w X3 w6.heap.size (.slice a n p) (.slice none 0 0)
 have y0 := k3.at_ 0 rfl
 have y1 := k3.at_ 1 rfl
 have x0 := k3.frozen 0
 have x1 := k3.frozen 1
 have k4 := k4 _ _ k3
 have lA := kA.lt
 have lB := kB.lt
 have lN := kN.lt
 have own := own_row (Gm.own_keep own g3) k3 (by decide) g4
 have kA := (kA.keep g3).row g4 (by omega)
 have kB := (kB.keep g3).row g4 (by omega)
 have kN := (kN.keep g3).row g4 (by omega)
 have b4 := below_row (below_tr b6 g3) g4 (by omega)
 obtain ⟨d0, d1⟩ := kN.two
 obtain ⟨e0, e1⟩ := k4.two
 have f0 := kN.frozen 0
 have f1 := kN.frozen 1
 obtain ⟨X5, hX5, g5, s5, k5⟩ := set2w X4 w2.heap.size (.slice a n p) (.slice none 0 0)
 have k5 := k5 _ _ kN
 have own := own_row own kN (by decide) g5
 have kA := kA.row g5 (by omega)
 have kB := kB.row g5 (by omega)
 have b5 := below_row b4 g5 (by omega)
 have K5 : Hid (Hk w.heap.size z4 33 X5 /\ Hk W0.heap.size z4 33 X5 /\ Hk w2.heap.size [.slice a n p, .slice none 0 0] 29 X5 /\ Below w.heap.size w X5 /\ X5.ownsRow w5.heap.size 86 2 (.slice a n p) 1 (Gm.rowOf .i64 [(0, 3)]) /\ w.heap.size + 2 <= w2.heap.size /\ W0.heap.size = w.heap.size + 1 /\ w.heap.size <= w5.heap.size) := ⟨kA, kB, k5, b5, own, hSN, q3, by have := b6.size; have := hb6.size; have := b2.size; have := hb3.size; have := hb4.size; have := hb5.size; omega⟩
 obtain ⟨c0, c1, c2, c3⟩ := kA.four
 clear lA lB lN own kA kB kN b4 k3 k4 g3 g4 g5 s3 s4 s5 k5 b5 b6 hb3 hb4 hb5 hb6 KK b2 hSN q3
 go_wp2_with fail
 rw [rounds_succ]
 go_wp2_with fail
 refine (Gm.hostPage37l X5).mono ?_
 rintro e w7 ⟨rfl, hb7⟩
 clear c0 c1 c2 c3 d0 d1 e0 e1 f0 f1 x0 x1 y0 y1 hX1 hX2 hX3 hX4 hX5
 obtain ⟨kA, kB, kN, b5, own, l1, l2, l3⟩ := K5.out
 have K7 : Hid (Hk w.heap.size z4 33 w7 /\ Hk W0.heap.size z4 33 w7 /\ Below w.heap.size w w7 /\ w7.ownsRow w5.heap.size 86 2 (.slice a n p) 1 (Gm.rowOf .i64 [(0, 3)]) /\ w.heap.size + 2 <= w2.heap.size /\ W0.heap.size = w.heap.size + 1 /\ w.heap.size <= w5.heap.size) := ⟨kA.keep hb7, kB.keep hb7, below_tr b5 hb7, Gm.own_keep own hb7, l1, l2, l3⟩
 obtain ⟨c0, c1, c2, c3⟩ := (kA.keep hb7).four
 obtain ⟨d0, d1⟩ := (kN.keep hb7).two
 clear kA kB kN b5 own l1 l2 l3 hb7 K5
 go_wp2_with fail
 refine wp_region_valsL [.agg #[.slice a n p, .slice none 0 0], Gm.g0V, .int .u32 1, .int .u32 4096, .int .u64 4096, .int .u32 1, .int .u64 1, .int .u64 4096, .agg #[.slice a n p, .slice none 0 0], .pointer (some ⟨w.heap.size, 0, none⟩)] _ 10 _ (by kernel_rfl) rfl (by kernel_rfl) rfl rfl rfl (by kernel_rfl) (by kernel_rfl) (fun C hC => ?_)
 simp only [putVs, List.take_succ_cons, List.take_zero, Act.put, List.setIfInBounds_toArray, List.set_cons_zero, List.set_cons_succ] at hC
 subst hC
 refine ⟨?_, fun wy hR K hK => ?_⟩
 ·repeat' refine And.intro ?_ ?_
  all_goals first | exact True.intro | intro wx hR
  all_goals try (refine yes ?_; have c0 := keep_cell hR c0; have c1 := keep_cell hR c1; have c2 := keep_cell hR c2; have c3 := keep_cell hR c3; have d0 := keep_cell hR d0; have d1 := keep_cell hR d1; simp [go_sem, c0, c1, c2, c3, d0, d1]; exact lands)
  ·refine yes ?_
   simp [go_sem]
   refine (Gm.place40l _ _ _ wx ⟨_, _, _, rfl⟩ ⟨_, _, _, rfl⟩ ⟨_, _, _, rfl⟩).mono ?_
   rintro e wG ⟨rfl, hbG⟩
   exact landsAt hbG
  ·refine yes ?_
   simp [go_sem]
   refine (Gm.clear39l a n p wx).mono ?_
   rintro e wG ⟨rfl, hbG⟩
   exact landsAt hbG
 obtain ⟨kA, kB, b7, own, l1, l2, l3⟩ := K7.out
 have kA := kA.keep hR
 have kB := kB.keep hR
 have b7 := below_tr b7 hR
 have own := Gm.own_keep own hR
 obtain ⟨X8, hX8, g8, s8, k8⟩ := set2w wy w.heap.size (.slice a n p) (.slice none 0 0)
 have k8 := k8 _ _ kA
 have own := own_row own kA (by decide) g8
 have kB := kB.row g8 (by omega)
 have b8 := below_row b7 g8 (by omega)
 have f0 := kA.frozen 0
 have f1 := kA.frozen 1
 clear c0 c1 c2 c3 d0 d1
 obtain ⟨c0, c1, c2, c3⟩ := kA.four
 have K8 : Hid (Hk w.heap.size [.slice a n p, .slice none 0 0, .int .u64 0, .slice none 0 0] 33 X8 /\ Hk W0.heap.size z4 33 X8 /\ Below w.heap.size w X8 /\ X8.ownsRow w5.heap.size 86 2 (.slice a n p) 1 (Gm.rowOf .i64 [(0, 3)]) /\ W0.heap.size = w.heap.size + 1 /\ w.heap.size <= w5.heap.size) := ⟨k8, kB, b8, own, l2, l3⟩
 clear K7 kA kB b7 own l1 l2 l3 k8 b8 g8 s8 hR
 go_simp
 refine hK.out _ _ ?_
 clear hK K
 (try rw [hX8])
 clear c0 c1 c2 c3 f0 f1
 obtain ⟨k8, kB, b8, own, l2, l3⟩ := K8.out
 obtain ⟨c0, c1, c2, c3⟩ := k8.four
 clear k8 kB b8 own l2 l3
 go_wp2_with fail
 refine (Gm.with41l X8).mono ?_
 rintro e w9 ⟨v, rfl, ownp, hb9⟩
 obtain ⟨a', n', p', rfl⟩ := Gm.own_shape ownp
 clear c0 c1 c2 c3
 obtain ⟨k8, kB, b8, own, l2, l3⟩ := K8.out
 have k8 := k8.keep hb9
 have kB := kB.keep hb9
 have own := Gm.own_keep own hb9
 have f3 := k8.frozen 3
 have c3 := k8.at_ 3 rfl
 obtain ⟨X10, hX10⟩ : ∃ z, w9.setCell ⟨w.heap.size, 3, none⟩ (.slice a' n' p') = z := ⟨_, rfl⟩
 have g10 : w9.grownBy X10 (some w.heap.size) := by rw [<- hX10]; exact grown_setk _ _ _ _
 have k10 : Hk w.heap.size [.slice a n p, .slice none 0 0, .int .u64 0, .slice a' n' p'] 33 X10 := by rw [<- hX10]; exact k8.set 3 _
 have own := own_row own k8 (by decide) g10
 have ownp := own_row ownp k8 (by decide) g10
 have kB := kB.row g10 (by omega)
 have b10 := below_row (below_tr b8 hb9) g10 (by omega)
 obtain ⟨c0, c1, c2, c3'⟩ := k10.four
 rw [l2] at kB
 obtain ⟨e0, e1, e2, e3⟩ := kB.four
 have x0 := kB.frozen 0
 have x1 := kB.frozen 1
 have x2 := kB.frozen 2
 have x3 := kB.frozen 3
 obtain ⟨XE, hXE, g11, s11, k11⟩ := set4w X10 (w.heap.size + 1) (.slice a n p) (.slice none 0 0) (.int .u64 0) (.slice a' n' p')
 have k11 := k11 _ _ kB
 have own := own_row own kB (by decide) g11
 have ownp := own_row ownp kB (by decide) g11
 have b11 := below_row b10 g11 (by omega)
 obtain ⟨r0, r1, r2, r3⟩ := k11.four
 have HE : Hid (Gm.OwnG w.heap.size XE (.slice a n p) (.slice none 0 0) (.slice a' n' p') [(0, 3)] [] [(1, 7)] /\ Below w.heap.size w XE) := ⟨map17_own (Gm.own_base own l3) (Gm.own_base ownp b8.size), b11⟩
 clear own ownp b10 b11 k11 g11 s11 kB k10 g10 k8 b8 l2 l3 K8 hb9
 go_wp2
 (try simp only [Exit.inBlock, Exit.then])
 refine bodyPost_ret (v := .tuple #[.agg #[.slice a n p, .slice none 0 0, .int .u64 0, .slice a' n' p'], .int .i64 0]) ?_ rfl ⟨⟨_, _, _, _, _, _, rfl, HE.out.1⟩, HE.out.2⟩
 rw [results_cell_tmp rfl]; simp [go_sem, r0, r1, r2, r3]
set_option maxHeartbeats 1000000 in
theorem kind47l (vm vc vp : Value) (at_ : Nat) (h1 : 4096 <= at_) (h2 : at_ < 8192) (w : World) (hm : ∃ a n p, vm = .slice a n p) (hc : ∃ a n p, vc = .slice a n p) (hp : Gm.Pg.Sl .i64 w vp [(1, 7)]) : Calls Tryz.prog 47 #[.agg #[vm, vc, .int .u64 0, vp], .int .u64 at_, .int .i64 0] w fun e w' => e = .returned (.int .i64 0) /\ Below w.heap.size w w' := by
 obtain ⟨W, hW, hb, hsz, c0, c1, c2, c3, _⟩ := Gm.box4 w vm vc (.int .u64 0) vp 33
 have K := Gm.rprot15 vm vc vp 0 1 [(1, 7)] W hm hc (hp.keep hb)
 rw [show Gm.protN [(1, 7)] 1 = 7 from rfl] at K
 have hp' : ∃ a n p, vp = .slice a n p := by obtain ⟨a, p, h, _⟩ := hp; exact ⟨_, _, _, h⟩
 obtain ⟨_, _, _, rfl⟩ := hm
 obtain ⟨_, _, _, rfl⟩ := hc
 obtain ⟨_, _, _, rfl⟩ := hp'
 have x1 : IntKind.u32.wrap (at_ : Int) = (at_ : Int) := by rw [IntKind.wrap_u32]; omega
 have x2 : (at_ : Int) / 4096 = 1 := by omega
 have x2' : (at_ : Int).tdiv 4096 = 1 := by rw [Int.tdiv_eq_ediv_of_nonneg (by omega)]; exact x2
 have x3 : ¬ 4294967296 <= (at_ : Int) := by omega
 have HB : Hid (Below w.heap.size w W) := hb
 clear hb hsz hp
 go_enter Tryz.func47, Tryz.ntmps47
 go_wp2_with fail
 refine K.mono ?_
 rintro e w1 ⟨rfl, hb1⟩
 have HB1 : Hid (Below w.heap.size w w1) := below_tr HB.out hb1
 clear hb1 K
 go_wp2
 go_ret
 exact ⟨rfl, HB1.out⟩
theorem pg_shape {w : World} {vp : Value} {ps : List (Nat × Int)} (hp : Gm.Pg.Sl .i64 w vp ps) : ∃ a n p, vp = .slice a n p := by
 obtain ⟨a, p, h, _⟩ := hp
 exact ⟨_, _, _, h⟩
set_option maxHeartbeats 1000000 in
theorem ask24l (vm vc vp : Value) (w : World) (hm : ∃ a n p, vm = .slice a n p) (hc : ∃ a n p, vc = .slice a n p) (hp : Gm.Pg.Sl .i64 w vp [(1, 7)]) : Calls Tryz.prog 24 #[.agg #[vm, vc, .int .u64 0, vp], .int .u32 4096, .int .i64 12, .int .i64 0] w fun e w' => e = .returned (.agg #[.int .i64 0, .int .u64 0]) /\ Below w.heap.size w w' := by
 obtain ⟨W0, hW0, b0, s0, k0⟩ := allocw w [vm, vc, .int .u64 0, vp] 33
 obtain ⟨W, hW, b1, s1, k1⟩ := allocw W0 [.int .i64 0, .int .u64 0] 38
 have kA := k0.keep b1
 have hb := below_tr b0 b1
 have K : Hid (∀ w' (a : Nat), 4096 <= a -> a < 8192 -> Below W.heap.size W w' -> Calls Tryz.prog 47 #[.agg #[vm, vc, .int .u64 0, vp], .int .u64 a, .int .i64 0] w' fun e w'' => e = .returned (.int .i64 0) /\ Below w'.heap.size w' w'') := fun w' a h h' hb' => kind47l vm vc vp a h h' w' hm hc (hp.keep (below_tr hb hb'))
 obtain ⟨_, _, _, rfl⟩ := pg_shape hp
 obtain ⟨_, _, _, rfl⟩ := hm
 obtain ⟨_, _, _, rfl⟩ := hc
 have HW : Hid (Below w.heap.size w W /\ W0.heap.size = w.heap.size + 1 /\ W.heap.size = w.heap.size + 2) := ⟨hb, by omega, by omega⟩
 have KA : Hid (∀ w', Below W.heap.size W w' -> w'.heap[w.heap.size]? = some (.cells #[_, _, .int .u64 0, _] 33 (0, 0))) := fun w' h => kA.keep h
 have KB : Hid (∀ w', Below W.heap.size W w' -> Hk W0.heap.size [.int .i64 0, .int .u64 0] 38 w') := fun w' h => k1.keep h
 clear hp b0 s0 k0 b1 s1 k1 kA hb
 go_enter Tryz.func24, Tryz.ntmps24
 go_wp2
 go_loopw [9] (fun i wr => ∃ k : Nat, k <= 12 /\ i = .int .i64 k /\ Below W.heap.size W wr) (fun i _ => 12 - (intOf i).toNat)
 case atStart => exact ⟨0, Nat.zero_le _, rfl, Below.refl _ _⟩
 case round =>
  obtain ⟨k, hk, rfl, hbr⟩ := hrel
  have ka := KA.out wr hbr
  obtain ⟨c0, c1, c2, c3⟩ := Hk.four (n := w.heap.size) (t := 33) ka
  by_cases hkn : k < 12
  ·have xk : IntKind.u64.wrap (k : Int) = (k : Int) := by rw [IntKind.wrap_u64]; omega
   have hA : IntKind.u64.wrap (4096 + (k : Int)) = ((4096 + k : Nat) : Int) := by rw [IntKind.wrap_u64]; omega
   have K1 := K.out wr (4096 + k) (by omega) (by omega) hbr
   have hk2 : (k : Int) < 12 := by omega
   go_wp2_with fail
   refine K1.mono ?_
   rintro e wq ⟨rfl, hb1⟩
   have hbx := below_tr hbr hb1
   go_wp2
   go_roundw
   case rel => exact ⟨k + 1, by omega, by go_num, hbx⟩
   case measure => simp [intOf]; omega
  ·have hk2 : ¬ (k : Int) < 12 := by omega
   have kb := KB.out wr hbr
   obtain ⟨d0, d1⟩ := kb.two
   have f0 := kb.frozen 0
   have f1 := kb.frozen 1
   obtain ⟨X, hX, g, s, k5⟩ := set2w wr W0.heap.size (.int .i64 0) (.int .u64 0)
   obtain ⟨r0, r1⟩ := (k5 _ _ kb).two
   have HE : Hid (Below w.heap.size w X) := below_row (below_tr HW.out.1 hbr) g (by have := HW.out.2.1; omega)
   clear g s k5 kb ka
   go_wp2
   (try simp only [Exit.inBlock, Exit.then])
   refine bodyPost_ret (v := .agg #[.int .i64 0, .int .u64 0]) ?_ rfl ⟨rfl, HE.out⟩
   rw [results_cell1 rfl]; simp [go_sem, r0, r1]
set_option maxHeartbeats 1000000 in
theorem le55a (w : World) : Calls Tryz.prog 55 #[.string ⟨#[36, 2, 0, 5, 16, 0, 0, 2]⟩] w fun e w' => e = .returned (.int .u64 144115256879219236) /\ w' = w := by
 go_enter Tryz.func55, Tryz.ntmps55
 go_wp2
 refine wp_loop_rounds 9 ?_
 repeat (rw [rounds_succ]; go_wp2)
 go_ret
 exact ⟨rfl, rfl⟩
set_option maxHeartbeats 1000000 in
theorem le55b (w : World) : Calls Tryz.prog 55 #[.string ⟨#[140, 1, 16, 2]⟩] w fun e w' => e = .returned (.int .u64 34603404) /\ w' = w := by
 go_enter Tryz.func55, Tryz.ntmps55
 go_wp2
 refine wp_loop_rounds 5 ?_
 repeat (rw [rounds_succ]; go_wp2)
 go_ret
 exact ⟨rfl, rfl⟩
end Go.Proofs.YtimfipkbddpdmaaGreatDoor
