import Derived.Test.YtimfipkbddpdmaaGreatDoorMGwr
import Derived.Test.YtimfipkbddpdmaaGreatDoorMGw
import Derived.Test.YtimfipkbddpdmaaGreatDoorMGld
import Derived.Test.YtimfipkbddpdmaaGreatDoorMGfit
import Derived.Test.YtimfipkbddpdmaaGreatDoorLast
set_option linter.unusedVariables false
set_option linter.unusedSimpArgs false
set_option maxRecDepth 100000
open Go Go.RowKit
namespace Go.Proofs.YtimfipkbddpdmaaGreatDoor.Gm
def B4 (w : World) (b t : Nat) (x0 x1 x2 x3 : Value) : Prop := w.heap[b]? = some (.cells #[x0, x1, x2, x3] t (0, 0))
theorem B4.lt {w : World} {b t : Nat} {x0 x1 x2 x3 : Value} (h : B4 w b t x0 x1 x2 x3) : b < w.heap.size := (Array.getElem?_eq_some_iff.1 h).1
theorem B4.cells {w : World} {b t : Nat} {x0 x1 x2 x3 : Value} (h : B4 w b t x0 x1 x2 x3) : w.cell? ⟨b, 0, none⟩ = some x0 /\ w.cell? ⟨b, 1, none⟩ = some x1 /\ w.cell? ⟨b, 2, none⟩ = some x2 /\ w.cell? ⟨b, 3, none⟩ = some x3 := by
 rw [B4] at h; simp [World.cell?, h]
theorem B4.frees {w : World} {b t : Nat} {x0 x1 x2 x3 : Value} (h : B4 w b t x0 x1 x2 x3) : w.frozen? ⟨b, 0, none⟩ = false /\ w.frozen? ⟨b, 1, none⟩ = false /\ w.frozen? ⟨b, 2, none⟩ = false /\ w.frozen? ⟨b, 3, none⟩ = false := by
 rw [B4] at h; simp [World.frozen?, h]
theorem B4.new (w : World) (t : Nat) (x0 x1 x2 x3 : Value) : B4 (w.alloc (.cells #[x0, x1, x2, x3] t)) w.heap.size t x0 x1 x2 x3 := heap_alloc_new w _
theorem B4.keep {w w' : World} {b t : Nat} {x0 x1 x2 x3 : Value} (h : B4 w b t x0 x1 x2 x3) (hb : Below w.heap.size w w') : B4 w' b t x0 x1 x2 x3 := (hb.block b h.lt).trans h
theorem B4.set {w : World} {b t : Nat} {x0 x1 x2 x3 : Value} (h : B4 w b t x0 x1 x2 x3) (y0 y1 y2 y3 : Value) : B4 ((((w.setCell ⟨b, 0, none⟩ y0).setCell ⟨b, 1, none⟩ y1).setCell ⟨b, 2, none⟩ y2).setCell ⟨b, 3, none⟩ y3) b t y0 y1 y2 y3 :=
 heap_setCell_same _ b 3 _ t y3 (heap_setCell_same _ b 2 _ t y2 (heap_setCell_same _ b 1 _ t y1 (heap_setCell_same w b 0 _ t y0 h)))
theorem B4.set1 {w : World} {b t : Nat} {x0 x1 x2 x3 : Value} (h : B4 w b t x0 x1 x2 x3) (y1 : Value) : B4 (w.setCell ⟨b, 1, none⟩ y1) b t x0 y1 x2 x3 := heap_setCell_same w b 1 _ t y1 h
theorem set4_by (w : World) (b : Nat) (y0 y1 y2 y3 : Value) : w.grownBy ((((w.setCell ⟨b, 0, none⟩ y0).setCell ⟨b, 1, none⟩ y1).setCell ⟨b, 2, none⟩ y2).setCell ⟨b, 3, none⟩ y3) (some b) :=
 ⟨rfl, rfl, rfl, Nat.le_trans (Nat.le_trans (Nat.le_trans (KeepsWalks.setCell _ _ _).size (KeepsWalks.setCell _ _ _).size) (KeepsWalks.setCell _ _ _).size) (KeepsWalks.setCell _ _ _).size, fun k _ hk => by
  have hn : k ≠ b := fun e => hk (by rw [e])
  rw [Below.heap_setCell _ ⟨b, 3, none⟩ y3 k hn, Below.heap_setCell _ ⟨b, 2, none⟩ y2 k hn, Below.heap_setCell _ ⟨b, 1, none⟩ y1 k hn, Below.heap_setCell _ ⟨b, 0, none⟩ y0 k hn]⟩
theorem set2_by (w : World) (b : Nat) (y0 y1 : Value) : w.grownBy ((w.setCell ⟨b, 0, none⟩ y0).setCell ⟨b, 1, none⟩ y1) (some b) :=
 ⟨rfl, rfl, rfl, Nat.le_trans (KeepsWalks.setCell _ _ _).size (KeepsWalks.setCell _ _ _).size, fun k _ hk => by
  have hn : k ≠ b := fun e => hk (by rw [e])
  rw [Below.heap_setCell _ ⟨b, 1, none⟩ y1 k hn, Below.heap_setCell _ ⟨b, 0, none⟩ y0 k hn]⟩
theorem set1_by (w : World) (b i : Nat) (y : Value) : w.grownBy (w.setCell ⟨b, i, none⟩ y) (some b) :=
 ⟨rfl, rfl, rfl, (KeepsWalks.setCell _ _ _).size, fun k _ hk => Below.heap_setCell _ ⟨b, i, none⟩ y k (fun e => hk (by rw [e]))⟩
theorem B4.by {w w' : World} {b b' t : Nat} {x0 x1 x2 x3 : Value} (h : B4 w b t x0 x1 x2 x3) (hg : w.grownBy w' (some b')) (hn : b ≠ b') : B4 w' b t x0 x1 x2 x3 := (hg.block b h.lt (by simpa using hn)).trans h
theorem B2.by {w w' : World} {b b' t : Nat} {x y : Value} (h : B2 w b t x y) (hg : w.grownBy w' (some b')) (hn : b ≠ b') : B2 w' b t x y := (hg.block b h.lt (by simpa using hn)).trans h
theorem own_by {w w' : World} {b B e n : Nat} {v : Value} {xs : List Value} (h : w.ownsRow B e 2 v n xs) (hg : w.grownBy w' (some b)) (hb : b < B) : w'.ownsRow B e 2 v n xs :=
 h.kept hg (Or.inr (fun e' => by have := own_ge h b e'; omega))
theorem OwnG.by {w w' : World} {b B : Nat} {vm vc vp : Value} {ms cs ps : List (Nat × Int)} (h : OwnG B w vm vc vp ms cs ps) (hg : w.grownBy w' (some b)) (hb : b < B) : OwnG B w' vm vc vp ms cs ps :=
 ⟨⟨own_by h.1.1 hg hb, own_by h.1.2 hg hb⟩, own_by h.2 hg hb⟩
def chL (cs ps : List (Nat × Int)) (bs a : Nat) (s : ByteArray) (asked : Int) : List (Nat × Int) := if (ffN ps a s.size asked).1 = 0 then stL cs ((pcM a (bs + a) s.size s.size).map (trP s a)) else cs
set_option maxHeartbeats 1000000 in
theorem gchanged42 (vm vc vp : Value) (bs a : Nat) (s : ByteArray) (asked : Int) (ms cs ps : List (Nat × Int)) (w : World) (hg : GdM w vm vc vp ms cs ps bs) (ha : a < 4294967296) (hs : s.size < 9223372036854775808) (hb8 : bs % 8 = 0) (h8 : ∀ y ∈ cs, y.1 % 8 = 0) (lc2 : cs.length <= 1073000000)
  (hnf : (ffN ps a s.size asked).1 = 0 -> ∀ x ∈ pcM a (bs + a) s.size s.size, (faultFrom ms x.2.1 2 0 x.2.2).1 = 0) :
  Calls Tryz.prog 209 #[.agg #[vm, vc, .int .u64 bs, vp], .int .u32 a, .string s, .int .i64 asked] w fun e w' => ∃ vm' vc' vp', e = .returned (.tuple #[.agg #[vm', vc', .int .u64 bs, vp'], .agg #[.int .i64 (ffN ps a s.size asked).1, .int .u64 ((ffN ps a s.size asked).2 : Int)]]) /\ OwnG w.heap.size w' vm' vc' vp' ms (chL cs ps bs a s asked) ps /\ Below w.heap.size w w' := by
 obtain ⟨⟨am, nm, pm, rfl⟩, ⟨ac, nc, pc, rfl⟩, ⟨ap, np, pp, rfl⟩⟩ := hg.shapes
 obtain ⟨V0, hV0⟩ : ∃ z, w.alloc (.cells #[.slice am nm pm, .slice ac nc pc, .int .u64 bs, .slice ap np pp] 33) = z := ⟨_, rfl⟩
 have D0 : B4 V0 w.heap.size 33 (.slice am nm pm) (.slice ac nc pc) (.int .u64 bs) (.slice ap np pp) := by rw [<- hV0]; exact B4.new w 33 _ _ _ _
 have b0 : Below w.heap.size w V0 := by rw [<- hV0]; exact (Below.refl _ _).alloc (Nat.le_refl _) _
 have z0 : V0.heap.size = w.heap.size + 1 := by rw [<- hV0]; simp
 obtain ⟨V1, hV1⟩ : ∃ z, V0.alloc (.cells #[.slice none 0 0, .slice none 0 0, .int .u64 0, .slice none 0 0] 33) = z := ⟨_, rfl⟩
 have D1 : B4 V1 (w.heap.size + 1) 33 (.slice none 0 0) (.slice none 0 0) (.int .u64 0) (.slice none 0 0) := by rw [<- hV1, <- z0]; exact B4.new V0 33 _ _ _ _
 have b1 : Below V0.heap.size V0 V1 := by rw [<- hV1]; exact (Below.refl _ _).alloc (Nat.le_refl _) _
 have z1 : V1.heap.size = w.heap.size + 2 := by rw [<- hV1]; simp; omega
 obtain ⟨W, hW⟩ : ∃ z, V1.alloc (.cells #[.int .i64 0, .int .u64 0] 38) = z := ⟨_, rfl⟩
 have D2 : B2 W (w.heap.size + 2) 38 (.int .i64 0) (.int .u64 0) := by rw [<- hW, <- z1]; exact B2.new V1 38 _ _
 have b2 : Below V1.heap.size V1 W := by rw [<- hW]; exact (Below.refl _ _).alloc (Nat.le_refl _) _
 have z2 : W.heap.size = w.heap.size + 3 := by rw [<- hW]; simp; omega
 have D0 := (D0.keep b1).keep b2
 have D1 := D1.keep b2
 have bW : Below w.heap.size w W := below_tr b0 (below_tr b1 b2)
 have K38 := gff38 (.slice am nm pm) (.slice ac nc pc) (.slice ap np pp) bs a s.size asked ps W ⟨_, _, _, rfl⟩ ⟨_, _, _, rfl⟩ (hg.keep bW).p hg.sp hg.lp hg.hb ha (by omega)
 obtain ⟨kd, hkd⟩ : ∃ z, z = (ffN ps a s.size asked).1 := ⟨_, rfl⟩
 obtain ⟨fa, hfa⟩ : ∃ z, z = (ffN ps a s.size asked).2 := ⟨_, rfl⟩
 obtain ⟨CH, hCH⟩ : ∃ z, z = chL cs ps bs a s asked := ⟨_, rfl⟩
 obtain ⟨SL, hSL⟩ : ∃ z, z = stL cs ((pcM a (bs + a) s.size s.size).map (trP s a)) := ⟨_, rfl⟩
 have HCH : Hid (CH = if kd = 0 then SL else cs) := by show _ = _; rw [hCH, chL, hkd, hSL]
 rw [<- hkd, <- hfa] at K38 |-
 rw [<- hCH]
 have K67 : Hid (kd = 0 -> ∀ C w' u1 u2 u3, OwnG C w' u1 u2 u3 ms cs ps -> Calls Tryz.prog 218 #[.agg #[u1, u2, .int .u64 bs, u3], .int .u32 a, .string s] w' fun e w'' => ∃ v, e = .returned v /\ w''.ownsRow w'.heap.size 48 2 v SL.length (rowOf .u64 SL) /\ Below w'.heap.size w' w'') := fun h0 C w' u1 u2 u3 ho => by
  rw [hkd] at h0
  have hz := ffN_zero ps a s.size asked h0
  rw [hSL]
  exact gwritten67 _ _ _ bs a s ms cs ps w' ⟨ho.1.m, ho.1.c, ho.p, hg.sm, hg.sc, hg.sp, hg.lm, hg.lc, hg.lp, hg.hw, hg.hb⟩ ha hz.2 hb8 h8 lc2 (hnf h0)
 have K44 : Hid (∀ w', Below W.heap.size W w' -> Calls Tryz.prog 21 #[.agg #[.slice am nm pm, .slice ac nc pc, .int .u64 bs, .slice ap np pp]] w' fun e w'' => ∃ am nm pm ac nc pc ap np pp, e = .returned (.agg #[.slice am nm pm, .slice ac nc pc, .int .u64 bs, .slice ap np pp]) /\ OwnG w'.heap.size w'' (.slice am nm pm) (.slice ac nc pc) (.slice ap np pp) ms cs ps /\ Below w'.heap.size w' w'') := fun w' hb' => by
  have h := hg.keep (below_tr bW hb')
  exact gfresh40 _ _ _ bs ms cs ps w' h.m h.c h.p h.lm h.lc h.lp
 have w1 : IntKind.u64.wrap (s.size : Int) = (s.size : Int) := by rw [IntKind.wrap_u64]; omega
 obtain ⟨c0, c1, c2, c3⟩ := D0.cells
 have HW : Hid (Below w.heap.size w W /\ W.heap.size = w.heap.size + 3) := ⟨bW, z2⟩
 clear hg hkd hfa hCH hSL hnf h8 lc2 hs b0 b1 b2 z2 bW
 go_enter Tryz.func209, Tryz.ntmps209
 go_wp2_with fail
 refine K38.mono ?_
 rintro e wy ⟨rfl, hby⟩
 clear K38
 obtain ⟨W6, hW6⟩ : ∃ z, wy.alloc (.cells #[.int .i64 kd, .int .u64 fa] 38) = z := ⟨_, rfl⟩
 have hb6 : Below wy.heap.size wy W6 := by rw [<- hW6]; exact (Below.refl _ _).alloc (Nat.le_refl _) _
 have D3 : B2 W6 wy.heap.size 38 (.int .i64 kd) (.int .u64 fa) := by rw [<- hW6]; exact B2.new wy 38 _ _
 have hb7 := below_tr hby hb6
 have D0 := D0.keep hb7
 have D1 := D1.keep hb7
 have D2 := D2.keep hb7
 obtain ⟨c0, c1, c2, c3⟩ := D0.cells
 have HW6 : Hid (Below W.heap.size W W6 /\ w.heap.size + 3 <= wy.heap.size /\ W6.heap.size = wy.heap.size + 1) := ⟨hb7, by have := hby.size; have := HW.out.2; omega, by rw [<- hW6]; simp⟩
 have K44' := K44.out W6 hb7
 clear hby hb6 hb7
 go_wp2_with fail
 refine K44'.mono ?_
 rintro e w7 ⟨bm, xm, ym, bc, xc, yc, bp, xp, yp, rfl, ho, hb8'⟩
 clear K44' hW6 K44
 have D0 := D0.keep hb8'
 have D1 := D1.keep hb8'
 have D2 := D2.keep hb8'
 have D3 := D3.keep hb8'
 obtain ⟨c0, c1, c2, c3⟩ := D0.cells
 obtain ⟨f0, f1, f2, f3⟩ := D0.frees
 have gs := set4_by w7 w.heap.size (.slice bm xm ym) (.slice bc xc yc) (.int .u64 bs) (.slice bp xp yp)
 obtain ⟨W8, hW8⟩ : ∃ z, ((((w7.setCell ⟨w.heap.size, 0, none⟩ (.slice bm xm ym)).setCell ⟨w.heap.size, 1, none⟩ (.slice bc xc yc)).setCell ⟨w.heap.size, 2, none⟩ (.int .u64 bs)).setCell ⟨w.heap.size, 3, none⟩ (.slice bp xp yp)) = z := ⟨_, rfl⟩
 have D0 := D0.set (.slice bm xm ym) (.slice bc xc yc) (.int .u64 bs) (.slice bp xp yp)
 rw [hW8] at gs D0
 have s6 := HW6.out
 have D1 := D1.by gs (by omega)
 have D2 := D2.by gs (by omega)
 have D3 := D3.by gs (by omega)
 have ho := ho.by gs (by omega)
 have b8 : Below w.heap.size w W8 := (below_tr HW.out.1 (below_tr s6.1 hb8')).grown gs (below_tr HW.out.1 (below_tr s6.1 hb8')).size (fun r e => by cases e; exact Nat.le_refl _)
 have h8s : w.heap.size + 3 <= W8.heap.size := by have := D3.lt; omega
 have HW8 : Hid (Below w.heap.size w W8 /\ OwnG W6.heap.size W8 (.slice bm xm ym) (.slice bc xc yc) (.slice bp xp yp) ms cs ps /\ w.heap.size + 3 <= wy.heap.size /\ W6.heap.size = wy.heap.size + 1) := ⟨b8, ho, s6.2.1, s6.2.2⟩
 obtain ⟨d0, d1, d2, d3⟩ := D0.cells
 have k0 := D3.c0
 have k1 := D3.c1
 have hn8 : W6.heap.size <= W8.heap.size := by have := gs.size; have := hb8'.size; omega
 have hn3 : wy.heap.size ≠ w.heap.size := by omega
 have hn4 : wy.heap.size ≠ w.heap.size + 1 := by omega
 have hn5 : wy.heap.size ≠ w.heap.size + 2 := by omega
 have hn6 : w.heap.size + 1 ≠ wy.heap.size := by omega
 have hn7 : w.heap.size + 2 ≠ wy.heap.size := by omega
 clear gs hb8' s6
 by_cases hk0 : kd = 0
 ·subst hk0
  have HC1 : Hid (CH = SL) := by
   have h := HCH.out
   rw [if_pos rfl] at h
   exact h
  clear HCH
  have K67' := K67.out rfl W6.heap.size W8 _ _ _ HW8.out.2.1
  clear K67
  go_wp2_with fail
  refine K67'.mono ?_
  rintro e w9 ⟨v, rfl, hov, hb9⟩
  obtain ⟨va, vn, vcap, rfl⟩ := own_shape hov
  have D0 := D0.keep hb9
  have D1 := D1.keep hb9
  have D2 := D2.keep hb9
  have D3 := D3.keep hb9
  obtain ⟨d0, d1, d2, d3⟩ := D0.cells
  obtain ⟨f0, f1, f2, f3⟩ := D0.frees
  have gs := set1_by w9 w.heap.size 1 (.slice va vn vcap)
  have D0 := D0.set1 (.slice va vn vcap)
  obtain ⟨W10, hW10⟩ : ∃ z, w9.setCell ⟨w.heap.size, 1, none⟩ (.slice va vn vcap) = z := ⟨_, rfl⟩
  rw [hW10] at gs D0
  have D1 := D1.by gs (by omega)
  have D2 := D2.by gs (by omega)
  have D3 := D3.by gs hn3
  have own : OwnG W6.heap.size W10 (.slice bm xm ym) (.slice va vn vcap) (.slice bp xp yp) ms SL ps := by
   obtain ⟨o1, o2, o3, o4⟩ := HW8.out
   have o5 := (o2.keep hb9).by gs (by omega)
   exact ⟨⟨o5.1.1, own_base (own_by hov gs (by omega)) (by have := hn8; omega)⟩, o5.2⟩
  have b10 : Below w.heap.size w W10 := (below_tr HW8.out.1 hb9).grown gs (below_tr HW8.out.1 hb9).size (fun r e => by cases e; exact Nat.le_refl _)
  clear K67' hb9 hov gs
  obtain ⟨d0, d1, d2, d3⟩ := D0.cells
  have k0 := D3.c0
  have k1 := D3.c1
  obtain ⟨r0, r1, r2, r3⟩ := D1.cells
  obtain ⟨q0, q1, q2, q3⟩ := D1.frees
  have u0 := D2.c0
  have u1 := D2.c1
  have u2 := D2.f0
  have u3 := D2.f1
  have HF : Hid (Below w.heap.size w W10 /\ OwnG W6.heap.size W10 (.slice bm xm ym) (.slice va vn vcap) (.slice bp xp yp) ms SL ps /\ B4 W10 (w.heap.size + 1) 33 (.slice none 0 0) (.slice none 0 0) (.int .u64 0) (.slice none 0 0) /\ B2 W10 (w.heap.size + 2) 38 (.int .i64 0) (.int .u64 0)) := ⟨b10, own, D1, D2⟩
  clear b10 own D0 D1 D2 D3 c0 c1 c2 c3
  go_wp2
  go_region
  all_goals (go_wp2; (try simp only [Exit.inBlock, Exit.then]))
  all_goals obtain ⟨b10, own, D1, D2⟩ := HF.out
  all_goals have s6 := HW8.out.2.2
  all_goals have g1 := set4_by W10 (w.heap.size + 1) (.slice bm xm ym) (.slice va vn vcap) (.int .u64 bs) (.slice bp xp yp)
  all_goals have E1 := D1.set (.slice bm xm ym) (.slice va vn vcap) (.int .u64 bs) (.slice bp xp yp)
  all_goals obtain ⟨W11, hW11⟩ : ∃ z, ((((W10.setCell ⟨w.heap.size + 1, 0, none⟩ (.slice bm xm ym)).setCell ⟨w.heap.size + 1, 1, none⟩ (.slice va vn vcap)).setCell ⟨w.heap.size + 1, 2, none⟩ (.int .u64 bs)).setCell ⟨w.heap.size + 1, 3, none⟩ (.slice bp xp yp)) = z := ⟨_, rfl⟩
  all_goals rw [hW11] at g1 E1 |-
  all_goals have E2 := D2.by g1 (by omega)
  all_goals have o1 := own.by g1 (by omega)
  all_goals have b11 := b10.grown g1 b10.size (fun r e => by cases e; omega)
  all_goals have g2 := set2_by W11 (w.heap.size + 2) (.int .i64 0) (.int .u64 fa)
  all_goals have E2 := E2.set (.int .i64 0) (.int .u64 fa)
  all_goals obtain ⟨W12, hW12⟩ : ∃ z, (W11.setCell ⟨w.heap.size + 2, 0, none⟩ (.int .i64 0)).setCell ⟨w.heap.size + 2, 1, none⟩ (.int .u64 fa) = z := ⟨_, rfl⟩
  all_goals rw [hW12] at g2 E2 |-
  all_goals have E1 := E1.by g2 (by omega)
  all_goals have o2 := o1.by g2 (by omega)
  all_goals have b12 := b11.grown g2 b11.size (fun r e => by cases e; omega)
  all_goals have bd : Below W12.heap.size W12 W12.drew := (Below.refl _ _).drew
  all_goals obtain ⟨t0, t1, t2, t3⟩ := (E1.keep bd).cells
  all_goals have t4 := (E2.keep bd).c0
  all_goals have t5 := (E2.keep bd).c1
  all_goals have hch : CH = SL := HC1.out
  all_goals refine bodyPost_ret (v := .tuple #[.agg #[.slice bm xm ym, .slice va vn vcap, .int .u64 bs, .slice bp xp yp], .agg #[.int .i64 0, .int .u64 fa]]) ?_ rfl ⟨_, _, _, rfl, by rw [hch]; exact (o2.keep bd).base (by omega), below_tr b12 bd⟩
  all_goals (rw [results_cells rfl]; simp [go_sem, t0, t1, t2, t3, t4, t5])
 ·have hk1 : (kd = 0) = False := by simp [hk0]
  have HC1 : Hid (CH = cs) := by
   have h := HCH.out
   rw [if_neg hk0] at h
   exact h
  clear HCH
  have hk2 : (kd == 0) = false := by simp [hk0]
  have hk3 : decide (kd = 0) = false := by simp [hk0]
  clear K67
  obtain ⟨r0, r1, r2, r3⟩ := D1.cells
  obtain ⟨q0, q1, q2, q3⟩ := D1.frees
  have u0 := D2.c0
  have u1 := D2.c1
  have u2 := D2.f0
  have u3 := D2.f1
  have HF : Hid (Below w.heap.size w W8 /\ OwnG W6.heap.size W8 (.slice bm xm ym) (.slice bc xc yc) (.slice bp xp yp) ms cs ps /\ B4 W8 (w.heap.size + 1) 33 (.slice none 0 0) (.slice none 0 0) (.int .u64 0) (.slice none 0 0) /\ B2 W8 (w.heap.size + 2) 38 (.int .i64 0) (.int .u64 0)) := ⟨HW8.out.1, HW8.out.2.1, D1, D2⟩
  clear D0 D1 D2 D3
  go_wp2
  go_region
  all_goals (go_wp2; (try simp only [Exit.inBlock, Exit.then]))
  all_goals obtain ⟨b10, own, D1, D2⟩ := HF.out
  all_goals have s6 := HW8.out.2.2
  all_goals have g1 := set4_by W8 (w.heap.size + 1) (.slice bm xm ym) (.slice bc xc yc) (.int .u64 bs) (.slice bp xp yp)
  all_goals have E1 := D1.set (.slice bm xm ym) (.slice bc xc yc) (.int .u64 bs) (.slice bp xp yp)
  all_goals obtain ⟨W11, hW11⟩ : ∃ z, ((((W8.setCell ⟨w.heap.size + 1, 0, none⟩ (.slice bm xm ym)).setCell ⟨w.heap.size + 1, 1, none⟩ (.slice bc xc yc)).setCell ⟨w.heap.size + 1, 2, none⟩ (.int .u64 bs)).setCell ⟨w.heap.size + 1, 3, none⟩ (.slice bp xp yp)) = z := ⟨_, rfl⟩
  all_goals rw [hW11] at g1 E1 |-
  all_goals have E2 := D2.by g1 (by omega)
  all_goals have o1 := own.by g1 (by omega)
  all_goals have b11 := b10.grown g1 b10.size (fun r e => by cases e; omega)
  all_goals have g2 := set2_by W11 (w.heap.size + 2) (.int .i64 kd) (.int .u64 fa)
  all_goals have E2 := E2.set (.int .i64 kd) (.int .u64 fa)
  all_goals obtain ⟨W12, hW12⟩ : ∃ z, (W11.setCell ⟨w.heap.size + 2, 0, none⟩ (.int .i64 kd)).setCell ⟨w.heap.size + 2, 1, none⟩ (.int .u64 fa) = z := ⟨_, rfl⟩
  all_goals rw [hW12] at g2 E2 |-
  all_goals have E1 := E1.by g2 (by omega)
  all_goals have o2 := o1.by g2 (by omega)
  all_goals have b12 := b11.grown g2 b11.size (fun r e => by cases e; omega)
  all_goals have bd : Below W12.heap.size W12 W12.drew := (Below.refl _ _).drew
  all_goals obtain ⟨t0, t1, t2, t3⟩ := (E1.keep bd).cells
  all_goals have t4 := (E2.keep bd).c0
  all_goals have t5 := (E2.keep bd).c1
  all_goals have hch : CH = cs := HC1.out
  all_goals refine bodyPost_ret (v := .tuple #[.agg #[.slice bm xm ym, .slice bc xc yc, .int .u64 bs, .slice bp xp yp], .agg #[.int .i64 kd, .int .u64 fa]]) ?_ rfl ⟨_, _, _, rfl, by rw [hch]; exact (o2.keep bd).base (by omega), below_tr b12 bd⟩
  all_goals (rw [results_cells rfl]; simp [go_sem, t0, t1, t2, t3, t4, t5])
set_option maxHeartbeats 1000000 in
theorem gput18 (vm vc vp : Value) (bs a : Nat) (s : ByteArray) (ms cs ps : List (Nat × Int)) (w : World) (hg : GdM w vm vc vp ms cs ps bs) (ha : a < 4294967296) (hs : s.size < 9223372036854775808) (hb8 : bs % 8 = 0) (h8 : ∀ y ∈ cs, y.1 % 8 = 0) (lc2 : cs.length <= 1073000000)
  (hnf : (ffN ps a s.size 2).1 = 0 -> ∀ x ∈ pcM a (bs + a) s.size s.size, (faultFrom ms x.2.1 2 0 x.2.2).1 = 0) :
  Calls Tryz.prog 198 #[.agg #[vm, vc, .int .u64 bs, vp], .int .u32 a, .string s] w fun e w' => ∃ vm' vc' vp', e = .returned (.tuple #[.agg #[vm', vc', .int .u64 bs, vp'], .agg #[.int .i64 (ffN ps a s.size 2).1, .int .u64 ((ffN ps a s.size 2).2 : Int)]]) /\ OwnG w.heap.size w' vm' vc' vp' ms (chL cs ps bs a s 2) ps /\ Below w.heap.size w w' := by
 obtain ⟨⟨am, nm, pm, rfl⟩, ⟨ac, nc, pc, rfl⟩, ⟨ap, np, pp, rfl⟩⟩ := hg.shapes
 obtain ⟨V0, hV0⟩ : ∃ z, w.alloc (.cells #[.slice am nm pm, .slice ac nc pc, .int .u64 bs, .slice ap np pp] 33) = z := ⟨_, rfl⟩
 have D0 : B4 V0 w.heap.size 33 (.slice am nm pm) (.slice ac nc pc) (.int .u64 bs) (.slice ap np pp) := by rw [<- hV0]; exact B4.new w 33 _ _ _ _
 have b0 : Below w.heap.size w V0 := by rw [<- hV0]; exact (Below.refl _ _).alloc (Nat.le_refl _) _
 have z0 : V0.heap.size = w.heap.size + 1 := by rw [<- hV0]; simp
 obtain ⟨V1, hV1⟩ : ∃ z, V0.alloc (.cells #[.slice none 0 0, .slice none 0 0, .int .u64 0, .slice none 0 0] 33) = z := ⟨_, rfl⟩
 have D1 : B4 V1 (w.heap.size + 1) 33 (.slice none 0 0) (.slice none 0 0) (.int .u64 0) (.slice none 0 0) := by rw [<- hV1, <- z0]; exact B4.new V0 33 _ _ _ _
 have b1 : Below V0.heap.size V0 V1 := by rw [<- hV1]; exact (Below.refl _ _).alloc (Nat.le_refl _) _
 have z1 : V1.heap.size = w.heap.size + 2 := by rw [<- hV1]; simp; omega
 obtain ⟨W, hW⟩ : ∃ z, V1.alloc (.cells #[.int .i64 0, .int .u64 0] 38) = z := ⟨_, rfl⟩
 have D2 : B2 W (w.heap.size + 2) 38 (.int .i64 0) (.int .u64 0) := by rw [<- hW, <- z1]; exact B2.new V1 38 _ _
 have b2 : Below V1.heap.size V1 W := by rw [<- hW]; exact (Below.refl _ _).alloc (Nat.le_refl _) _
 have z2 : W.heap.size = w.heap.size + 3 := by rw [<- hW]; simp; omega
 have D0 := (D0.keep b1).keep b2
 have D1 := D1.keep b2
 have bW : Below w.heap.size w W := below_tr b0 (below_tr b1 b2)
 have K42 := gchanged42 (.slice am nm pm) (.slice ac nc pc) (.slice ap np pp) bs a s 2 ms cs ps W (hg.keep bW) ha hs hb8 h8 lc2 hnf
 obtain ⟨kd, hkd⟩ : ∃ z, z = (ffN ps a s.size 2).1 := ⟨_, rfl⟩
 obtain ⟨fa, hfa⟩ : ∃ z, z = (ffN ps a s.size 2).2 := ⟨_, rfl⟩
 obtain ⟨CH, hCH⟩ : ∃ z, z = chL cs ps bs a s 2 := ⟨_, rfl⟩
 rw [<- hkd, <- hfa, <- hCH] at K42 |-
 obtain ⟨c0, c1, c2, c3⟩ := D0.cells
 have HW : Hid (Below w.heap.size w W /\ W.heap.size = w.heap.size + 3) := ⟨bW, z2⟩
 clear hg hkd hfa hCH hnf h8 lc2 hs b0 b1 b2 z2 bW
 go_enter Tryz.func198, Tryz.ntmps198
 go_wp2_with fail
 refine K42.mono ?_
 rintro e w7 ⟨um, uc, up, rfl, ho, hb7⟩
 clear K42
 obtain ⟨bm, xm, ym, rfl⟩ := own_shape ho.1.1
 obtain ⟨bc, xc, yc, rfl⟩ := own_shape ho.1.2
 obtain ⟨bp, xp, yp, rfl⟩ := own_shape ho.2
 have D1 := D1.keep hb7
 have D2 := D2.keep hb7
 obtain ⟨r0, r1, r2, r3⟩ := D1.cells
 obtain ⟨q0, q1, q2, q3⟩ := D1.frees
 have u0 := D2.c0
 have u1 := D2.c1
 have u2 := D2.f0
 have u3 := D2.f1
 have HF : Hid (Below w.heap.size w w7 /\ OwnG (w.heap.size + 3) w7 (.slice bm xm ym) (.slice bc xc yc) (.slice bp xp yp) ms CH ps /\ B4 w7 (w.heap.size + 1) 33 (.slice none 0 0) (.slice none 0 0) (.int .u64 0) (.slice none 0 0) /\ B2 w7 (w.heap.size + 2) 38 (.int .i64 0) (.int .u64 0)) := ⟨below_tr HW.out.1 hb7, by rw [<- HW.out.2]; exact ho, D1, D2⟩
 clear D0 D1 D2 ho hb7
 go_wp2
 (try go_region)
 all_goals ((try go_wp2); (try simp only [Exit.inBlock, Exit.then]))
 all_goals obtain ⟨b10, own, D1, D2⟩ := HF.out
 all_goals have g1 := set4_by w7 (w.heap.size + 1) (.slice bm xm ym) (.slice bc xc yc) (.int .u64 bs) (.slice bp xp yp)
 all_goals have E1 := D1.set (.slice bm xm ym) (.slice bc xc yc) (.int .u64 bs) (.slice bp xp yp)
 all_goals obtain ⟨W11, hW11⟩ : ∃ z, ((((w7.setCell ⟨w.heap.size + 1, 0, none⟩ (.slice bm xm ym)).setCell ⟨w.heap.size + 1, 1, none⟩ (.slice bc xc yc)).setCell ⟨w.heap.size + 1, 2, none⟩ (.int .u64 bs)).setCell ⟨w.heap.size + 1, 3, none⟩ (.slice bp xp yp)) = z := ⟨_, rfl⟩
 all_goals rw [hW11] at g1 E1 |-
 all_goals have E2 := D2.by g1 (by omega)
 all_goals have o1 := own.by g1 (by omega)
 all_goals have b11 := b10.grown g1 b10.size (fun r e => by cases e; omega)
 all_goals have g2 := set2_by W11 (w.heap.size + 2) (.int .i64 kd) (.int .u64 fa)
 all_goals have E2 := E2.set (.int .i64 kd) (.int .u64 fa)
 all_goals obtain ⟨W12, hW12⟩ : ∃ z, (W11.setCell ⟨w.heap.size + 2, 0, none⟩ (.int .i64 kd)).setCell ⟨w.heap.size + 2, 1, none⟩ (.int .u64 fa) = z := ⟨_, rfl⟩
 all_goals rw [hW12] at g2 E2 |-
 all_goals have E1 := E1.by g2 (by omega)
 all_goals have o2 := o1.by g2 (by omega)
 all_goals have b12 := b11.grown g2 b11.size (fun r e => by cases e; omega)
 all_goals have bd : Below W12.heap.size W12 W12 := Below.refl _ _
 all_goals obtain ⟨t0, t1, t2, t3⟩ := E1.cells
 all_goals have t4 := E2.c0
 all_goals have t5 := E2.c1
 all_goals refine bodyPost_ret (v := .tuple #[.agg #[.slice bm xm ym, .slice bc xc yc, .int .u64 bs, .slice bp xp yp], .agg #[.int .i64 kd, .int .u64 fa]]) ?_ rfl ⟨_, _, _, rfl, o2.base (by omega), b12⟩
 all_goals (rw [results_cells rfl]; simp [go_sem, t0, t1, t2, t3, t4, t5])
def stC (cs ps : List (Nat × Int)) (bs a : Nat) (n : Int) (v : Nat) : List (Nat × Int) := if isW n = true then chL cs ps bs a (W.putBeS v n) 2 else cs
def stF (ps : List (Nat × Int)) (a : Nat) (n : Int) (v : Nat) : Int × Nat := if isW n = true then ffN ps a (W.putBeS v n).size 2 else (0, 0)
set_option maxHeartbeats 1000000 in
theorem gstore22 (vm vc vp : Value) (bs a v : Nat) (n : Int) (ms cs ps : List (Nat × Int)) (w : World) (hg : GdM w vm vc vp ms cs ps bs) (ha : a < 4294967296) (hb8 : bs % 8 = 0) (h8 : ∀ y ∈ cs, y.1 % 8 = 0) (lc2 : cs.length <= 1073000000)
  (hnf : isW n = true -> (ffN ps a (W.putBeS v n).size 2).1 = 0 -> ∀ x ∈ pcM a (bs + a) (W.putBeS v n).size (W.putBeS v n).size, (faultFrom ms x.2.1 2 0 x.2.2).1 = 0) :
  Calls Tryz.prog 147 #[.agg #[vm, vc, .int .u64 bs, vp], .int .u32 a, .int .i64 n, .int .u64 v] w fun e w' => ∃ vm' vc' vp', e = .returned (.tuple #[.agg #[vm', vc', .int .u64 bs, vp'], .agg #[.int .i64 (stF ps a n v).1, .int .u64 ((stF ps a n v).2 : Int)]]) /\ OwnG w.heap.size w' vm' vc' vp' ms (stC cs ps bs a n v) ps /\ Below w.heap.size w w' := by
 obtain ⟨⟨am, nm, pm, rfl⟩, ⟨ac, nc, pc, rfl⟩, ⟨ap, np, pp, rfl⟩⟩ := hg.shapes
 obtain ⟨V0, hV0⟩ : ∃ z, w.alloc (.cells #[.slice am nm pm, .slice ac nc pc, .int .u64 bs, .slice ap np pp] 33) = z := ⟨_, rfl⟩
 have D0 : B4 V0 w.heap.size 33 (.slice am nm pm) (.slice ac nc pc) (.int .u64 bs) (.slice ap np pp) := by rw [<- hV0]; exact B4.new w 33 _ _ _ _
 have b0 : Below w.heap.size w V0 := by rw [<- hV0]; exact (Below.refl _ _).alloc (Nat.le_refl _) _
 have z0 : V0.heap.size = w.heap.size + 1 := by rw [<- hV0]; simp
 obtain ⟨V1, hV1⟩ : ∃ z, V0.alloc (.cells #[.slice none 0 0, .slice none 0 0, .int .u64 0, .slice none 0 0] 33) = z := ⟨_, rfl⟩
 have D1 : B4 V1 (w.heap.size + 1) 33 (.slice none 0 0) (.slice none 0 0) (.int .u64 0) (.slice none 0 0) := by rw [<- hV1, <- z0]; exact B4.new V0 33 _ _ _ _
 have b1 : Below V0.heap.size V0 V1 := by rw [<- hV1]; exact (Below.refl _ _).alloc (Nat.le_refl _) _
 have z1 : V1.heap.size = w.heap.size + 2 := by rw [<- hV1]; simp; omega
 obtain ⟨WX, hW⟩ : ∃ z, V1.alloc (.cells #[.int .i64 0, .int .u64 0] 38) = z := ⟨_, rfl⟩
 have D2 : B2 WX (w.heap.size + 2) 38 (.int .i64 0) (.int .u64 0) := by rw [<- hW, <- z1]; exact B2.new V1 38 _ _
 have b2 : Below V1.heap.size V1 WX := by rw [<- hW]; exact (Below.refl _ _).alloc (Nat.le_refl _) _
 have z2 : WX.heap.size = w.heap.size + 3 := by rw [<- hW]; simp; omega
 have D0 := (D0.keep b1).keep b2
 have D1 := D1.keep b2
 have bW : Below w.heap.size w WX := below_tr b0 (below_tr b1 b2)
 have K34 := isWidth34 n WX
 obtain ⟨c0, c1, c2, c3⟩ := D0.cells
 have HW : Hid (Below w.heap.size w WX /\ WX.heap.size = w.heap.size + 3) := ⟨bW, z2⟩
 have HK : Hid (∀ wq, Below WX.heap.size WX wq -> B4 wq w.heap.size 33 (.slice am nm pm) (.slice ac nc pc) (.int .u64 bs) (.slice ap np pp) /\ B4 wq (w.heap.size + 1) 33 (.slice none 0 0) (.slice none 0 0) (.int .u64 0) (.slice none 0 0) /\ B2 wq (w.heap.size + 2) 38 (.int .i64 0) (.int .u64 0)) := fun wq hq => ⟨D0.keep hq, D1.keep hq, D2.keep hq⟩
 clear b0 b1 b2 z2
 cases hi : isW n with
 | false =>
  have HV : Hid (stC cs ps bs a n v = cs /\ stF ps a n v = (0, 0)) := by refine ⟨?_, ?_⟩ <;> simp [stC, stF, hi]
  obtain ⟨CH, hCH⟩ : ∃ z, z = stC cs ps bs a n v := ⟨_, rfl⟩
  obtain ⟨FF, hFF⟩ : ∃ z, z = stF ps a n v := ⟨_, rfl⟩
  rw [<- hCH, <- hFF] at HV |-
  obtain ⟨rfl, rfl⟩ := HV.out
  have K44 := gfresh40 (.slice am nm pm) (.slice ac nc pc) (.slice ap np pp) bs ms CH ps WX (hg.keep bW).m (hg.keep bW).c (hg.keep bW).p hg.lm hg.lc hg.lp
  rw [hi] at K34
  clear hg hi hnf HV hCH hFF h8 lc2 bW
  go_enter Tryz.func147, Tryz.ntmps147
  go_wp2_with fail
  refine K34.mono ?_
  rintro e wz ⟨rfl, rfl⟩
  clear K34
  go_wp2_with fail
  refine K44.mono ?_
  rintro e w7 ⟨bm, xm, ym, bc, xc, yc, bp, xp, yp, rfl, ho, hb7⟩
  clear K44
  obtain ⟨_, D1, D2⟩ := HK.out w7 hb7
  obtain ⟨r0, r1, r2, r3⟩ := D1.cells
  obtain ⟨q0, q1, q2, q3⟩ := D1.frees
  have u0 := D2.c0
  have u1 := D2.c1
  have u2 := D2.f0
  have u3 := D2.f1
  have HF : Hid (Below w.heap.size w w7 /\ OwnG (w.heap.size + 3) w7 (.slice bm xm ym) (.slice bc xc yc) (.slice bp xp yp) ms CH ps /\ B4 w7 (w.heap.size + 1) 33 (.slice none 0 0) (.slice none 0 0) (.int .u64 0) (.slice none 0 0) /\ B2 w7 (w.heap.size + 2) 38 (.int .i64 0) (.int .u64 0)) := ⟨below_tr HW.out.1 hb7, by rw [<- HW.out.2]; exact ho, D1, D2⟩
  clear D0 D1 D2 ho hb7
  go_wp2
  (try simp only [Exit.inBlock, Exit.then])
  all_goals obtain ⟨b10, own, D1, D2⟩ := HF.out
  all_goals have g1 := set4_by w7 (w.heap.size + 1) (.slice bm xm ym) (.slice bc xc yc) (.int .u64 bs) (.slice bp xp yp)
  all_goals have E1 := D1.set (.slice bm xm ym) (.slice bc xc yc) (.int .u64 bs) (.slice bp xp yp)
  all_goals obtain ⟨W11, hW11⟩ : ∃ z, ((((w7.setCell ⟨w.heap.size + 1, 0, none⟩ (.slice bm xm ym)).setCell ⟨w.heap.size + 1, 1, none⟩ (.slice bc xc yc)).setCell ⟨w.heap.size + 1, 2, none⟩ (.int .u64 bs)).setCell ⟨w.heap.size + 1, 3, none⟩ (.slice bp xp yp)) = z := ⟨_, rfl⟩
  all_goals rw [hW11] at g1 E1 |-
  all_goals have E2 := D2.by g1 (by omega)
  all_goals have o1 := own.by g1 (by omega)
  all_goals have b11 := b10.grown g1 b10.size (fun r e => by cases e; omega)
  all_goals have g2 := set2_by W11 (w.heap.size + 2) (.int .i64 0) (.int .u64 0)
  all_goals have E2 := E2.set (.int .i64 0) (.int .u64 0)
  all_goals obtain ⟨W12, hW12⟩ : ∃ z, (W11.setCell ⟨w.heap.size + 2, 0, none⟩ (.int .i64 0)).setCell ⟨w.heap.size + 2, 1, none⟩ (.int .u64 0) = z := ⟨_, rfl⟩
  all_goals rw [hW12] at g2 E2 |-
  all_goals have E1 := E1.by g2 (by omega)
  all_goals have o2 := o1.by g2 (by omega)
  all_goals have b12 := b11.grown g2 b11.size (fun r e => by cases e; omega)
  all_goals have bd : Below W12.heap.size W12 W12 := Below.refl _ _
  all_goals obtain ⟨t0, t1, t2, t3⟩ := E1.cells
  all_goals have t4 := E2.c0
  all_goals have t5 := E2.c1
  all_goals refine bodyPost_ret (v := .tuple #[.agg #[.slice bm xm ym, .slice bc xc yc, .int .u64 bs, .slice bp xp yp], .agg #[.int .i64 0, .int .u64 0]]) ?_ rfl ⟨_, _, _, rfl, o2.base (by omega), b12⟩
  all_goals (rw [results_cells rfl]; simp [go_sem, t0, t1, t2, t3, t4, t5])
 | true =>
  obtain ⟨str, hstr⟩ : ∃ z, z = W.putBeS v n := ⟨_, rfl⟩
  have hsz : str.size < 9223372036854775808 := by
   rw [hstr, W.putBeS]
   split
   ·rename_i h
    show (W.leB v n.toNat).reverse.toArray.size < _
    rw [List.size_toArray, List.length_reverse, W.leB_length]
    omega
   ·show (#[] : Array UInt8).size < _
    decide
  have hnf := hnf hi
  have K45 : Hid (∀ w', Calls Tryz.prog 199 #[.int .u64 v, .int .i64 n] w' fun e w'' => e = .returned (.string str) /\ Below w'.heap.size w' w'') := fun w' => by rw [hstr]; exact W.putBe_any v n w'
  rw [<- hstr] at hnf
  obtain ⟨CH, hCH⟩ : ∃ z, z = stC cs ps bs a n v := ⟨_, rfl⟩
  obtain ⟨kd, hkd⟩ : ∃ z, z = (stF ps a n v).1 := ⟨_, rfl⟩
  obtain ⟨fa, hfa⟩ : ∃ z, z = (stF ps a n v).2 := ⟨_, rfl⟩
  have K18 : Hid (∀ w', Below WX.heap.size WX w' -> Calls Tryz.prog 198 #[.agg #[.slice am nm pm, .slice ac nc pc, .int .u64 bs, .slice ap np pp], .int .u32 a, .string str] w' fun e w'' => ∃ bm xm ym bc xc yc bp xp yp, e = .returned (.tuple #[.agg #[.slice bm xm ym, .slice bc xc yc, .int .u64 bs, .slice bp xp yp], .agg #[.int .i64 kd, .int .u64 fa]]) /\ OwnG (w.heap.size + 3) w'' (.slice bm xm ym) (.slice bc xc yc) (.slice bp xp yp) ms CH ps /\ Below WX.heap.size WX w'') := fun w' hb' => by
   rw [hkd, hfa, hCH, stF, stC, if_pos hi, if_pos hi, <- hstr]
   refine (gput18 _ _ _ bs a str ms cs ps w' (hg.keep (below_tr bW hb')) ha hsz hb8 h8 lc2 hnf).mono ?_
   rintro e w'' ⟨um, uc, up, rfl, ho, hb''⟩
   obtain ⟨bm, xm, ym, rfl⟩ := own_shape ho.1.1
   obtain ⟨bc, xc, yc, rfl⟩ := own_shape ho.1.2
   obtain ⟨bp, xp, yp, rfl⟩ := own_shape ho.2
   exact ⟨_, _, _, _, _, _, _, _, _, rfl, ho.base (by have := HW.out.2; have := hb'.size; omega), below_tr hb' hb''⟩
  rw [<- hkd, <- hfa, <- hCH]
  rw [hi] at K34
  clear hg hi hnf hCH hkd hfa h8 lc2 bW hstr hsz
  go_enter Tryz.func147, Tryz.ntmps147
  go_wp2_with fail
  refine K34.mono ?_
  rintro e wz ⟨rfl, rfl⟩
  clear K34
  go_wp2
  have HK2 : Hid (∀ wq, Below wz.drew.heap.size wz.drew wq -> Below wz.heap.size wz wq /\ wq.cell? ⟨w.heap.size, 0, none⟩ = some (.slice am nm pm) /\ wq.cell? ⟨w.heap.size, 1, none⟩ = some (.slice ac nc pc) /\ wq.cell? ⟨w.heap.size, 2, none⟩ = some (.int .u64 bs) /\ wq.cell? ⟨w.heap.size, 3, none⟩ = some (.slice ap np pp)) := fun wq hq => by
   have h := below_tr (Below.refl wz.heap.size wz).drew hq
   exact ⟨h, (HK.out wq h).1.cells⟩
  clear D0 D1 D2
  go_region_with (first
   | (go_at_call 199; refine (K45.out _).mono ?_; rintro e wG ⟨rfl, hbG⟩; obtain ⟨hbH, c0, c1, c2, c3⟩ := HK2.out wG hbG)
   | (go_at_call 198; refine (K18.out _ (by assumption)).mono ?_; rintro e w7 ⟨bm, xm, ym, bc, xc, yc, bp, xp, yp, rfl, ho, hb7⟩; obtain ⟨_, D1, D2⟩ := HK.out w7 hb7; obtain ⟨r0, r1, r2, r3⟩ := D1.cells; obtain ⟨q0, q1, q2, q3⟩ := D1.frees; have u0 := D2.c0; have u1 := D2.c1; have u2 := D2.f0; have u3 := D2.f1))
  all_goals (go_wp2; (try simp only [Exit.inBlock, Exit.then]))
  all_goals have HF : Hid (Below w.heap.size w w7 /\ OwnG (w.heap.size + 3) w7 (.slice bm xm ym) (.slice bc xc yc) (.slice bp xp yp) ms CH ps /\ B4 w7 (w.heap.size + 1) 33 (.slice none 0 0) (.slice none 0 0) (.int .u64 0) (.slice none 0 0) /\ B2 w7 (w.heap.size + 2) 38 (.int .i64 0) (.int .u64 0)) := ⟨below_tr HW.out.1 hb7, ho, D1, D2⟩
  all_goals clear D1 D2 ho
  all_goals obtain ⟨b10, own, D1, D2⟩ := HF.out
  all_goals have g1 := set4_by w7 (w.heap.size + 1) (.slice bm xm ym) (.slice bc xc yc) (.int .u64 bs) (.slice bp xp yp)
  all_goals have E1 := D1.set (.slice bm xm ym) (.slice bc xc yc) (.int .u64 bs) (.slice bp xp yp)
  all_goals obtain ⟨W11, hW11⟩ : ∃ z, ((((w7.setCell ⟨w.heap.size + 1, 0, none⟩ (.slice bm xm ym)).setCell ⟨w.heap.size + 1, 1, none⟩ (.slice bc xc yc)).setCell ⟨w.heap.size + 1, 2, none⟩ (.int .u64 bs)).setCell ⟨w.heap.size + 1, 3, none⟩ (.slice bp xp yp)) = z := ⟨_, rfl⟩
  all_goals rw [hW11] at g1 E1 |-
  all_goals have E2 := D2.by g1 (by omega)
  all_goals have o1 := own.by g1 (by omega)
  all_goals have b11 := b10.grown g1 b10.size (fun r e => by cases e; omega)
  all_goals have g2 := set2_by W11 (w.heap.size + 2) (.int .i64 kd) (.int .u64 fa)
  all_goals have E2 := E2.set (.int .i64 kd) (.int .u64 fa)
  all_goals obtain ⟨W12, hW12⟩ : ∃ z, (W11.setCell ⟨w.heap.size + 2, 0, none⟩ (.int .i64 kd)).setCell ⟨w.heap.size + 2, 1, none⟩ (.int .u64 fa) = z := ⟨_, rfl⟩
  all_goals rw [hW12] at g2 E2 |-
  all_goals have E1 := E1.by g2 (by omega)
  all_goals have o2 := o1.by g2 (by omega)
  all_goals have b12 := b11.grown g2 b11.size (fun r e => by cases e; omega)
  all_goals have bd : Below W12.heap.size W12 W12 := Below.refl _ _
  all_goals obtain ⟨t0, t1, t2, t3⟩ := E1.cells
  all_goals have t4 := E2.c0
  all_goals have t5 := E2.c1
  all_goals refine bodyPost_ret (v := .tuple #[.agg #[.slice bm xm ym, .slice bc xc yc, .int .u64 bs, .slice bp xp yp], .agg #[.int .i64 kd, .int .u64 fa]]) ?_ rfl ⟨_, _, _, rfl, o2.base (by omega), b12⟩
  all_goals (rw [results_cells rfl]; simp [go_sem, t0, t1, t2, t3, t4, t5])
theorem ffL_all (ps : List (Nat × Int)) (asked : Int) : ∀ xs : List P3, (ffL ps asked xs).1 = 0 -> ∀ y ∈ xs, gk ps asked y.1 = 0
 | [], _, y, hy => by cases hy
 | x :: t, h, y, hy => by
  rw [ffL] at h
  by_cases c : gk ps asked x.1 = 0
  ·rw [if_pos c] at h
   rcases List.mem_cons.1 hy with e | e
   ·rw [e]; exact c
   ·exact ffL_all ps asked t h y e
  ·rw [if_neg c] at h
   exact absurd h c
theorem pcM_is (a p n : Nat) : ∀ (k : Nat) (x : P3), x ∈ pcM a p n k -> ∃ j, offP a n j < n /\ x = pcOf a p n (offP a n j)
 | 0, x, h => by cases h
 | k + 1, x, h => by
  rw [pcM] at h
  rcases List.mem_append.1 h with e | e
  ·exact pcM_is a p n k x e
  ·by_cases c : offP a n k < n
   ·rw [if_pos c] at e
    exact ⟨k, c, by simpa using e⟩
   ·rw [if_neg c] at e; cases e
theorem faultFrom_of (ms : List (Nat × Int)) (a : Nat) (need : Int) : ∀ (m i : Nat), (∀ j, i <= j -> j < i + m -> faultK ms a j need = 0) -> (faultFrom ms a need i m).1 = 0
 | 0, i, _ => rfl
 | m + 1, i, h => by
  rw [faultFrom, if_pos (h i (Nat.le_refl _) (by omega))]
  exact faultFrom_of ms a need m (i + 1) (fun j h1 h2 => h j (by omega) (by omega))
theorem gk_page {ps : List (Nat × Int)} {asked : Int} {p : Nat} (h : gk ps asked p = 0) : ∃ x ∈ ps, x.1 = p / 4096 := by
 unfold gk at h
 split at h
 ·simp at h
 ·rename_i c
  unfold protN at c
  split at c
  ·rename_i x hx
   exact ⟨x, List.mem_of_find?_eq_some hx, by simpa using List.find?_some hx⟩
  ·simp at c
theorem fit_host {ms cs ps : List (Nat × Int)} {bs a n : Nat} {asked need : Int} (hf : FitG ms cs ps bs) (ha : a < 4294967296) (hnd : need = 1 \/ need = 2) (h : (ffN ps a n asked).1 = 0) : ∀ x ∈ pcM a (bs + a) n n, (faultFrom ms x.2.1 need 0 x.2.2).1 = 0 := by
 intro x hx
 have hz := ffN_zero ps a n asked h
 unfold ffN at h
 rw [if_neg (by omega), ffL_place ps asked a 0 (bs + a) n n] at h
 have hg := ffL_all ps asked _ h x hx
 obtain ⟨j, hj, rfl⟩ := pcM_is _ _ _ _ _ hx
 obtain ⟨p, hpp, e⟩ := gk_page hg
 obtain ⟨p1, p2, p3, y, hy, ey⟩ := hf.pg p hpp
 simp only [pcOf] at e |-
 have al := hf.al
 have le := hf.le
 unfold hp at ey
 obtain ⟨o, ho⟩ : ∃ o, o = offP a n j := ⟨_, rfl⟩
 rw [<- ho] at e hj |-
 have hin : inB bs (y.1 * 16384) = true := by
  unfold inB
  simp
  omega
 have hy3 := (hf.rm y hy hin).1
 refine faultFrom_of _ _ _ _ _ (fun i h1 h2 => ?_)
 have hk : ((bs + a + o + i) % 18446744073709551616) / 16384 = y.1 := by omega
 unfold faultK
 rw [hk, find_mem hf.fq.2.2.1 hy]
 simp only
 rw [if_neg (by omega), hy3]
 rcases hnd with rfl | rfl
 ·rw [if_neg (by decide)]
 ·rw [if_neg (by decide)]
end Go.Proofs.YtimfipkbddpdmaaGreatDoor.Gm
