import Derived.Test.YtimfipkbddpdmaaGreatDoorVals
import Derived.Test.YtimfipkbddpdmaaGreatDoorMGtd
import Derived.Test.YtimfipkbddpdmaaGreatDoorMGws
import Derived.Test.YtimfipkbddpdmaaGreatDoorEach
import Derived.Test.YtimfipkbddpdmaaGreatDoorMH
import Derived.Test.YtimfipkbddpdmaaGreatDoorMW
import Derived.Test.YtimfipkbddpdmaaGreatDoorMGbk
import Derived.Test.YtimfipkbddpdmaaGreatDoorMGld
set_option linter.unusedVariables false
set_option linter.unusedSimpArgs false
set_option maxRecDepth 100000
open Go Go.RowKit
namespace Go.Proofs.YtimfipkbddpdmaaGreatDoor.Gm
attribute [local go_sem] Oper.semAt_some
def WrI (B b5 b9 b10 : Nat) (cs : List (Nat × Int)) (c0 : Nat) (s : ByteArray) (a : Nat) (pre : List P3) (w : World) : Prop :=
 (∃ t : ByteArray, Boxed w b5 9 (.string t) /\ t.data.toList = s.data.toList.drop (wsum pre)) /\ Boxed w b9 3 (.int .i64 (((lo cs (c0 + 8 * pre.length)).length : Nat) : Int)) /\
  ∃ v, Boxed w b10 27 v /\ w.ownsRow B 48 2 v (nowL cs (pre.map (trP s a))).length (rowOf .u64 (nowL cs (pre.map (trP s a))))
theorem boxed_row {w w' : World} {b t : Nat} {v : Value} {row : Option Nat} (h : Boxed w b t v) (hg : w.grownBy w' row) (hr : ∀ r, row = some r -> ∃ o : Obj, w.heap[r]? = some o /\ o.isCells = false) : Boxed w' b t v :=
 h.kept hg (fun e => by
  obtain ⟨o, h1, h2⟩ := hr b e.symm
  rw [show w.heap[b]? = _ from h] at h1
  cases h1
  simp [Obj.isCells] at h2)
theorem WrI.row {B b5 b9 b10 c0 a : Nat} {cs : List (Nat × Int)} {s : ByteArray} {pre : List P3} {w w' : World} {row : Option Nat} (h : WrI B b5 b9 b10 cs c0 s a pre w) (hg : w.grownBy w' row) (hr : ∀ r, row = some r -> ∃ o : Obj, w.heap[r]? = some o /\ o.isCells = false) : WrI B b5 b9 b10 cs c0 s a pre w' := by
 obtain ⟨⟨t, h1, h2⟩, h3, v, h4, h5⟩ := h
 exact ⟨⟨t, boxed_row h1 hg hr, h2⟩, boxed_row h3 hg hr, v, boxed_row h4 hg hr, own_row h5 hg hr⟩
theorem WrI.keep {B b5 b9 b10 c0 a : Nat} {cs : List (Nat × Int)} {s : ByteArray} {pre : List P3} {w w' : World} (h : WrI B b5 b9 b10 cs c0 s a pre w) (hb : Below w.heap.size w w') : WrI B b5 b9 b10 cs c0 s a pre w' := by
 obtain ⟨⟨t, h1, h2⟩, h3, v, h4, h5⟩ := h
 exact ⟨⟨t, (hb.block _ h1.lt).trans h1, h2⟩, (hb.block _ h3.lt).trans h3, v, (hb.block _ h4.lt).trans h4, own_keep h5 hb⟩
def Pb (w : World) (b : Nat) (x : P3) : Prop := w.heap[b]? = some (.cells #[.int .u64 x.1, .int .u64 x.2.1, .int .i64 x.2.2] 207 (0, 0))
theorem Pb.lt {w : World} {b : Nat} {x : P3} (h : Pb w b x) : b < w.heap.size := (Array.getElem?_eq_some_iff.1 h).1
theorem Pb.c1 {w : World} {b : Nat} {x : P3} (h : Pb w b x) : w.cell? ⟨b, 1, none⟩ = some (.int .u64 x.2.1) := by
 rw [Pb] at h; simp [World.cell?, h]
theorem Pb.c2 {w : World} {b : Nat} {x : P3} (h : Pb w b x) : w.cell? ⟨b, 2, none⟩ = some (.int .i64 x.2.2) := by
 rw [Pb] at h; simp [World.cell?, h]
theorem Pb.keep {w w' : World} {b : Nat} {x : P3} (h : Pb w b x) (hb : Below w.heap.size w w') : Pb w' b x := (hb.block b h.lt).trans h
theorem Pb.row {w w' : World} {b : Nat} {x : P3} {row : Option Nat} (h : Pb w b x) (hg : w.grownBy w' row) (hr : ∀ r, row = some r -> ∃ o : Obj, w.heap[r]? = some o /\ o.isCells = false) : Pb w' b x :=
 (hg.block b h.lt (fun e => by
  obtain ⟨o, h1, h2⟩ := hr b e.symm
  rw [show w.heap[b]? = _ from h] at h1
  cases h1
  simp [Obj.isCells] at h2)).trans h
theorem Pb.own {w w' : World} {b : Nat} {x : P3} {B n : Nat} {v : Value} {xs : List Value} (h : Pb w b x) (ho : w.ownsRow B 48 2 v n xs) (hg : w.grownBy w' v.ownBlock) : Pb w' b x :=
 (hg.block b h.lt (fun e => by
  obtain ⟨c, fz, q⟩ := Go.Lib.ownsRow_kind ho b e.symm
  rw [show w.heap[b]? = _ from h] at q
  simp at q)).trans h
theorem Pb.new (w : World) (x : P3) : Pb (w.alloc (.cells #[.int .u64 x.1, .int .u64 x.2.1, .int .i64 x.2.2] 207)) w.heap.size x := heap_alloc_new w _
set_option maxHeartbeats 1000000 in
theorem gwritten67 (vm vc vp : Value) (bs a : Nat) (s : ByteArray) (ms cs ps : List (Nat × Int)) (w : World) (hg : GdM w vm vc vp ms cs ps bs) (ha : a < 4294967296) (hs : s.size <= 65536) (hb8 : bs % 8 = 0) (h8 : ∀ y ∈ cs, y.1 % 8 = 0) (lc2 : cs.length <= 1073000000) (hnf : ∀ x ∈ pcM a (bs + a) s.size s.size, (faultFrom ms x.2.1 2 0 x.2.2).1 = 0) :
  Calls Tryz.prog 218 #[.agg #[vm, vc, .int .u64 bs, vp], .int .u32 a, .string s] w fun e w' => ∃ v, e = .returned v /\ w'.ownsRow w.heap.size 48 2 v (stL cs ((pcM a (bs + a) s.size s.size).map (trP s a))).length (rowOf .u64 (stL cs ((pcM a (bs + a) s.size s.size).map (trP s a)))) /\ Below w.heap.size w w' := by
 obtain ⟨⟨am, nm, pm, rfl⟩, ⟨ac, nc, pc, rfl⟩, ⟨ap, np, pp, rfl⟩⟩ := hg.shapes
 obtain ⟨W0, hW0, hb0, hz0, g0, g1, g2, g3, _⟩ := box4 w (.slice am nm pm) (.slice ac nc pc) (.int .u64 bs) (.slice ap np pp) 33
 obtain ⟨W1, hW1⟩ : ∃ z, W0.alloc (.cells #[.string s] 9) = z := ⟨_, rfl⟩
 have hb1 : Below W0.heap.size W0 W1 := by rw [<- hW1]; exact (Below.refl _ _).alloc (Nat.le_refl _) _
 have hz1 : W1.heap.size = w.heap.size + 2 := by rw [<- hW1]; simp; omega
 have o5 : Boxed W1 (w.heap.size + 1) 9 (.string s) := by rw [<- hW1, <- hz0]; exact Boxed.new W0 9 _
 obtain ⟨W2, hW2⟩ : ∃ z, W1.alloc (.cells #[.slice ac nc pc] 27) = z := ⟨_, rfl⟩
 have hb2 : Below W1.heap.size W1 W2 := by rw [<- hW2]; exact (Below.refl _ _).alloc (Nat.le_refl _) _
 have hz2 : W2.heap.size = w.heap.size + 3 := by rw [<- hW2]; simp; omega
 have o7 : W2.cell? ⟨w.heap.size + 2, 0, none⟩ = some (.slice ac nc pc) := by rw [<- hW2, <- hz1]; exact cell_newA W1 _ 27 _ 0 _ rfl rfl
 have g0 := keep_cell hb1 g0
 have g1 := keep_cell hb1 g1
 have g2 := keep_cell hb1 g2
 have g3 := keep_cell hb1 g3
 have HW2 : Hid (Below w.heap.size w W2 /\ W2.heap.size = w.heap.size + 3 /\ Boxed W2 (w.heap.size + 1) 9 (.string s)) := ⟨below_tr hb0 (below_tr hb1 hb2), hz2, (hb2.block _ o5.lt).trans o5⟩
 obtain ⟨pl, hpl⟩ : ∃ z, z = bs + a := ⟨_, rfl⟩
 obtain ⟨c0, hc0⟩ : ∃ z, z = cellOf pl := ⟨_, rfl⟩
 obtain ⟨fm, hfm⟩ : ∃ z, z = (lo cs c0).length := ⟨_, rfl⟩
 have hbs := hg.hb
 have K79 : Hid (∀ w', Calls Tryz.prog 201 #[.agg #[.slice am nm pm, .slice ac nc pc, .int .u64 bs, .slice ap np pp], .int .u32 a] w' fun e w'' => e = .returned (.int .u64 pl) /\ Below w'.heap.size w' w'') := fun w' => by rw [hpl]; exact gplace16 _ _ _ bs a hbs ha w' ⟨_, _, _, rfl⟩ ⟨_, _, _, rfl⟩ ⟨_, _, _, rfl⟩
 have K87 : Hid (∀ w', Calls Tryz.prog 224 #[.int .u64 pl] w' fun e w'' => e = .returned (.int .u64 c0) /\ w'' = w') := fun w' => by rw [hc0]; exact C.cellOf87 pl (by omega) w'
 have K86 : Hid (∀ w', Below w.heap.size w w' -> Calls Tryz.prog 223 #[.slice ac nc pc, .int .u64 c0] w' fun e w'' => e = .returned (.int .i64 fm) /\ Below w'.heap.size w' w'') := fun w' hb' => by rw [hfm]; exact C.firstCell86 _ cs c0 w' (hg.c.keep hb') hg.sc hg.lc
 refine callsIn_wide.1 (callsIn_of_wp_marks (F := Fence.wide) (n := 3) Tryz.func218 rfl trivial ?_ rfl)
 simp only [Tryz.ntmps218, List.size_toArray, List.length_cons, List.length_nil, Nat.reduceAdd, Nat.reduceSub, Array.replicate_succ, Array.replicate_zero, List.push_toArray, List.append_toArray, List.nil_append, List.cons_append]
 refine wpIn_wide.2 ?_
 have g0 := keep_cell hb2 g0
 have g1 := keep_cell hb2 g1
 have g2 := keep_cell hb2 g2
 have g3 := keep_cell hb2 g3
 obtain ⟨RES, hRES⟩ : ∃ z, z = stL cs ((pcM a (bs + a) s.size s.size).map (trP s a)) := ⟨_, rfl⟩
 rw [<- hRES]
 have HRES : Hid (RES = stL cs ((pcM a (bs + a) s.size s.size).map (trP s a))) := hRES
 have HNF : Hid (bs % 8 = 0 /\ (∀ y ∈ cs, y.1 % 8 = 0) /\ cs.length <= 1073000000 /\ (∀ x ∈ pcM a (bs + a) s.size s.size, (faultFrom ms x.2.1 2 0 x.2.2).1 = 0) /\ s.size <= 65536) := ⟨hb8, h8, lc2, hnf, hs⟩
 clear hRES h8 lc2 hnf hb8
 go_wp2
 refine wp_region_valsA [.slice ac nc pc, .agg #[.slice am nm pm, .slice ac nc pc, .int .u64 bs, .slice ap np pp], .int .u32 a, .int .u64 pl, .int .u64 c0, .int .i64 fm, .int .i64 fm] _ (by kernel_rfl) rfl (by kernel_rfl) (by kernel_rfl) (by kernel_rfl) (fun C hC => ?_)
 simp only [putVs, List.take_succ_cons, List.take_zero, Act.put, List.setIfInBounds_toArray, List.set_cons_zero, List.set_cons_succ] at hC
 subst hC
 refine ⟨?_, fun wy hR => ?_⟩
 ·repeat' refine And.intro ?_ ?_
  all_goals first | exact True.intro | intro wx hR
  all_goals try (refine yes ?_; have g0 := keep_cell hR g0; have g1 := keep_cell hR g1; have g2 := keep_cell hR g2; have g3 := keep_cell hR g3; have o7 := keep_cell hR o7; simp [go_sem, g0, g1, g2, g3, o7]; exact lands)
  ·refine yes ?_
   simp [go_sem]
   refine (K79.out wx).mono ?_
   rintro e wG ⟨rfl, hbG⟩
   exact landsAt hbG
  ·refine yes ?_
   simp [go_sem]
   refine (K87.out wx).mono ?_
   rintro e wG ⟨rfl, rfl⟩
   exact lands
  ·refine yes ?_
   simp [go_sem]
   refine (K86.out wx (below_tr HW2.out.1 hR)).mono ?_
   rintro e wG ⟨rfl, hbG⟩
   exact landsAt hbG
 have HWY : Hid (Below w.heap.size w wy /\ w.heap.size + 3 <= wy.heap.size /\ Boxed wy (w.heap.size + 1) 9 (.string s)) := ⟨below_tr HW2.out.1 hR, by have := hR.size; have := HW2.out.2.1; omega, (hR.block _ HW2.out.2.2.lt).trans HW2.out.2.2⟩
 obtain ⟨X4, hX4⟩ : ∃ z, wy.alloc (.cells #[.int .i64 fm] 3) = z := ⟨_, rfl⟩
 have hb4 : Below wy.heap.size wy X4 := by rw [<- hX4]; exact (Below.refl _ _).alloc (Nat.le_refl _) _
 have hz4 : X4.heap.size = wy.heap.size + 1 := by rw [<- hX4]; simp
 have o9 : Boxed X4 wy.heap.size 3 (.int .i64 fm) := by rw [<- hX4]; exact Boxed.new wy 3 _
 obtain ⟨X5, hX5⟩ : ∃ z, X4.alloc (.cells #[.slice none 0 0] 27) = z := ⟨_, rfl⟩
 have hb5 : Below X4.heap.size X4 X5 := by rw [<- hX5]; exact (Below.refl _ _).alloc (Nat.le_refl _) _
 have hz5 : X5.heap.size = wy.heap.size + 2 := by rw [<- hX5]; simp; omega
 have o10 : Boxed X5 (wy.heap.size + 1) 27 (.slice none 0 0) := by rw [<- hX5, <- hz4]; exact Boxed.new X4 27 _
 have hb45 := below_tr hb4 hb5
 have hb25 := below_tr hR hb45
 have g0 := keep_cell hb25 g0
 have g1 := keep_cell hb25 g1
 have g2 := keep_cell hb25 g2
 have g3 := keep_cell hb25 g3
 have o7 := keep_cell hb25 o7
 have o5 := keep_cell hb45 HWY.out.2.2.cell
 have w1 : IntKind.u64.wrap (s.size : Int) = (s.size : Int) := by rw [IntKind.wrap_u64]; omega
 have HX5 : Hid (Below w.heap.size w X5 /\ X5.heap.size = wy.heap.size + 2 /\ w.heap.size + 3 <= wy.heap.size /\ Boxed X5 (w.heap.size + 1) 9 (.string s) /\ Boxed X5 wy.heap.size 3 (.int .i64 fm) /\ Boxed X5 (wy.heap.size + 1) 27 (.slice none 0 0)) :=
  ⟨below_tr HWY.out.1 hb45, hz5, HWY.out.2.1, (hb45.block _ HWY.out.2.2.lt).trans HWY.out.2.2, (hb5.block _ o9.lt).trans o9, o10⟩
 have HGD : Hid (GdM w (.slice am nm pm) (.slice ac nc pc) (.slice ap np pp) ms cs ps bs) := hg
 have HPL : Hid (pl = bs + a /\ c0 = cellOf pl /\ fm = (lo cs c0).length) := ⟨hpl, hc0, hfm⟩
 have K62 := pieces62 (.slice am nm pm) (.slice ac nc pc) (.slice ap np pp) (.int .u64 bs) (.int .u32 a) (.int .u64 s.size) X5 ⟨_, _, _, rfl⟩ ⟨_, _, _, rfl⟩ ⟨_, _, _, rfl⟩ ⟨_, rfl⟩ ⟨_, rfl⟩ ⟨_, rfl⟩
 clear hR hb4 hb5 hb45 hb25 o9 o10 hb0 hb1 hb2 hz0 hz1 hz2 hW0 hW1 hW2 hg hpl hc0 hfm K79 K86
 go_wp2_with fail
 refine K62.mono ?_
 rintro e w3' ⟨rfl, rfl⟩
 clear K62
 go_wp2
 obtain ⟨W3, hW3, hb3, hs3, d0, d1, d2, d3, d4, d5⟩ := box411 X5 (.slice am nm pm) (.slice ac nc pc) (.int .u64 bs) (.slice ap np pp) (.int .u32 a) (.int .u64 s.size)
 rw [hW3]
 have hseq := pieces_next (3 - 1) (by omega) (X5.heap.size + 1) X5.heap.size (X5.heap.size + 2) am ac ap nm pm nc pc np pp bs a s.size hbs ha hs W3 d4 d5 d0 d1 d2 d3
 rw [show X5.heap.size = wy.heap.size + 2 from HX5.out.2.1] at hseq
 have hs33 : W3.heap.size = wy.heap.size + 5 := by have := HX5.out.2.1; omega
 have HW3 : Hid (Below w.heap.size w W3 /\ W3.heap.size = wy.heap.size + 5 /\ w.heap.size + 3 <= wy.heap.size) := ⟨below_tr HX5.out.1 hb3, hs33, HX5.out.2.2.1⟩
 have g0 := keep_cell hb3 g0
 have g1 := keep_cell hb3 g1
 have o7 := keep_cell hb3 o7
 have h00 : WrI W3.heap.size (w.heap.size + 1) wy.heap.size (wy.heap.size + 1) cs c0 s a [] X5 := by
  obtain ⟨_, _, _, q1, q2, q3⟩ := HX5.out
  refine ⟨⟨s, q1, by simp [wsum]⟩, ?_, _, q3, World.ownsRow_nil _ _ _ _⟩
  rw [<- show fm = (lo cs (c0 + 8 * ([] : List P3).length)).length from HPL.out.2.2]
  exact q2
 refine wpIn_wide.1 (wpIn_range_next (n := 3) (by omega) (gf := 200) rfl (enters_of Tryz.func200 (by kernel_rfl) rfl)
  hseq (fun _ _ => trivial) (fun _ _ _ _ _ _ _ _ => trivial) (Below.refl _ _) (fun _ => rfl)
  (fun pre Wx => Below w.heap.size w Wx /\ W3.heap.size <= Wx.heap.size /\ Wx.cell? ⟨w.heap.size, 0, none⟩ = some (.slice am nm pm) /\ Wx.cell? ⟨w.heap.size, 1, none⟩ = some (.slice ac nc pc) /\ Wx.cell? ⟨w.heap.size + 2, 0, none⟩ = some (.slice ac nc pc) /\ WrI W3.heap.size (w.heap.size + 1) wy.heap.size (wy.heap.size + 1) cs c0 s a pre Wx)
  (fun c pre Wx => False)
  (fun pre A C row hh hgr hrr => ?hI)
  (fun c pre A C row hh hgr hrr => hh)
  ⟨HW3.out.1, Nat.le_refl _, g0, g1, o7, h00.keep hb3⟩
  (fun x a' Wx => ∃ B v15 v16 v17 v18 v19 v20 v21 v22 v23 v24 v25 v26 v27 v28 v29 v30, a' = { tmps := #[.agg #[.slice am nm pm, .slice ac nc pc, .int .u64 bs, .slice ap np pp], .int .u32 a, .string s, .pointer (some ⟨w.heap.size, 0, none⟩), undef, .pointer (some ⟨w.heap.size + 1, 0, none⟩), .slice none 0 0, .pointer (some ⟨w.heap.size + 2, 0, none⟩), .int .i64 fm, .pointer (some ⟨wy.heap.size, 0, none⟩), .pointer (some ⟨wy.heap.size + 1, 0, none⟩), .pointer (some ⟨B, 0, none⟩), undef, undef, undef, v15, v16, v17, v18, v19, v20, v21, v22, v23, v24, v25, v26, v27, v28, v29, v30, .agg #[.int .u64 x.1, .int .u64 x.2.1, .int .i64 x.2.2], undef, undef, undef, undef, undef, undef, undef, undef, undef, undef, undef, undef, undef, undef, undef, undef, undef, undef, undef, undef, undef, undef, undef, undef, undef, undef, undef, undef, undef, undef, undef, undef, undef, undef, undef, undef, undef, undef, undef, undef, undef, undef, undef, undef, undef, undef, undef, undef, undef, undef, undef, undef, undef, undef, undef, undef, undef], defers := [] } /\ W3.heap.size <= B /\ Pb Wx B x)
  (fun x a' s A C row hh hgr hrr => ?hAx) ?assign ?body ?done ?stop)
 case hI =>
  obtain ⟨e1, e5, e2, e3, e6, e4⟩ := hh
  have hs := HW3.out.2
  exact ⟨e1.grown hgr e1.size (fun r e => by have := (hrr r e).1; omega), Nat.le_trans e5 hgr.size, hgr.cell e2 (fun e => by have := (hrr _ e.symm).1; simp at this; omega), hgr.cell e3 (fun e => by have := (hrr _ e.symm).1; simp at this; omega), hgr.cell e6 (fun e => by have := (hrr _ e.symm).1; simp at this; omega), e4.row hgr (fun r e => (hrr r e).2)⟩
 case hAx =>
  obtain ⟨B, v15, v16, v17, v18, v19, v20, v21, v22, v23, v24, v25, v26, v27, v28, v29, v30, e1, e2, e3⟩ := hh
  exact ⟨B, v15, v16, v17, v18, v19, v20, v21, v22, v23, v24, v25, v26, v27, v28, v29, v30, e1, e2, e3.row hgr (fun r e => (hrr r e).2)⟩
 case assign =>
  intro l pre x Wx K hnx hi hK
  simp only [encP]
  gi_wp2
  obtain ⟨i1, i5, i2, i3, i6, i4⟩ := hi
  have hb' : Below Wx.heap.size Wx (Wx.alloc (.cells #[.int .u64 x.1, .int .u64 x.2.1, .int .i64 x.2.2] 207)) := (Below.refl _ _).alloc (Nat.le_refl _) _
  exact hK _ _ ((KeepsOthers.of_below hb').from _) trivial ⟨below_tr i1 hb', Nat.le_trans i5 hb'.size, keep_cell hb' i2, keep_cell hb' i3, keep_cell hb' i6, i4.keep hb'⟩ ⟨_, _, _, _, _, _, _, _, _, _, _, _, _, _, _, _, _, rfl, i5, Pb.new Wx x⟩
 case body =>
  rintro l pre x a' Wx ⟨k, hpre, hlt, hx⟩ ⟨i1, i5, g0, g1, o7, ⟨t, bt, ht⟩, b9, v, b10, own⟩ ⟨B, v15, v16, v17, v18, v19, v20, v21, v22, v23, v24, v25, v26, v27, v28, v29, v30, rfl, hB, zp⟩
  have z1 := zp.c1
  have z2 := zp.c2
  obtain ⟨nb8, n8, nl, nf, ns⟩ := HNF.out
  obtain ⟨p1, p2, p3⟩ := HPL.out
  have GD := HGD.out.keep i1
  obtain ⟨r1, r2, r3, r4, r5, r6, r7, r8, r9, r10, r11⟩ := rnd s bs a k nb8 hlt x hx
  rw [<- hpre] at r1 r9 r11
  rw [<- p1, <- p2, <- r1] at r2 r3
  obtain ⟨c, hc⟩ : ∃ z, z = c0 + 8 * pre.length := ⟨_, rfl⟩
  rw [<- hc] at r2 r3 b9
  obtain ⟨T, hT⟩ : ∃ z, z = (lo cs c).length := ⟨_, rfl⟩
  rw [<- hT] at b9
  obtain ⟨Bh, hBh⟩ : ∃ z, z = T + (mid cs c c).length := ⟨_, rfl⟩
  have hc8 : c % 8 = 0 := by rw [<- r2]; exact cellOf8 _
  have hTn : (lo cs (c0 + 8 * (pre ++ [x]).length)).length = Bh := by
   rw [List.length_append, List.length_singleton, show c0 + 8 * (pre.length + 1) = c + 8 by omega, hBh, hT]
   exact lo_next cs GD.sc n8 c hc8
  have hTl : Bh <= cs.length := by
   have := parts_len cs GD.sc c c (Nat.le_refl _)
   omega
  obtain ⟨vs, hvs, hsl⟩ := GD.c.mid23 T Bh (by omega) hTl
  rw [hBh, hT, parts_mid cs GD.sc c c (Nat.le_refl _)] at hsl
  obtain ⟨sa, qs, hve, _⟩ := id hsl
  have hts : t.size = s.size - wsum pre := by
   have h1 := congrArg List.length ht
   simpa using h1
  have hq : (x.2.2 : Int) <= (t.size : Int) := by rw [hts, r9]; omega
  obtain ⟨tp, htp⟩ : ∃ z, z = t.extract 0 x.2.2 := ⟨_, rfl⟩
  obtain ⟨tq, htq⟩ : ∃ z, z = t.extract x.2.2 t.size := ⟨_, rfl⟩
  have htp' : tp = ⟨((s.data.toList.drop (x.1 - a)).take x.2.2).toArray⟩ := by
   rw [htp, r6, <- r9, <- ht]
   apply ByteArray.ext
   apply Array.toList_inj.1
   simp [ByteArray.data_extract]
  have htq' : tq.data.toList = s.data.toList.drop (wsum (pre ++ [x])) := by
   rw [htq, wsum_snoc, <- List.drop_drop, <- ht]
   simp [ByteArray.data_extract]
   exact List.take_of_length_le (by simp)
  have hnc : nc = cs.length := by
   obtain ⟨_, _, e, _⟩ := GD.c
   cases e
   rfl
  obtain ⟨mn, hmn⟩ : ∃ z, z = (mid cs c c).length := ⟨_, rfl⟩
  rw [<- hmn] at hve
  subst hve
  obtain ⟨num, hnum⟩ : ∃ z, z = W.leS tp := ⟨_, rfl⟩
  have hnl : num < 18446744073709551616 := by
   rw [hnum, W.leS]
   split
   ·rename_i h
    refine Nat.lt_of_lt_of_le (W.beL_lt _) ?_
    rw [List.length_reverse]
    exact Nat.le_trans (Nat.pow_le_pow_right (by decide) (show tp.data.toList.length <= 8 from h)) (by decide)
   ·decide
  obtain ⟨one, hone⟩ : ∃ z, z = storeN (mid cs c c) x.2.1 x.2.2 num := ⟨_, rfl⟩
  have o5 := bt.cell
  have o9 := b9.cell
  have HGW : Hid (GdM Wx (.slice am nm pm) (.slice ac nc pc) (.slice ap np pp) ms cs ps bs) := GD
  have HNC : Hid (nc = cs.length) := hnc
  have K87 : Hid (∀ w', Calls Tryz.prog 224 #[.int .u64 x.2.1] w' fun e w'' => e = .returned (.int .u64 c) /\ w'' = w') := fun w' => by rw [<- r2]; exact C.cellOf87 x.2.1 (by omega) w'
  have K89 : Hid (∀ w', Calls Tryz.prog 226 #[.string tp] w' fun e w'' => e = .returned (.int .u64 num) /\ Below w'.heap.size w' w'') := fun w' => by rw [hnum]; exact W.le_any tp w'
  have K88 : Hid (∀ w', Below Wx.heap.size Wx w' -> Calls Tryz.prog 225 #[.agg #[.slice am nm pm, .slice sa mn qs], .int .u64 x.2.1, .int .i64 x.2.2, .int .u64 num] w' fun e w'' => ∃ u u', e = .returned (.tuple #[.agg #[u, u'], .agg #[.int .i64 0, .int .u64 0]]) /\ OwnH Wx.heap.size w'' u u' ms one /\ Below w'.heap.size w' w'') := fun w' hb' => by
   rw [hone]
   refine (store22_ok _ _ ms (mid cs c c) x.2.1 x.2.2 num w' (GD.m.keep hb') (hsl.keep hb') GD.sm (List.Pairwise.filter _ GD.sc) GD.lm (Nat.le_trans (List.length_filter_le _ _) (by omega)) (fun y hy => GD.hw y (List.mem_filter.1 hy).1) (by have := GD.hb; omega) r4 r5 hnl (nf x r8)).mono ?_
   rintro e w'' ⟨u, u', e1, e2, e3⟩
   exact ⟨u, u', e1, e2.base hb'.size, e3⟩
  have HON : Hid (nowL cs ((pre ++ [x]).map (trP s a)) = nowL cs (pre.map (trP s a)) ++ one /\ (nowL cs (pre.map (trP s a))).length + one.length <= 100000 /\ tq.data.toList = s.data.toList.drop (wsum (pre ++ [x])) /\ (lo cs (c0 + 8 * (pre ++ [x]).length)).length = Bh) := by
   have e1 : oneL cs (trP s a x) = one := by
    rw [hone, hnum, htp', oneL]
    show storeN (mid cs (cellOf x.2.1) (cellOf x.2.1)) x.2.1 x.2.2 _ = _
    rw [r2]
    rfl
   refine ⟨by rw [List.map_append, List.map_singleton, nowL_snoc, e1], ?_, htq', hTn⟩
   have h1 := nowL_len cs _ _ r11
   have h2 : one.length <= 1 := by rw [<- e1]; exact oneL_len cs _ (by show cellOf (x.2.1 + x.2.2 - 1) = cellOf x.2.1; rw [r3, r2])
   have h3 := offP_ge a s.size k hlt
   rw [List.length_map] at h1
   omega
  have HBX : Hid (W3.heap.size <= B /\ Below w.heap.size w Wx /\ W3.heap.size <= Wx.heap.size /\ Wx.cell? ⟨w.heap.size, 0, none⟩ = some (.slice am nm pm) /\ Wx.cell? ⟨w.heap.size, 1, none⟩ = some (.slice ac nc pc) /\ Wx.cell? ⟨w.heap.size + 2, 0, none⟩ = some (.slice ac nc pc) /\ Boxed Wx (w.heap.size + 1) 9 (.string t) /\ Boxed Wx wy.heap.size 3 (.int .i64 T) /\ Boxed Wx (wy.heap.size + 1) 27 v /\ Wx.ownsRow W3.heap.size 48 2 v (nowL cs (pre.map (trP s a))).length (rowOf .u64 (nowL cs (pre.map (trP s a)))) /\ Pb Wx B x) := ⟨hB, i1, i5, g0, g1, o7, bt, b9, b10, own, zp⟩
  obtain ⟨X, hX⟩ : ∃ z, z = nowL cs (pre.map (trP s a)) := ⟨_, rfl⟩
  rw [<- hX] at HON HBX
  clear hX
  have hqn : x.2.2 <= t.size := by omega
  have hext : t.extract 0 x.2.2 = tp := htp.symm
  have htp0 : t.extract x.2.2 t.size = tq := htq.symm
  clear htp htq htp' htq' hTn hnum hone hnl hts GD nf n8 r1 r2 r3 r4 r5 r6 r7 r8 r9 r10 r11 hlt hx hpre p1 p2 p3 hc hc8 ht i1 i5 g1 bt b9 b10 own hB hsl hseq hs33 hs3 zp
  by_cases hl8 : T < cs.length
  rotate_left
  have hlt8 : ((T : Int) < (nc : Int)) = False := by rw [HNC.out]; simp only [eq_iff_iff, iff_false]; omega
  have hTB : Bh = T := by
   have h1 := mid_none cs HGW.out.sc c (by omega)
   rw [hBh, h1]
   rfl
  clear hBh hT
  gi_wp2
  refine wpIn_region_cut (R := Ext) [⟨33, fun v _ => v = .int .i64 T, fun _ _ _ _ h => h⟩, ⟨34, fun v _ => v = .slice ac nc pc, fun _ _ _ _ h => h⟩, ⟨35, fun v _ => v = .int .i64 nc, fun _ _ _ _ h => h⟩, ⟨36, fun v _ => v = .bool false, fun _ _ _ _ h => h⟩, ⟨37, fun v _ => v = .bool false, fun _ _ _ _ h => h⟩, ⟨47, fun v _ => v = .bool false, fun _ _ _ _ h => h⟩] _ 15 (by kernel_rfl) rfl (by kernel_rfl) (by decide) (by kernel_rfl) (Below.drew (Below.refl _ _)) (fun _ _ _ h1 h2 => below_tr h1 h2) (fun QQ => ⟨?_, ?_, ?_, ?_, ?_, ?_, ?_, ?_, ?_, ?_, ?_, ?_, ?_, ?_, ?_, trivial⟩) (fun f8 wy8 hR8 hf8 A hA => ?_)
  ·intro A wx hR hout hdep K hK
   have h9 : A.tmps[9]?.getD undef = .pointer (some ⟨wy.heap.size, 0, none⟩) := hout 9 (by kernel_rfl)
   refine yes ?_
   have o7 := keep_cell hR o7
   have o9 := keep_cell hR o9
   have z1 := keep_cell hR z1
   simp [go_sem, h9, o7, o9, z1, hlt8]
   exact hK.out _ _ (Below.refl _ _) rfl
  ·intro A wx hR hout hdep K hK
   have h7 : A.tmps[7]?.getD undef = .pointer (some ⟨w.heap.size + 2, 0, none⟩) := hout 7 (by kernel_rfl)
   refine yes ?_
   have o7 := keep_cell hR o7
   have o9 := keep_cell hR o9
   have z1 := keep_cell hR z1
   simp [go_sem, h7, o7, o9, z1, hlt8]
   exact hK.out _ _ (Below.refl _ _) rfl
  ·intro A wx hR hout hdep K hK
   have h34 : A.tmps[34]?.getD undef = .slice ac nc pc := hdep 34 (by kernel_rfl)
   refine yes ?_
   simp [go_sem, h34, hlt8]
   exact hK.out _ _ (Below.refl _ _) rfl
  ·intro A wx hR hout hdep K hK
   have h33 : A.tmps[33]?.getD undef = .int .i64 T := hdep 33 (by kernel_rfl)
   have h35 : A.tmps[35]?.getD undef = .int .i64 nc := hdep 35 (by kernel_rfl)
   refine yes ?_
   simp [go_sem, h33, h35, hlt8]
   exact hK.out _ _ (Below.refl _ _) rfl
  ·intro A wx hR hout hdep K hK
   have h36 : A.tmps[36]?.getD undef = .bool false := hdep 36 (by kernel_rfl)
   refine yes ?_
   simp [go_sem, h36, hlt8]
   exact hK.out _ _ (Below.refl _ _) rfl
  ·intro A wx hR hout hdep K hK
   have h7 : A.tmps[7]?.getD undef = .pointer (some ⟨w.heap.size + 2, 0, none⟩) := hout 7 (by kernel_rfl)
   have h37 : A.tmps[37]?.getD undef = .bool false := hdep 37 (by kernel_rfl)
   refine if_not (by rw [wanted_is (j := 4) (b := true) (by kernel_rfl) (by kernel_rfl) h37]; decide) ?_
   exact ⟨by first | (simp [Oper.about]; done) | (intro f hf; trivial) | (simp [Oper.about]; intros; trivial), hK.out _ _ (Below.refl _ _) trivial⟩
  ·intro A wx hR hout hdep K hK
   have h9 : A.tmps[9]?.getD undef = .pointer (some ⟨wy.heap.size, 0, none⟩) := hout 9 (by kernel_rfl)
   have h37 : A.tmps[37]?.getD undef = .bool false := hdep 37 (by kernel_rfl)
   refine if_not (by rw [wanted_is (j := 4) (b := true) (by kernel_rfl) (by kernel_rfl) h37]; decide) ?_
   exact ⟨by first | (simp [Oper.about]; done) | (intro f hf; trivial) | (simp [Oper.about]; intros; trivial), hK.out _ _ (Below.refl _ _) trivial⟩
  ·intro A wx hR hout hdep K hK
   have h37 : A.tmps[37]?.getD undef = .bool false := hdep 37 (by kernel_rfl)
   refine if_not (by rw [wanted_is (j := 4) (b := true) (by kernel_rfl) (by kernel_rfl) h37]; decide) ?_
   exact ⟨by first | (simp [Oper.about]; done) | (intro f hf; trivial) | (simp [Oper.about]; intros; trivial), hK.out _ _ (Below.refl _ _) trivial⟩
  ·intro A wx hR hout hdep K hK
   have h37 : A.tmps[37]?.getD undef = .bool false := hdep 37 (by kernel_rfl)
   refine if_not (by rw [wanted_is (j := 4) (b := true) (by kernel_rfl) (by kernel_rfl) h37]; decide) ?_
   exact ⟨by first | (simp [Oper.about]; done) | (intro f hf; trivial) | (simp [Oper.about]; intros; trivial), hK.out _ _ (Below.refl _ _) trivial⟩
  ·intro A wx hR hout hdep K hK
   have h37 : A.tmps[37]?.getD undef = .bool false := hdep 37 (by kernel_rfl)
   refine if_not (by rw [wanted_is (j := 4) (b := true) (by kernel_rfl) (by kernel_rfl) h37]; decide) ?_
   exact ⟨by first | (simp [Oper.about]; done) | (intro f hf; trivial) | (simp [Oper.about]; intros; trivial), hK.out _ _ (Below.refl _ _) trivial⟩
  ·intro A wx hR hout hdep K hK
   have h11 : A.tmps[11]?.getD undef = .pointer (some ⟨B, 0, none⟩) := hout 11 (by kernel_rfl)
   have h37 : A.tmps[37]?.getD undef = .bool false := hdep 37 (by kernel_rfl)
   refine if_not (by rw [wanted_is (j := 4) (b := true) (by kernel_rfl) (by kernel_rfl) h37]; decide) ?_
   exact ⟨by first | (simp [Oper.about]; done) | (intro f hf; trivial) | (simp [Oper.about]; intros; trivial), hK.out _ _ (Below.refl _ _) trivial⟩
  ·intro A wx hR hout hdep K hK
   have h37 : A.tmps[37]?.getD undef = .bool false := hdep 37 (by kernel_rfl)
   refine if_not (by rw [wanted_is (j := 4) (b := true) (by kernel_rfl) (by kernel_rfl) h37]; decide) ?_
   exact ⟨by first | (simp [Oper.about]; done) | (intro f hf; trivial) | (simp [Oper.about]; intros; trivial), hK.out _ _ (Below.refl _ _) trivial⟩
  ·intro A wx hR hout hdep K hK
   have h37 : A.tmps[37]?.getD undef = .bool false := hdep 37 (by kernel_rfl)
   refine if_not (by rw [wanted_is (j := 4) (b := true) (by kernel_rfl) (by kernel_rfl) h37]; decide) ?_
   exact ⟨by first | (simp [Oper.about]; done) | (intro f hf; trivial) | (simp [Oper.about]; intros; trivial), hK.out _ _ (Below.refl _ _) trivial⟩
  ·intro A wx hR hout hdep K hK
   have h37 : A.tmps[37]?.getD undef = .bool false := hdep 37 (by kernel_rfl)
   refine if_not (by rw [wanted_is (j := 4) (b := true) (by kernel_rfl) (by kernel_rfl) h37]; decide) ?_
   exact ⟨by first | (simp [Oper.about]; done) | (intro f hf; trivial) | (simp [Oper.about]; intros; trivial), hK.out _ _ (Below.refl _ _) trivial⟩
  ·intro A wx hR hout hdep K hK
   have h37 : A.tmps[37]?.getD undef = .bool false := hdep 37 (by kernel_rfl)
   refine yes ?_
   simp [go_sem, h37, hlt8]
   exact hK.out _ _ (Below.refl _ _) rfl
  have hv47 : f8 47 = .bool false := hf8 47 (by kernel_rfl)
  simp only [putSl, List.take_succ_cons, List.take_zero, Act.put, List.setIfInBounds_toArray, List.set_cons_zero, List.set_cons_succ, hv47] at hA
  subst hA
  refine wpAnyIn_done (by kernel_rfl) ?_ _
  have HR8 : Hid (Below Wx.heap.size Wx wy8) := hR8
  clear hf8
  have g0 := keep_cell hR8 g0
  have o7 := keep_cell hR8 o7
  have o9 := keep_cell hR8 o9
  have o5 := keep_cell hR8 o5
  have z1 := keep_cell hR8 z1
  have z2 := keep_cell hR8 z2
  clear hR8
  rw [show ((T : Nat) : Int) = (Bh : Int) by rw [hTB]]
  rotate_left
  obtain ⟨cb, co, hac, q0, _⟩ : ∃ b o, ac = some ⟨b, o, none⟩ /\ Wx.cell? ⟨b, o + T * 2, none⟩ = some (.int .u64 (cs[T].1 : Int)) /\ True := by
   obtain ⟨ao, cap, e, _, _, _, h4⟩ := HGW.out.c
   obtain ⟨b, o, e1, e2, _⟩ := h4 T hl8
   simp only [Value.slice.injEq] at e
   exact ⟨b, o, e.1.trans e1, e2, trivial⟩
  obtain ⟨ky, hky⟩ : ∃ z, z = cs[T].1 := ⟨_, rfl⟩
  rw [<- hky] at q0
  obtain ⟨eb, heb⟩ : ∃ z, z = decide (ky = c) := ⟨_, rfl⟩
  have hkc : decide (ky = c) = eb := heb.symm
  have hkn : (ky == c) = eb := by rw [heb]; exact Bool.beq_eq_decide_eq ky c
  have hkb : ((ky : Int) == (c : Int)) = eb := by rw [Bool.beq_eq_decide_eq, heb]; exact decide_eq_decide.2 (by omega)
  have hkd : decide ((ky : Int) = (c : Int)) = eb := by rw [heb]; exact decide_eq_decide.2 (by omega)
  have hlt8 : ((T : Int) < (nc : Int)) = True := by rw [HNC.out]; simp only [eq_iff_iff, iff_true]; omega
  have HEB : Hid ((eb = true -> IntKind.i64.wrap ((T : Int) + 1) = (Bh : Int)) /\ (eb = false -> Bh = T)) := by
   refine ⟨fun h => ?_, fun h => ?_⟩
   ·have hk8 : cs[T].1 = c := by rw [<- hky]; rw [heb] at h; exact of_decide_eq_true h
    have h1 : (mid cs c c).length = 1 := by subst hT; exact (mid_at cs HGW.out.sc c hl8).1 hk8
    have h2 := HNF.out.2.2.1
    rw [IntKind.wrap_i64]
    omega
   ·have hk8 : ¬ cs[T].1 = c := by rw [<- hky]; rw [heb] at h; exact of_decide_eq_false h
    have h1 := mid_short cs HGW.out.sc c
    have h2 : ¬ (mid cs c c).length = 1 := by subst hT; exact fun e => hk8 ((mid_at cs HGW.out.sc c hl8).2 e)
    omega
  have HTT : Hid (T = (lo cs c).length) := hT
  clear hky heb
  clear hBh hT
  gi_wp2
  refine wpIn_region_cut (R := Ext) [⟨33, fun v _ => v = .int .i64 T, fun _ _ _ _ h => h⟩, ⟨34, fun v _ => v = .slice ac nc pc, fun _ _ _ _ h => h⟩, ⟨35, fun v _ => v = .int .i64 nc, fun _ _ _ _ h => h⟩, ⟨36, fun v _ => v = .bool true, fun _ _ _ _ h => h⟩, ⟨37, fun v _ => v = .bool true, fun _ _ _ _ h => h⟩, ⟨38, fun v _ => v = .slice ac nc pc, fun _ _ _ _ h => h⟩, ⟨39, fun v _ => v = .int .i64 T, fun _ _ _ _ h => h⟩, ⟨40, fun v _ => v = .pointer (some ⟨cb, co + T * 2, none⟩), fun _ _ _ _ h => h⟩, ⟨41, fun v _ => v = .pointer (some ⟨cb, co + T * 2, none⟩), fun _ _ _ _ h => h⟩, ⟨42, fun v _ => v = .int .u64 ky, fun _ _ _ _ h => h⟩, ⟨43, fun v _ => v = .pointer (some ⟨B, 1, none⟩), fun _ _ _ _ h => h⟩, ⟨44, fun v _ => v = .int .u64 x.2.1, fun _ _ _ _ h => h⟩, ⟨45, fun v _ => v = .int .u64 c, fun _ _ _ _ h => h⟩, ⟨46, fun v _ => v = .bool eb, fun _ _ _ _ h => h⟩, ⟨47, fun v _ => v = .bool eb, fun _ _ _ _ h => h⟩] _ 15 (by kernel_rfl) rfl (by kernel_rfl) (by decide) (by kernel_rfl) (Below.drew (Below.refl _ _)) (fun _ _ _ h1 h2 => below_tr h1 h2) (fun QQ => ⟨?_, ?_, ?_, ?_, ?_, ?_, ?_, ?_, ?_, ?_, ?_, ?_, ?_, ?_, ?_, trivial⟩) (fun f8 wy8 hR8 hf8 A hA => ?_)
  ·intro A wx hR hout hdep K hK
   have h9 : A.tmps[9]?.getD undef = .pointer (some ⟨wy.heap.size, 0, none⟩) := hout 9 (by kernel_rfl)
   refine yes ?_
   have o7 := keep_cell hR o7
   have o9 := keep_cell hR o9
   have z1 := keep_cell hR z1
   have q0 := keep_cell hR q0
   simp [go_sem, h9, o7, o9, z1, q0, hlt8, add_pl, hkc, hkn, hkb, hkd]
   exact hK.out _ _ (Below.refl _ _) rfl
  ·intro A wx hR hout hdep K hK
   have h7 : A.tmps[7]?.getD undef = .pointer (some ⟨w.heap.size + 2, 0, none⟩) := hout 7 (by kernel_rfl)
   refine yes ?_
   have o7 := keep_cell hR o7
   have o9 := keep_cell hR o9
   have z1 := keep_cell hR z1
   have q0 := keep_cell hR q0
   simp [go_sem, h7, o7, o9, z1, q0, hlt8, add_pl, hkc, hkn, hkb, hkd]
   exact hK.out _ _ (Below.refl _ _) rfl
  ·intro A wx hR hout hdep K hK
   have h34 : A.tmps[34]?.getD undef = .slice ac nc pc := hdep 34 (by kernel_rfl)
   refine yes ?_
   simp [go_sem, h34, hlt8, add_pl, hkc, hkn, hkb, hkd]
   exact hK.out _ _ (Below.refl _ _) rfl
  ·intro A wx hR hout hdep K hK
   have h33 : A.tmps[33]?.getD undef = .int .i64 T := hdep 33 (by kernel_rfl)
   have h35 : A.tmps[35]?.getD undef = .int .i64 nc := hdep 35 (by kernel_rfl)
   refine yes ?_
   simp [go_sem, h33, h35, hlt8, add_pl, hkc, hkn, hkb, hkd]
   exact hK.out _ _ (Below.refl _ _) rfl
  ·intro A wx hR hout hdep K hK
   have h36 : A.tmps[36]?.getD undef = .bool true := hdep 36 (by kernel_rfl)
   refine yes ?_
   simp [go_sem, h36, hlt8, add_pl, hkc, hkn, hkb, hkd]
   exact hK.out _ _ (Below.refl _ _) rfl
  ·intro A wx hR hout hdep K hK
   have h7 : A.tmps[7]?.getD undef = .pointer (some ⟨w.heap.size + 2, 0, none⟩) := hout 7 (by kernel_rfl)
   have h37 : A.tmps[37]?.getD undef = .bool true := hdep 37 (by kernel_rfl)
   refine if_yes ((wanted_is (j := 4) (b := true) (by kernel_rfl) (by kernel_rfl) h37).trans rfl) ?_
   have o7 := keep_cell hR o7
   have o9 := keep_cell hR o9
   have z1 := keep_cell hR z1
   have q0 := keep_cell hR q0
   simp [go_sem, h7, o7, o9, z1, q0, hlt8, add_pl, hkc, hkn, hkb, hkd]
   exact hK.out _ _ (Below.refl _ _) rfl
  ·intro A wx hR hout hdep K hK
   have h9 : A.tmps[9]?.getD undef = .pointer (some ⟨wy.heap.size, 0, none⟩) := hout 9 (by kernel_rfl)
   have h37 : A.tmps[37]?.getD undef = .bool true := hdep 37 (by kernel_rfl)
   refine if_yes ((wanted_is (j := 4) (b := true) (by kernel_rfl) (by kernel_rfl) h37).trans rfl) ?_
   have o7 := keep_cell hR o7
   have o9 := keep_cell hR o9
   have z1 := keep_cell hR z1
   have q0 := keep_cell hR q0
   simp [go_sem, h9, o7, o9, z1, q0, hlt8, add_pl, hkc, hkn, hkb, hkd]
   exact hK.out _ _ (Below.refl _ _) rfl
  ·intro A wx hR hout hdep K hK
   have h38 : A.tmps[38]?.getD undef = .slice ac nc pc := hdep 38 (by kernel_rfl)
   have h39 : A.tmps[39]?.getD undef = .int .i64 T := hdep 39 (by kernel_rfl)
   have h37 : A.tmps[37]?.getD undef = .bool true := hdep 37 (by kernel_rfl)
   refine if_yes ((wanted_is (j := 4) (b := true) (by kernel_rfl) (by kernel_rfl) h37).trans rfl) ?_
   simp [go_sem, h38, h39, hac, hlt8, add_pl, hkc, hkn, hkb, hkd]
   exact hK.out _ _ (Below.refl _ _) rfl
  ·intro A wx hR hout hdep K hK
   have h40 : A.tmps[40]?.getD undef = .pointer (some ⟨cb, co + T * 2, none⟩) := hdep 40 (by kernel_rfl)
   have h37 : A.tmps[37]?.getD undef = .bool true := hdep 37 (by kernel_rfl)
   refine if_yes ((wanted_is (j := 4) (b := true) (by kernel_rfl) (by kernel_rfl) h37).trans rfl) ?_
   simp [go_sem, h40, hlt8, add_pl, hkc, hkn, hkb, hkd]
   exact hK.out _ _ (Below.refl _ _) rfl
  ·intro A wx hR hout hdep K hK
   have h41 : A.tmps[41]?.getD undef = .pointer (some ⟨cb, co + T * 2, none⟩) := hdep 41 (by kernel_rfl)
   have h37 : A.tmps[37]?.getD undef = .bool true := hdep 37 (by kernel_rfl)
   refine if_yes ((wanted_is (j := 4) (b := true) (by kernel_rfl) (by kernel_rfl) h37).trans rfl) ?_
   have o7 := keep_cell hR o7
   have o9 := keep_cell hR o9
   have z1 := keep_cell hR z1
   have q0 := keep_cell hR q0
   simp [go_sem, h41, o7, o9, z1, q0, hlt8, add_pl, hkc, hkn, hkb, hkd]
   exact hK.out _ _ (Below.refl _ _) rfl
  ·intro A wx hR hout hdep K hK
   have h11 : A.tmps[11]?.getD undef = .pointer (some ⟨B, 0, none⟩) := hout 11 (by kernel_rfl)
   have h37 : A.tmps[37]?.getD undef = .bool true := hdep 37 (by kernel_rfl)
   refine if_yes ((wanted_is (j := 4) (b := true) (by kernel_rfl) (by kernel_rfl) h37).trans rfl) ?_
   simp [go_sem, h11, hlt8, add_pl, hkc, hkn, hkb, hkd]
   exact hK.out _ _ (Below.refl _ _) rfl
  ·intro A wx hR hout hdep K hK
   have h43 : A.tmps[43]?.getD undef = .pointer (some ⟨B, 1, none⟩) := hdep 43 (by kernel_rfl)
   have h37 : A.tmps[37]?.getD undef = .bool true := hdep 37 (by kernel_rfl)
   refine if_yes ((wanted_is (j := 4) (b := true) (by kernel_rfl) (by kernel_rfl) h37).trans rfl) ?_
   have o7 := keep_cell hR o7
   have o9 := keep_cell hR o9
   have z1 := keep_cell hR z1
   have q0 := keep_cell hR q0
   simp [go_sem, h43, o7, o9, z1, q0, hlt8, add_pl, hkc, hkn, hkb, hkd]
   exact hK.out _ _ (Below.refl _ _) rfl
  ·intro A wx hR hout hdep K hK
   have h44 : A.tmps[44]?.getD undef = .int .u64 x.2.1 := hdep 44 (by kernel_rfl)
   have h37 : A.tmps[37]?.getD undef = .bool true := hdep 37 (by kernel_rfl)
   refine if_yes ((wanted_is (j := 4) (b := true) (by kernel_rfl) (by kernel_rfl) h37).trans rfl) ?_
   simp [go_sem, h44, hlt8, add_pl, hkc, hkn, hkb, hkd]
   refine ⟨trivial, (CallsIn.inRound l (callsIn_wide.2 (K87.out wx))).mono ?_⟩
   rintro e wG ⟨rfl, rfl⟩
   exact hK.out _ _ (Below.refl _ _) rfl
  ·intro A wx hR hout hdep K hK
   have h42 : A.tmps[42]?.getD undef = .int .u64 ky := hdep 42 (by kernel_rfl)
   have h45 : A.tmps[45]?.getD undef = .int .u64 c := hdep 45 (by kernel_rfl)
   have h37 : A.tmps[37]?.getD undef = .bool true := hdep 37 (by kernel_rfl)
   refine if_yes ((wanted_is (j := 4) (b := true) (by kernel_rfl) (by kernel_rfl) h37).trans rfl) ?_
   simp [go_sem, h42, h45, hlt8, add_pl, hkc, hkn, hkb, hkd]
   exact hK.out _ _ (Below.refl _ _) rfl
  ·intro A wx hR hout hdep K hK
   have h37 : A.tmps[37]?.getD undef = .bool true := hdep 37 (by kernel_rfl)
   have h46 : A.tmps[46]?.getD undef = .bool eb := hdep 46 (by kernel_rfl)
   refine yes ?_
   simp [go_sem, h37, h46, hlt8, add_pl, hkc, hkn, hkb, hkd]
   exact hK.out _ _ (Below.refl _ _) rfl
  have hv47 : f8 47 = .bool eb := hf8 47 (by kernel_rfl)
  simp only [putSl, List.take_succ_cons, List.take_zero, Act.put, List.setIfInBounds_toArray, List.set_cons_zero, List.set_cons_succ, hv47] at hA
  subst hA
  refine wpAnyIn_done (by kernel_rfl) ?_ _
  have HR8 : Hid (Below Wx.heap.size Wx wy8) := hR8
  clear hf8
  have g0 := keep_cell hR8 g0
  have o7 := keep_cell hR8 o7
  have o9 := keep_cell hR8 o9
  have o5 := keep_cell hR8 o5
  have z1 := keep_cell hR8 z1
  have z2 := keep_cell hR8 z2
  clear hR8
  rcases Bool.eq_false_or_eq_true eb with he | he
  rotate_left
  have hTB := HEB.out.2 he
  subst he
  clear HEB
  first | rw [show (((lo cs c).length : Nat) : Int) = (Bh : Int) by rw [<- HTT.out, hTB]] | rw [show ((T : Nat) : Int) = (Bh : Int) by rw [hTB]]
  rotate_left
  rotate_left
  have hw1 := HEB.out.1 he
  have hw2 : IntKind.i64.wrap ((((lo cs c).length : Nat) : Int) + 1) = (Bh : Int) := by rw [<- HTT.out]; exact hw1
  subst he
  clear HEB
  rotate_left
  all_goals
   gi_wp2
   refine wpIn_region_late (R := Ext) [⟨51, fun v _ => v = .pointer (some ⟨w.heap.size, 0, none⟩), fun _ _ _ _ h => h⟩, ⟨52, fun v _ => v = .pointer (some ⟨w.heap.size, 0, none⟩), fun _ _ _ _ h => h⟩, ⟨53, fun v _ => v = .slice am nm pm, fun _ _ _ _ h => h⟩, ⟨54, fun v _ => v = .slice ac nc pc, fun _ _ _ _ h => h⟩, ⟨55, fun v _ => v = .int .i64 T, fun _ _ _ _ h => h⟩, ⟨56, fun v _ => v = .int .i64 Bh, fun _ _ _ _ h => h⟩, ⟨57, fun v _ => v = .slice sa mn qs, fun _ _ _ _ h => h⟩, ⟨58, fun v _ => v = .agg #[.slice am nm pm, .slice sa mn qs], fun _ _ _ _ h => h⟩, ⟨59, fun v _ => v = .pointer (some ⟨B, 1, none⟩), fun _ _ _ _ h => h⟩, ⟨60, fun v _ => v = .int .u64 x.2.1, fun _ _ _ _ h => h⟩, ⟨61, fun v _ => v = .pointer (some ⟨B, 2, none⟩), fun _ _ _ _ h => h⟩, ⟨62, fun v _ => v = .int .i64 x.2.2, fun _ _ _ _ h => h⟩, ⟨63, fun v _ => v = .string t, fun _ _ _ _ h => h⟩, ⟨64, fun v _ => v = .pointer (some ⟨B, 2, none⟩), fun _ _ _ _ h => h⟩, ⟨65, fun v _ => v = .int .i64 x.2.2, fun _ _ _ _ h => h⟩, ⟨66, fun v _ => v = .string tp, fun _ _ _ _ h => h⟩, ⟨67, fun v _ => v = .int .u64 num, fun _ _ _ _ h => h⟩, ⟨68, OneT Wx.heap.size ms one, fun _ _ _ hb h => h.keep hb⟩, ⟨50, OneT Wx.heap.size ms one, fun _ _ _ hb h => h.keep hb⟩, ⟨69, OneA Wx.heap.size ms one, fun _ _ _ hb h => h.keep hb⟩, ⟨70, fun v _ => v = .agg #[.int .i64 0, .int .u64 0], fun _ _ _ _ h => h⟩, ⟨13, NewB Wx.heap.size 29 (.slice none 0 0) (.slice none 0 0), fun _ _ _ hb h => h.keep hb⟩, ⟨14, NewB Wx.heap.size 38 (.int .i64 0) (.int .u64 0), fun _ _ _ hb h => h.keep hb⟩] _ 23 20 (by kernel_rfl) rfl (by kernel_rfl) (by decide) (by decide) (by kernel_rfl) (Below.drew (Below.refl _ _)) (fun _ _ _ h1 h2 => below_tr h1 h2) (fun QQ => ⟨?_, ?_, ?_, ?_, ?_, ?_, ?_, ?_, ?_, ?_, ?_, ?_, ?_, ?_, ?_, ?_, ?_, ?_, ?_, ?_, ?_, ?_, ?_, trivial⟩) (fun f10 wy10 hR10 hf10 A hA => ?_) (fun f10 wy10 hR10 hf10 A hA i hi hmi => ?_)
   ·intro A wx hR hout hdep K hK
    have h3 : A.tmps[3]?.getD undef = .pointer (some ⟨w.heap.size, 0, none⟩) := hout 3 (by kernel_rfl)
    refine yes ?_
    simp [go_sem, h3, hvs, hext, htp0, hq, hqn]
    exact hK.out _ _ (Below.refl _ _) rfl
   ·intro A wx hR hout hdep K hK
    have h51 : A.tmps[51]?.getD undef = .pointer (some ⟨w.heap.size, 0, none⟩) := hdep 51 (by kernel_rfl)
    refine yes ?_
    simp [go_sem, h51, hvs, hext, htp0, hq, hqn]
    exact hK.out _ _ (Below.refl _ _) rfl
   ·intro A wx hR hout hdep K hK
    have h52 : A.tmps[52]?.getD undef = .pointer (some ⟨w.heap.size, 0, none⟩) := hdep 52 (by kernel_rfl)
    refine yes ?_
    have g0 := keep_cell hR g0
    have o7 := keep_cell hR o7
    have o9 := keep_cell hR o9
    have o5 := keep_cell hR o5
    have z1 := keep_cell hR z1
    have z2 := keep_cell hR z2
    simp [go_sem, h52, g0, o7, o9, o5, z1, z2, hvs, hext, htp0, hq, hqn]
    exact hK.out _ _ (Below.refl _ _) rfl
   ·intro A wx hR hout hdep K hK
    have h7 : A.tmps[7]?.getD undef = .pointer (some ⟨w.heap.size + 2, 0, none⟩) := hout 7 (by kernel_rfl)
    refine yes ?_
    have g0 := keep_cell hR g0
    have o7 := keep_cell hR o7
    have o9 := keep_cell hR o9
    have o5 := keep_cell hR o5
    have z1 := keep_cell hR z1
    have z2 := keep_cell hR z2
    simp [go_sem, h7, g0, o7, o9, o5, z1, z2, hvs, hext, htp0, hq, hqn]
    exact hK.out _ _ (Below.refl _ _) rfl
   ·intro A wx hR hout hdep K hK
    have h9 : A.tmps[9]?.getD undef = .pointer (some ⟨wy.heap.size, 0, none⟩) := hout 9 (by kernel_rfl)
    refine yes ?_
    have g0 := keep_cell hR g0
    have o7 := keep_cell hR o7
    have o9 := keep_cell hR o9
    have o5 := keep_cell hR o5
    have z1 := keep_cell hR z1
    have z2 := keep_cell hR z2
    simp [go_sem, h9, g0, o7, o9, o5, z1, z2, hvs, hext, htp0, hq, hqn]
    exact hK.out _ _ (Below.refl _ _) rfl
   ·intro A wx hR hout hdep K hK
    have h12 : A.tmps[12]?.getD undef = .int .i64 Bh := hout 12 (by kernel_rfl)
    refine yes ?_
    simp [go_sem, h12, hvs, hext, htp0, hq, hqn]
    exact hK.out _ _ (Below.refl _ _) rfl
   ·intro A wx hR hout hdep K hK
    have h54 : A.tmps[54]?.getD undef = .slice ac nc pc := hdep 54 (by kernel_rfl)
    have h55 : A.tmps[55]?.getD undef = .int .i64 T := hdep 55 (by kernel_rfl)
    have h56 : A.tmps[56]?.getD undef = .int .i64 Bh := hdep 56 (by kernel_rfl)
    refine yes ?_
    simp [go_sem, h54, h55, h56, hvs, hext, htp0, hq, hqn]
    exact hK.out _ _ (Below.refl _ _) rfl
   ·intro A wx hR hout hdep K hK
    have h53 : A.tmps[53]?.getD undef = .slice am nm pm := hdep 53 (by kernel_rfl)
    have h57 : A.tmps[57]?.getD undef = .slice sa mn qs := hdep 57 (by kernel_rfl)
    refine yes ?_
    simp [go_sem, h53, h57, hvs, hext, htp0, hq, hqn]
    exact hK.out _ _ (Below.refl _ _) rfl
   ·intro A wx hR hout hdep K hK
    have h11 : A.tmps[11]?.getD undef = .pointer (some ⟨B, 0, none⟩) := hout 11 (by kernel_rfl)
    refine yes ?_
    simp [go_sem, h11, hvs, hext, htp0, hq, hqn]
    exact hK.out _ _ (Below.refl _ _) rfl
   ·intro A wx hR hout hdep K hK
    have h59 : A.tmps[59]?.getD undef = .pointer (some ⟨B, 1, none⟩) := hdep 59 (by kernel_rfl)
    refine yes ?_
    have g0 := keep_cell hR g0
    have o7 := keep_cell hR o7
    have o9 := keep_cell hR o9
    have o5 := keep_cell hR o5
    have z1 := keep_cell hR z1
    have z2 := keep_cell hR z2
    simp [go_sem, h59, g0, o7, o9, o5, z1, z2, hvs, hext, htp0, hq, hqn]
    exact hK.out _ _ (Below.refl _ _) rfl
   ·intro A wx hR hout hdep K hK
    have h11 : A.tmps[11]?.getD undef = .pointer (some ⟨B, 0, none⟩) := hout 11 (by kernel_rfl)
    refine yes ?_
    simp [go_sem, h11, hvs, hext, htp0, hq, hqn]
    exact hK.out _ _ (Below.refl _ _) rfl
   ·intro A wx hR hout hdep K hK
    have h61 : A.tmps[61]?.getD undef = .pointer (some ⟨B, 2, none⟩) := hdep 61 (by kernel_rfl)
    refine yes ?_
    have g0 := keep_cell hR g0
    have o7 := keep_cell hR o7
    have o9 := keep_cell hR o9
    have o5 := keep_cell hR o5
    have z1 := keep_cell hR z1
    have z2 := keep_cell hR z2
    simp [go_sem, h61, g0, o7, o9, o5, z1, z2, hvs, hext, htp0, hq, hqn]
    exact hK.out _ _ (Below.refl _ _) rfl
   ·intro A wx hR hout hdep K hK
    have h5 : A.tmps[5]?.getD undef = .pointer (some ⟨w.heap.size + 1, 0, none⟩) := hout 5 (by kernel_rfl)
    refine yes ?_
    have g0 := keep_cell hR g0
    have o7 := keep_cell hR o7
    have o9 := keep_cell hR o9
    have o5 := keep_cell hR o5
    have z1 := keep_cell hR z1
    have z2 := keep_cell hR z2
    simp [go_sem, h5, g0, o7, o9, o5, z1, z2, hvs, hext, htp0, hq, hqn]
    exact hK.out _ _ (Below.refl _ _) rfl
   ·intro A wx hR hout hdep K hK
    have h11 : A.tmps[11]?.getD undef = .pointer (some ⟨B, 0, none⟩) := hout 11 (by kernel_rfl)
    refine yes ?_
    simp [go_sem, h11, hvs, hext, htp0, hq, hqn]
    exact hK.out _ _ (Below.refl _ _) rfl
   ·intro A wx hR hout hdep K hK
    have h64 : A.tmps[64]?.getD undef = .pointer (some ⟨B, 2, none⟩) := hdep 64 (by kernel_rfl)
    refine yes ?_
    have g0 := keep_cell hR g0
    have o7 := keep_cell hR o7
    have o9 := keep_cell hR o9
    have o5 := keep_cell hR o5
    have z1 := keep_cell hR z1
    have z2 := keep_cell hR z2
    simp [go_sem, h64, g0, o7, o9, o5, z1, z2, hvs, hext, htp0, hq, hqn]
    exact hK.out _ _ (Below.refl _ _) rfl
   ·intro A wx hR hout hdep K hK
    have h63 : A.tmps[63]?.getD undef = .string t := hdep 63 (by kernel_rfl)
    have h65 : A.tmps[65]?.getD undef = .int .i64 x.2.2 := hdep 65 (by kernel_rfl)
    refine yes ?_
    simp [go_sem, h63, h65, hvs, hext, htp0, hq, hqn]
    exact hK.out _ _ (Below.refl _ _) rfl
   ·intro A wx hR hout hdep K hK
    have h66 : A.tmps[66]?.getD undef = .string tp := hdep 66 (by kernel_rfl)
    refine yes ?_
    simp [go_sem, h66, hvs, hext, htp0, hq, hqn]
    refine ⟨trivial, (CallsIn.inRound l (callsIn_wide.2 (K89.out wx))).mono ?_⟩
    rintro e wG ⟨rfl, hbG⟩
    exact hK.out _ _ hbG rfl
   ·intro A wx hR hout hdep K hK
    have h58 : A.tmps[58]?.getD undef = .agg #[.slice am nm pm, .slice sa mn qs] := hdep 58 (by kernel_rfl)
    have h60 : A.tmps[60]?.getD undef = .int .u64 x.2.1 := hdep 60 (by kernel_rfl)
    have h62 : A.tmps[62]?.getD undef = .int .i64 x.2.2 := hdep 62 (by kernel_rfl)
    have h67 : A.tmps[67]?.getD undef = .int .u64 num := hdep 67 (by kernel_rfl)
    refine yes ?_
    simp [go_sem, h58, h60, h62, h67, hvs, hext, htp0, hq, hqn]
    refine ⟨trivial, (CallsIn.inRound l (callsIn_wide.2 (K88.out wx (below_tr HR8.out hR)))).mono ?_⟩
    rintro e wG ⟨u, u', rfl, ho, hbG⟩
    exact hK.out _ _ hbG ⟨u, u', rfl, ho⟩
   ·intro A wx hR hout hdep K hK
    have h68 := hdep 68 (by kernel_rfl)
    refine yes ?_
    obtain ⟨u, u', e, o⟩ : OneT Wx.heap.size ms one _ wx := h68
    simp [go_sem, e]
    exact hK.out _ _ (Below.refl _ _) ⟨u, u', rfl, o⟩
   ·intro A wx hR hout hdep K hK
    have h50 := hdep 50 (by kernel_rfl)
    refine yes ?_
    obtain ⟨u, u', e, o⟩ : OneT Wx.heap.size ms one _ wx := h50
    simp [go_sem, e]
    exact hK.out _ _ (Below.refl _ _) ⟨u, u', rfl, o⟩
   ·intro A wx hR hout hdep K hK
    have h50 := hdep 50 (by kernel_rfl)
    refine yes ?_
    obtain ⟨u, u', e, o⟩ : OneT Wx.heap.size ms one _ wx := h50
    simp [go_sem, e]
    exact hK.out _ _ (Below.refl _ _) rfl
   ·intro A wx hR hout hdep K hK
    refine yes ?_
    simp [go_sem]
    exact hK.out _ _ ((Below.refl _ _).alloc (Nat.le_refl _) _) ⟨_, rfl, (below_tr HR8.out hR).size, B2.new wx 29 _ _⟩
   ·intro A wx hR hout hdep K hK
    refine yes ?_
    simp [go_sem]
    exact hK.out _ _ ((Below.refl _ _).alloc (Nat.le_refl _) _) ⟨_, rfl, (below_tr HR8.out hR).size, B2.new wx 38 _ _⟩
   obtain ⟨b13, e13, l13, B13⟩ : NewB Wx.heap.size 29 (.slice none 0 0) (.slice none 0 0) (f10 13) wy10 := hf10 13 (by kernel_rfl)
   obtain ⟨b14, e14, l14, B14⟩ : NewB Wx.heap.size 38 (.int .i64 0) (.int .u64 0) (f10 14) wy10 := hf10 14 (by kernel_rfl)
   obtain ⟨u, u', e69, o69⟩ : OneA Wx.heap.size ms one (f10 69) wy10 := hf10 69 (by kernel_rfl)
   have e70 : f10 70 = .agg #[.int .i64 0, .int .u64 0] := hf10 70 (by kernel_rfl)
   simp only [putSl, List.take_succ_cons, List.take_zero, Act.put, List.setIfInBounds_toArray, List.set_cons_zero, List.set_cons_succ, e13, e14, e69, e70] at hA
   subst hA
   obtain ⟨ux, un, uc, ux', un', uc', rfl, rfl⟩ := o69.shape
   refine wpAnyIn_ready (rs := [23]) (by kernel_rfl) (by simp) ?_
   refine AllReadyIn.cons rfl (fun K hK => ?_) AllReadyIn.nil
   refine yes ?_
   have q0 := B13.c0
   have q1 := B13.c1
   have q2 := B13.f0
   have q3 := B13.f1
   simp [go_sem, q0, q1, q2, q3]
   refine hK _ _ ?_
   clear hK K q0 q1 q2 q3
   have hne := B13.ne B14 (by decide)
   have B14 := B14.setO (Ne.symm hne) (.slice ux un uc) (.slice ux' un' uc')
   have o69 : OwnH Wx.heap.size ((wy10.setCell ⟨b13, 0, none⟩ (.slice ux un uc)).setCell ⟨b13, 1, none⟩ (.slice ux' un' uc')) (.slice ux un uc) (.slice ux' un' uc') ms one := ⟨B13.own (by decide) o69.1 _ _, B13.own (by decide) o69.2 _ _⟩
   have B13 := B13.set (.slice ux un uc) (.slice ux' un' uc')
   have n1 : Below Wx.heap.size Wx ((wy10.setCell ⟨b13, 0, none⟩ (.slice ux un uc)).setCell ⟨b13, 1, none⟩ (.slice ux' un' uc')) := ((below_tr HR8.out hR10).setCell l13 _).setCell l13 _
   obtain ⟨W8, hW8⟩ : ∃ z, z = (wy10.setCell ⟨b13, 0, none⟩ (.slice ux un uc)).setCell ⟨b13, 1, none⟩ (.slice ux' un' uc') := ⟨_, rfl⟩
   rw [<- hW8] at B14 o69 B13 n1 |-
   clear hW8
   rotate_left
   have hi' : i = 20 \/ i = 23 := by
    rw [show Region.ready .any _ _ = [20, 23] by kernel_rfl] at hi
    simpa using hi
   obtain rfl : i = 23 := by omega
   clear hi hi' hmi
   obtain ⟨b13, e13, l13, B13⟩ : NewB Wx.heap.size 29 (.slice none 0 0) (.slice none 0 0) (f10 13) wy10 := hf10 13 (by kernel_rfl) (by simp)
   obtain ⟨b14, e14, l14, B14⟩ : NewB Wx.heap.size 38 (.int .i64 0) (.int .u64 0) (f10 14) wy10 := hf10 14 (by kernel_rfl) (by simp)
   obtain ⟨u, u', e69, o69⟩ : OneA Wx.heap.size ms one (f10 69) wy10 := hf10 69 (by kernel_rfl) (by simp)
   obtain ⟨uu, uu', e50, _⟩ : OneT Wx.heap.size ms one (f10 50) wy10 := hf10 50 (by kernel_rfl) (by simp)
   simp only [putSl, List.take_succ_cons, List.take_zero, Act.put, List.setIfInBounds_toArray, List.set_cons_zero, List.set_cons_succ, e13, e14, e69, e50] at hA
   subst hA
   obtain ⟨ux, un, uc, ux', un', uc', rfl, rfl⟩ := o69.shape
   refine (show AllReadyIn _ _ _ _ _ _ 2 _ _ _ [23] from AllReadyIn.cons rfl (fun K hK => ?_) AllReadyIn.nil) 23 (by simp)
   refine yes ?_
   have q0 := B13.c0
   have q1 := B13.c1
   have q2 := B13.f0
   have q3 := B13.f1
   simp [go_sem, q0, q1, q2, q3]
   refine hK _ _ ?_
   clear hK K q0 q1 q2 q3
   have hne := B13.ne B14 (by decide)
   have B14 := B14.setO (Ne.symm hne) (.slice ux un uc) (.slice ux' un' uc')
   have o69 : OwnH Wx.heap.size ((wy10.setCell ⟨b13, 0, none⟩ (.slice ux un uc)).setCell ⟨b13, 1, none⟩ (.slice ux' un' uc')) (.slice ux un uc) (.slice ux' un' uc') ms one := ⟨B13.own (by decide) o69.1 _ _, B13.own (by decide) o69.2 _ _⟩
   have B13 := B13.set (.slice ux un uc) (.slice ux' un' uc')
   have n1 : Below Wx.heap.size Wx ((wy10.setCell ⟨b13, 0, none⟩ (.slice ux un uc)).setCell ⟨b13, 1, none⟩ (.slice ux' un' uc')) := ((below_tr HR8.out hR10).setCell l13 _).setCell l13 _
   obtain ⟨W8, hW8⟩ : ∃ z, z = (wy10.setCell ⟨b13, 0, none⟩ (.slice ux un uc)).setCell ⟨b13, 1, none⟩ (.slice ux' un' uc') := ⟨_, rfl⟩
   rw [<- hW8] at B14 o69 B13 n1 |-
   clear hW8
   refine wpAnyIn_ready (rs := [20]) (by kernel_rfl) (by simp) ?_
   refine AllReadyIn.cons rfl (fun K hK => ?_) AllReadyIn.nil
   refine yes ?_
   simp [go_sem]
   refine hK _ _ ?_
   clear hK K
   rotate_left
   all_goals
    refine wpAnyIn_ready (rs := [24]) (by kernel_rfl) (by simp) ?_
    refine AllReadyIn.cons rfl (fun K hK => ?_) AllReadyIn.nil
    refine yes ?_
    have q0 := B14.c0
    have q1 := B14.c1
    have q2 := B14.f0
    have q3 := B14.f1
    simp [go_sem, q0, q1, q2, q3]
    refine hK _ _ ?_
    clear hK K q0 q1 q2 q3
    refine wpAnyIn_done (by kernel_rfl) ?_ _
    have B13 := B13.setO hne (.int .i64 0) (.int .u64 0)
    have o69 : OwnH Wx.heap.size ((W8.setCell ⟨b14, 0, none⟩ (.int .i64 0)).setCell ⟨b14, 1, none⟩ (.int .u64 0)) (.slice ux un uc) (.slice ux' un' uc') ms one := ⟨B14.own (by decide) o69.1 _ _, B14.own (by decide) o69.2 _ _⟩
    have n1 : Below Wx.heap.size Wx ((W8.setCell ⟨b14, 0, none⟩ (.int .i64 0)).setCell ⟨b14, 1, none⟩ (.int .u64 0)) := (n1.setCell l14 _).setCell l14 _
    obtain ⟨W9, hW9⟩ : ∃ z, z = (W8.setCell ⟨b14, 0, none⟩ (.int .i64 0)).setCell ⟨b14, 1, none⟩ (.int .u64 0) := ⟨_, rfl⟩
    rw [<- hW9] at o69 B13 n1 |-
    clear hW9 B14 hne
    obtain ⟨j0, j1, j2, j3, j4, j5, j6, j7, j8, j9, j10⟩ := HBX.out
    have own9 := own_keep j9 n1
    have x10 : Boxed W9 (wy.heap.size + 1) 27 v := (n1.block _ j8.lt).trans j8
    obtain ⟨va, vn, vcap, rfl⟩ := own_shape own9
    have c10 := x10.cell
    have f10' := x10.frozen
    have c13 := B13.c1
    have hz9 : W3.heap.size <= W9.heap.size := Nat.le_trans j2 n1.size
    have hl9 : X.length + one.length <= 1073741824 := by have := HON.out.2.1; omega
    have sl9 := o69.c
    have HJ : Hid (Below w.heap.size w Wx /\ W3.heap.size <= Wx.heap.size /\ Wx.cell? ⟨w.heap.size, 0, none⟩ = some (.slice am nm pm) /\ Wx.cell? ⟨w.heap.size, 1, none⟩ = some (.slice ac nc pc) /\ Wx.cell? ⟨w.heap.size + 2, 0, none⟩ = some (.slice ac nc pc) /\ Below Wx.heap.size Wx W9 /\ Boxed W9 (w.heap.size + 1) 9 (.string t) /\ Boxed W9 wy.heap.size 3 (.int .i64 T) /\ Boxed W9 (wy.heap.size + 1) 27 (.slice va vn vcap) /\ W9.ownsRow W3.heap.size 48 2 (.slice va vn vcap) X.length (rowOf .u64 X) /\ Pb W9 B x) := ⟨j1, j2, j3, j4, j5, n1, (n1.block _ j6.lt).trans j6, (n1.block _ j7.lt).trans j7, x10, own9, j10.keep n1⟩
    clear j0 j1 j2 j3 j4 j5 j6 j7 j8 j9 j10 n1 x10 o69 B13 g0 o7 o9 o5 z1 z2 hR10 hf10
    gi_wp2_with (refine wpListIn_append_sl _ rfl (.tmp 71) (.tmp 73) rfl W3.heap.size _ _ X one rfl own9 rfl sl9 hl9 hz9 ?_)
    intro v' w2 how hgr
    obtain ⟨va', vn', vcap', rfl⟩ := own_shape how
    obtain ⟨k1, k2, k3, k4, k5, k6, k7, k8, k9, k10, k11⟩ := HJ.out
    have s3 := HW3.out.2
    have nb : ∀ b, b < W3.heap.size -> some b ≠ Value.ownBlock (.slice va vn vcap) := fun b hb e => by
     have := own_ge own9 b e.symm
     omega
    have nb' : ∀ b, b < W3.heap.size -> Value.ownBlock (.slice va' vn' vcap') ≠ some b := fun b hb e => by
     have := own_ge how b e
     omega
    have y10 := k9.kept hgr (nb _ (by omega))
    have y9 := k8.kept hgr (nb _ (by omega))
    have y5 := k7.kept hgr (nb _ (by omega))
    have yp := k11.own own9 hgr
    have c10 := y10.cell
    have f10' := y10.frozen
    obtain ⟨W10, hW10⟩ : ∃ z, z = w2.setCell ⟨wy.heap.size + 1, 0, none⟩ (.slice va' vn' vcap') := ⟨_, rfl⟩
    have gs := grownBy_setCell' w2 (wy.heap.size + 1) (.slice va' vn' vcap')
    rw [<- hW10] at gs
    have u10 : Boxed W10 (wy.heap.size + 1) 27 (.slice va' vn' vcap') := by rw [hW10]; exact y10.set _
    have u9 := y9.kept gs (by simp)
    have u5 := y5.kept gs (by simp; omega)
    have up : Pb W10 B x := (gs.block B yp.lt (fun e => by
     have e' : B = wy.heap.size + 1 := by simpa using e
     have h1 : w2.heap[B]? = _ := yp
     rw [e', show w2.heap[wy.heap.size + 1]? = _ from y10] at h1
     simp at h1)).trans yp
    have uo : W10.ownsRow W3.heap.size 48 2 (.slice va' vn' vcap') (X ++ one).length (rowOf .u64 (X ++ one)) := by rw [List.length_append]; exact how.kept gs (Or.inr (nb' _ (by omega)))
    have n10 : KeepsOthers Wx W10 := ((KeepsOthers.of_below k6).trans (KeepsOthers.of_grownBy hgr (fun j o e ho => by
     obtain ⟨c', fz, q⟩ := Go.Lib.ownsRow_kind own9 j e
     rw [q] at ho; cases ho; rfl))).trans (by rw [hW10]; exact KeepsOthers.setCell _ _ _)
    have b10 : Below w.heap.size w W10 := by
     rw [hW10]
     refine Below.setCell ((below_tr k1 k6).grown hgr (below_tr k1 k6).size (fun r e => ?_)) (by simp; omega) _
     have := own_ge own9 r e
     omega
    have hz10 : W3.heap.size <= W10.heap.size := Nat.le_trans hz9 (Nat.le_trans hgr.size gs.size)
    have m0 : W10.cell? ⟨w.heap.size, 0, none⟩ = some (.slice am nm pm) := gs.cell (hgr.cell (keep_cell k6 k3) (nb _ (by simp; omega))) (by simp; omega)
    have m1 : W10.cell? ⟨w.heap.size, 1, none⟩ = some (.slice ac nc pc) := gs.cell (hgr.cell (keep_cell k6 k4) (nb _ (by simp; omega))) (by simp; omega)
    have m2 : W10.cell? ⟨w.heap.size + 2, 0, none⟩ = some (.slice ac nc pc) := gs.cell (hgr.cell (keep_cell k6 k5) (nb _ (by simp; omega))) (by simp; omega)
    have HE : Hid (KeepsFrom W3.heap.size Wx ((W10.setCell ⟨wy.heap.size, 0, none⟩ (.int .i64 Bh)).setCell ⟨w.heap.size + 1, 0, none⟩ (.string tq)).drew /\ (fun (pre : List P3) (Wx : World) => Below w.heap.size w Wx /\ W3.heap.size <= Wx.heap.size /\ Wx.cell? ⟨w.heap.size, 0, none⟩ = some (.slice am nm pm) /\ Wx.cell? ⟨w.heap.size, 1, none⟩ = some (.slice ac nc pc) /\ Wx.cell? ⟨w.heap.size + 2, 0, none⟩ = some (.slice ac nc pc) /\ WrI W3.heap.size (w.heap.size + 1) wy.heap.size (wy.heap.size + 1) cs c0 s a pre Wx) (pre ++ [x]) ((W10.setCell ⟨wy.heap.size, 0, none⟩ (.int .i64 Bh)).setCell ⟨w.heap.size + 1, 0, none⟩ (.string tq)).drew) := by
     obtain ⟨w1, w2', w3, w4⟩ := HON.out
     have ga := grownBy_setCell' W10 wy.heap.size (.int .i64 Bh)
     have gb := grownBy_setCell' (W10.setCell ⟨wy.heap.size, 0, none⟩ (.int .i64 Bh)) (w.heap.size + 1) (.string tq)
     have bd : Below ((W10.setCell ⟨wy.heap.size, 0, none⟩ (.int .i64 Bh)).setCell ⟨w.heap.size + 1, 0, none⟩ (.string tq)).heap.size ((W10.setCell ⟨wy.heap.size, 0, none⟩ (.int .i64 Bh)).setCell ⟨w.heap.size + 1, 0, none⟩ (.string tq)) ((W10.setCell ⟨wy.heap.size, 0, none⟩ (.int .i64 Bh)).setCell ⟨w.heap.size + 1, 0, none⟩ (.string tq)).drew := (Below.refl _ _).drew
     refine ⟨(((n10.trans (KeepsOthers.setCell _ _ _)).trans (KeepsOthers.setCell _ _ _)).trans (KeepsOthers.of_below bd)).from _, below_tr ((b10.setCell (by simp; omega) _).setCell (by simp) _) bd, Nat.le_trans (Nat.le_trans hz10 (Nat.le_trans ga.size gb.size)) bd.size, keep_cell bd (gb.cell (ga.cell m0 (by simp; omega)) (by simp)), keep_cell bd (gb.cell (ga.cell m1 (by simp; omega)) (by simp)), keep_cell bd (gb.cell (ga.cell m2 (by simp; omega)) (by simp)), WrI.keep ?_ bd⟩
     refine ⟨⟨tq, ?_, w3⟩, ?_, _, (u10.kept ga (by simp)).kept gb (by simp; omega), ?_⟩
     ·exact (u5.kept ga (by simp; omega)).set _
     ·rw [w4]
      exact (u9.set _).kept gb (by simp; omega)
     ·rw [w1]
      exact (uo.kept ga (Or.inr (nb' _ (by omega)))).kept gb (Or.inr (nb' _ (by omega)))
    have hnB : B ≠ wy.heap.size := by have := HBX.out.1; omega
    have v9 := u9.cell
    have v9' := u9.frozen
    have v5 := u5.cell
    have v5' := u5.frozen
    have z2 := up.c2
    clear k1 k2 k3 k4 k5 k6 k7 k8 k9 k10 k11 y9 y5 yp gs u10 u9 u5 up uo n10 b10 hz10 m0 m1 m2 how hgr nb nb' own9 sl9 hl9 hz9
    gi_wp2
    rw [<- hW10]
    clear hW10 c10 f10' y10
    refine reg12 l v9 v9' v5 v5' z2 (by omega) hnB hq hqn htp0 ?_
    show ∀ A, _
    intro A
    gi_wp2
    first | exact ⟨HE.out.1, trivial, HE.out.2⟩ | (have h9 := HE.out; rw [show (Bh : Int) = (T : Int) by rw [hTB]] at h9; exact ⟨h9.1, trivial, h9.2⟩)
 case done =>
  rintro D ys Wx hD ⟨k, rfl, hk⟩ ⟨i1, i5, g0, g1, o7, ⟨t, bt, ht⟩, b9, v, b10, own⟩ hKD
  obtain ⟨nb8, n8, nl, nf, ns⟩ := HNF.out
  obtain ⟨p1, p2, p3⟩ := HPL.out
  have GD := HGD.out.keep i1
  rw [pcM_done a (bs + a) s.size k hk] at b9 own
  have hr8 : Row8 c0 ((pcM a (bs + a) s.size s.size).map (trP s a)) := by
   obtain ⟨K, e1, e2, e3⟩ := pcM_whole a (bs + a) s.size
   rw [e1, p2, p1]
   exact pc_row8 s bs a s.size nb8 K e3
  have hre := HRES.out
  rw [written_eq cs GD.sc n8 _ c0 (by rw [p2]; exact cellOf8 _) hr8] at hre
  have hnl := nowL_len cs _ _ hr8
  rw [List.length_map] at hre hnl
  have hpl := pcM_len a (bs + a) s.size s.size
  obtain ⟨X, hX⟩ : ∃ z, z = nowL cs ((pcM a (bs + a) s.size s.size).map (trP s a)) := ⟨_, rfl⟩
  rw [<- hX] at hre own hnl
  obtain ⟨cz, hcz⟩ : ∃ z, z = c0 + 8 * (pcM a (bs + a) s.size s.size).length := ⟨_, rfl⟩
  rw [<- hcz] at hre b9
  obtain ⟨T, hT⟩ : ∃ z, z = (lo cs cz).length := ⟨_, rfl⟩
  rw [<- hT] at b9
  have hT1 : T <= cs.length := by rw [hT]; exact List.length_filter_le _ _
  have hF1 : fm <= cs.length := by rw [p3]; exact List.length_filter_le _ _
  obtain ⟨x82, hv82, s82, _⟩ := GD.c.to23 fm hF1
  obtain ⟨x86, hv86, s86, _⟩ := GD.c.from23 T hT1
  rw [p3, take_lo cs GD.sc c0] at s82
  rw [hT, drop_fr cs GD.sc cz] at s86
  obtain ⟨a82, c82, e82, _⟩ := id s82
  obtain ⟨a86, c86, e86, _⟩ := id s86
  obtain ⟨n82, hn82⟩ : ∃ z, z = (lo cs c0).length := ⟨_, rfl⟩
  obtain ⟨n86, hn86⟩ : ∃ z, z = (fr cs cz).length := ⟨_, rfl⟩
  rw [<- hn82] at e82
  rw [<- hn86] at e86
  subst e82
  subst e86
  obtain ⟨va, vn, vcap, rfl⟩ := own_shape own
  have K90 : Hid (∀ b w', Below Wx.heap.size Wx w' -> w'.cell? ⟨b, 0, none⟩ = some (.slice a82 n82 c82) -> w'.cell? ⟨b, 1, none⟩ = some (.slice va vn vcap) -> w'.cell? ⟨b, 2, none⟩ = some (.slice a86 n86 c86) ->
    Calls Tryz.prog 63 #[.slice (some ⟨b, 0, none⟩) 3 3] w' fun e w'' => ∃ v', e = .returned v' /\ w''.ownsRow Wx.heap.size 48 2 v' RES.length (rowOf .u64 RES) /\ Below w'.heap.size w' w'') := fun b w' hb' q0 q1 q2 => by
   have h := cat40_3 b _ _ _ (lo cs c0) X (fr cs cz) w' q0 q1 q2 (s82.keep hb') ((own_sl own).keep hb') (s86.keep hb') (by
    have h1 : (lo cs c0).length <= cs.length := List.length_filter_le _ _
    have h2 : (fr cs cz).length <= cs.length := List.length_filter_le _ _
    have h3 : (fr cs cz).length + (lo cs c0).length <= cs.length := by
     have e1 := lo_fr cs GD.sc c0
     have e2 : (fr cs cz).length <= (fr cs c0).length := by
      unfold fr
      rw [<- List.countP_eq_length_filter, <- List.countP_eq_length_filter]
      refine List.countP_mono_left (fun y _ hy => ?_)
      simp only [decide_eq_true_eq] at hy |-
      omega
     have e3 := congrArg List.length e1
     rw [List.length_append] at e3
     omega
    simp only [List.length_append]
    omega)
   rw [<- hre] at h
   refine h.mono ?_
   rintro e w'' ⟨v', e1, e2, e3⟩
   exact ⟨v', e1, own_base e2 hb'.size, e3⟩
  have o9 := b9.cell
  have c10 := b10.cell
  have HKD : Hid (Wx.heap[D]? = some (.deferred (some [])) /\ Below w.heap.size w Wx /\ w.heap.size <= D) := ⟨hKD, i1, by have := HW3.out.2; omega⟩
  clear hKD hseq g0 g1 g2 g3 d0 d1 d2 d3 d4 d5 own i1 GD s82 s86 hre hnl hX hcz hT hn82 hn86 bt b9 b10 hr8 nf n8 ht hk hpl
  go_wp2
  refine wp_region_cutA (R := Ext) [⟨80, fun v _ => v = .slice ac nc pc, fun _ _ _ _ h => h⟩, ⟨81, fun v _ => v = .int .i64 fm, fun _ _ _ _ h => h⟩, ⟨82, fun v _ => v = .slice a82 n82 c82, fun _ _ _ _ h => h⟩, ⟨83, fun v _ => v = .slice va vn vcap, fun _ _ _ _ h => h⟩, ⟨84, fun v _ => v = .slice ac nc pc, fun _ _ _ _ h => h⟩, ⟨85, fun v _ => v = .int .i64 T, fun _ _ _ _ h => h⟩, ⟨86, fun v _ => v = .slice a86 n86 c86, fun _ _ _ _ h => h⟩, ⟨87, fun v w => ∃ b, v = .slice (some ⟨b, 0, none⟩) 3 3 /\ w.cell? ⟨b, 0, none⟩ = some (.slice a82 n82 c82) /\ w.cell? ⟨b, 1, none⟩ = some (.slice va vn vcap) /\ w.cell? ⟨b, 2, none⟩ = some (.slice a86 n86 c86), fun _ _ _ hb h => h.elim fun b h => ⟨b, h.1, keep_cell hb h.2.1, keep_cell hb h.2.2.1, keep_cell hb h.2.2.2⟩⟩, ⟨88, fun v w => w.ownsRow Wx.heap.size 48 2 v RES.length (rowOf .u64 RES), fun _ _ _ hb h => own_keep h hb⟩, ⟨6, fun v w => w.ownsRow Wx.heap.size 48 2 v RES.length (rowOf .u64 RES), fun _ _ _ hb h => own_keep h hb⟩] _ (by kernel_rfl) rfl (by kernel_rfl) (by kernel_rfl) (Below.drew (Below.refl _ _)) (fun _ _ _ h1 h2 => below_tr h1 h2) (fun QQ => ⟨?_, ?_, ?_, ?_, ?_, ?_, ?_, ?_, ?_, ?_, trivial⟩) (fun f13 wy13 hR13 hf13 => ?_)
  ·intro A wx hR hout hdep K hK
   have h7 : A.tmps[7]?.getD undef = .pointer (some ⟨w.heap.size + 2, 0, none⟩) := hout 7 (by kernel_rfl)
   refine yes ?_
   have o7 := keep_cell hR o7
   have o9 := keep_cell hR o9
   have c10 := keep_cell hR c10
   simp [go_sem, h7, o7, o9, c10, hv82, hv86]
   exact hK.out _ _ (Below.refl _ _) rfl
  ·intro A wx hR hout hdep K hK
   have h8 : A.tmps[8]?.getD undef = .int .i64 fm := hout 8 (by kernel_rfl)
   refine yes ?_
   simp [go_sem, h8, hv82, hv86]
   exact hK.out _ _ (Below.refl _ _) rfl
  ·intro A wx hR hout hdep K hK
   have h80 : A.tmps[80]?.getD undef = .slice ac nc pc := hdep 80 (by kernel_rfl)
   have h81 : A.tmps[81]?.getD undef = .int .i64 fm := hdep 81 (by kernel_rfl)
   refine yes ?_
   simp [go_sem, h80, h81, hv82, hv86]
   exact hK.out _ _ (Below.refl _ _) rfl
  ·intro A wx hR hout hdep K hK
   have h10 : A.tmps[10]?.getD undef = .pointer (some ⟨wy.heap.size + 1, 0, none⟩) := hout 10 (by kernel_rfl)
   refine yes ?_
   have o7 := keep_cell hR o7
   have o9 := keep_cell hR o9
   have c10 := keep_cell hR c10
   simp [go_sem, h10, o7, o9, c10, hv82, hv86]
   exact hK.out _ _ (Below.refl _ _) rfl
  ·intro A wx hR hout hdep K hK
   have h7 : A.tmps[7]?.getD undef = .pointer (some ⟨w.heap.size + 2, 0, none⟩) := hout 7 (by kernel_rfl)
   refine yes ?_
   have o7 := keep_cell hR o7
   have o9 := keep_cell hR o9
   have c10 := keep_cell hR c10
   simp [go_sem, h7, o7, o9, c10, hv82, hv86]
   exact hK.out _ _ (Below.refl _ _) rfl
  ·intro A wx hR hout hdep K hK
   have h9 : A.tmps[9]?.getD undef = .pointer (some ⟨wy.heap.size, 0, none⟩) := hout 9 (by kernel_rfl)
   refine yes ?_
   have o7 := keep_cell hR o7
   have o9 := keep_cell hR o9
   have c10 := keep_cell hR c10
   simp [go_sem, h9, o7, o9, c10, hv82, hv86]
   exact hK.out _ _ (Below.refl _ _) rfl
  ·intro A wx hR hout hdep K hK
   have h84 : A.tmps[84]?.getD undef = .slice ac nc pc := hdep 84 (by kernel_rfl)
   have h85 : A.tmps[85]?.getD undef = .int .i64 T := hdep 85 (by kernel_rfl)
   refine yes ?_
   simp [go_sem, h84, h85, hv82, hv86]
   exact hK.out _ _ (Below.refl _ _) rfl
  ·intro A wx hR hout hdep K hK
   have h82 : A.tmps[82]?.getD undef = .slice a82 n82 c82 := hdep 82 (by kernel_rfl)
   have h83 : A.tmps[83]?.getD undef = .slice va vn vcap := hdep 83 (by kernel_rfl)
   have h86 : A.tmps[86]?.getD undef = .slice a86 n86 c86 := hdep 86 (by kernel_rfl)
   refine yes ?_
   simp [go_sem, h82, h83, h86, hv82, hv86]
   exact hK.out _ _ ((Below.refl _ _).alloc (Nat.le_refl _) _) ⟨_, rfl, cell_newA wx _ 27 _ 0 _ rfl rfl, cell_newA wx _ 27 _ 1 _ rfl rfl, cell_newA wx _ 27 _ 2 _ rfl rfl⟩
  ·intro A wx hR hout hdep K hK
   have h87 := hdep 87 (by kernel_rfl)
   refine yes ?_
   obtain ⟨b, e87, q0, q1, q2⟩ := h87
   simp [go_sem, e87]
   refine (K90.out b wx hR q0 q1 q2).mono ?_
   rintro e wG ⟨v', rfl, ho, hbG⟩
   exact hK.out _ _ hbG ho
  ·intro A wx hR hout hdep K hK
   have h88 := hdep 88 (by kernel_rfl)
   refine yes ?_
   obtain ⟨e1, e2, e3, e88⟩ := own_shape h88
   simp [go_sem, e88]
   rw [e88] at h88
   exact hK.out _ _ (Below.refl _ _) h88
  have o13 : wy13.ownsRow Wx.heap.size 48 2 (f13 6) RES.length (rowOf .u64 RES) := hf13 6 (by kernel_rfl)
  obtain ⟨ra, rn, rc, e6⟩ := own_shape o13
  rw [e6] at o13
  simp only [putSl, Act.put, List.setIfInBounds_toArray, List.set_cons_zero, List.set_cons_succ, e6]
  obtain ⟨k1, k2, k3⟩ := HKD.out
  have k1' : wy13.heap[D]? = some (.deferred (some [])) := (hR13.block D (Array.getElem?_eq_some_iff.1 k1).1).trans k1
  have kD : D < Wx.heap.size := (Array.getElem?_eq_some_iff.1 k1).1
  have HK : Hid (wy13.heap[D]? = some (.deferred (some [])) /\ Below w.heap.size w wy13 /\ wy13.ownsRow Wx.heap.size 48 2 (.slice ra rn rc) RES.length (rowOf .u64 RES) /\ D < Wx.heap.size /\ w.heap.size <= D) := ⟨k1', below_tr k2 hR13, o13, kD, k3⟩
  clear k1 k2 k3 k1' kD o13 e6 hf13 hR13
  go_wp2
  obtain ⟨k1, k2, k3, k4, k5⟩ := HK.out
  refine ⟨by simp, .inl ⟨_, _, rfl, run_takeDeferred k1, ?_⟩⟩
  have gD := grownBy_putObj' wy13 D (.deferred none)
  refine ⟨_, results_tmp rfl _ _ _, _, rfl, ?_, k2.grown (grownBy_putObj' wy13 D _) k2.size (fun r e => by cases e; exact k5)⟩
  refine own_base (k3.kept (grownBy_putObj' wy13 D _) (Or.inr (fun e => ?_))) (by omega)
  have := own_ge k3 D e
  omega
 case stop =>
  rintro D c pre Wx hD hS h hKD
  exact h.elim
end Go.Proofs.YtimfipkbddpdmaaGreatDoor.Gm
