import Derived.Test.YtimfipkbddpdmaaGreatDoorMr
import Derived.BigRegion
import Derived.Deep.RegionWith
import Derived.Test.YtimfipkbddpdmaaGreatDoorVals
import Derived.Laws.Rows
set_option linter.unusedVariables false
set_option linter.unusedSimpArgs false
set_option maxRecDepth 100000
open Go Go.RowKit
namespace Go.Proofs.YtimfipkbddpdmaaGreatDoor
theorem Mb.at32 {c : Cp} {g : Gv} {b : Nat} {w : World} (h : Mb c g b w) (hl : c.r.length = 32) : w.cell? ⟨b, 32, none⟩ = some (.int .u32 c.hi) /\ w.cell? ⟨b, 33, none⟩ = some (.int .u32 c.lo) := by
 obtain ⟨h1, h2, _⟩ := h.fields hl
 exact ⟨h1, h2⟩
set_option maxHeartbeats 4000000 in
theorem work60_wi (M : Mem) (c : Cp) (cs : List (Nat × Int)) (g : Gv) (b : Nat) (i : In) (s t : Nat) (hc : c.Ok) (hi : Sm5 i) (hs : s < 4294967296) (ht : t < 4294967296) (w : World) (h : MS M c cs g b w) (hG : Good M cs) (hT : Tab w) (hA : (aIdx i.name).isSome = false) (hB : (Wd.wIdx i.name).isSome = true) :
  Calls Tryz.prog 60 #[.pointer (some ⟨b, 0, none⟩), i.val, .int .u32 s, .int .u32 t] w (Tells M b w (.tuple #[]) (.ok ({ c with hi := (Wd.doN i.name s t c.hi c.lo).1, lo := (Wd.doN i.name s t c.hi c.lo).2 }, cs))) := by
 obtain ⟨W, hW, hb, hz, d0, d1, d2, d3, d4, d5⟩ := box6 w (.string i.name) (.int .i64 i.rs) (.int .i64 i.rt) (.int .i64 i.rd) (.int .i64 i.sa) (.int .u32 i.imm) 55
 have hi0 : Ib i w.heap.size W := ⟨d0, d1, d2, d3, d4, d5⟩
 have HM : Hid (w.grownBy W (some b) /\ MS M c cs g b W /\ c.Ok /\ Good M cs /\ b < w.heap.size /\ Sm5 i /\ s < 4294967296 /\ t < 4294967296 /\ Tab W /\ Ib i w.heap.size W) := ⟨grown_of hb, h.keep hb, hc, hG, h.m.lt, hi, hs, ht, hT.keep hb, hi0⟩
 have KA := known10 i.name W
 have KB : Hid (∀ wx, Calls Tryz.prog 84 #[.string i.name] wx fun e w' => e = .returned (.bool (Wd.wIdx i.name).isSome) /\ Below wx.heap.size wx w') := fun wx => Wd.known10 i.name wx
 have KC : Hid (∀ wx, Calls Tryz.prog 86 #[.string i.name, .int .u32 s, .int .u32 t] wx fun e w' => e = .returned (.bool (trapB i.name s t)) /\ w' = wx) := fun wx => traps12 i.name s t hs ht wx
 have KD : Hid (∀ wx, Calls Tryz.prog 87 #[.string i.name] wx fun e w' => e = .returned (.string (formOf i.name)) /\ Below wx.heap.size wx w') := fun wx => form13 i.name wx
 rw [hA] at KA
 rw [hB] at KB
 clear hA hB KC KD
 have KW : Hid (∀ wx, Calls Tryz.prog 85 #[.string i.name, .int .u32 s, .int .u32 t, .int .u32 c.hi, .int .u32 c.lo] wx fun e w' => e = .returned (.tuple #[.int .u32 ((Wd.doN i.name s t c.hi c.lo).1 : Int), .int .u32 ((Wd.doN i.name s t c.hi c.lo).2 : Int)]) /\ Below wx.heap.size wx w') := fun wx => Wd.do8 i.name s t c.hi c.lo HM.out.2.2.2.2.2.2.1 HM.out.2.2.2.2.2.2.2.1 HM.out.2.2.1.hi HM.out.2.2.1.lo wx
 generalize Wd.doN i.name s t c.hi c.lo = hl at KW |-
 obtain ⟨nh, nl⟩ := hl
 simp only at KW |-
 unfold In.val
 clear hb hz h hG hc hi hs ht hT hi0
 go_enter Tryz.func60, Tryz.ntmps60
 go_wp2_with fail
 refine KA.mono ?_
 rintro e w1 ⟨rfl, hb1⟩
 have HI1 := HM.out.2.2.2.2.2.2.2.2.2.keep hb1
 obtain ⟨d0, d1, d2, d3, d4, d5⟩ := HI1
 have H1 : Hid (w.grownBy w1 (some b) /\ MS M c cs g b w1 /\ Tab w1 /\ Ib i w.heap.size w1) := ⟨gb_trans HM.out.1 (grown_of hb1), HM.out.2.1.keep hb1, HM.out.2.2.2.2.2.2.2.2.1.keep hb1, ⟨d0, d1, d2, d3, d4, d5⟩⟩
 clear hb1 KA hW
 go_wp2_with fail
 refine (KB.out _).mono ?_
 rintro e w2 ⟨rfl, hb1⟩
 have HI1 := H1.out.2.2.2.keep hb1
 obtain ⟨d0, d1, d2, d3, d4, d5⟩ := HI1
 have H2 : Hid (w.grownBy w2 (some b) /\ MS M c cs g b w2 /\ Tab w2 /\ Ib i w.heap.size w2) := ⟨gb_trans H1.out.1 (grown_of hb1), H1.out.2.1.keep hb1, H1.out.2.2.1.keep hb1, ⟨d0, d1, d2, d3, d4, d5⟩⟩
 clear hb1 H1
 have hm2 := H2.out.2.1.m
 obtain ⟨c32, c33, _⟩ := hm2.fields HM.out.2.2.1.len
 have HL : Hid (∀ w3, Below w2.heap.size w2 w3 -> Mb c g b w3) := fun w3 h3 => hm2.keep h3
 have HLL : Hid (c.r.length = 32) := HM.out.2.2.1.len
 clear hm2
 have HF : Hid (∀ w3, Below w2.heap.size w2 w3 -> w.grownBy ((w3.setCell ⟨b, 32, none⟩ (.int .u32 nh)).setCell ⟨b, 33, none⟩ (.int .u32 nl)) (some b) /\ MS M { c with hi := nh, lo := nl } cs g b ((w3.setCell ⟨b, 32, none⟩ (.int .u32 nh)).setCell ⟨b, 33, none⟩ (.int .u32 nl))) := fun w3 h3 => by
  have hM3 := H2.out.2.1.keep h3
  have hl := HM.out.2.2.1.len
  have hg : w3.grownBy ((w3.setCell ⟨b, 32, none⟩ (.int .u32 nh)).setCell ⟨b, 33, none⟩ (.int .u32 nl)) (some b) := gb_trans (grown_setk _ b 32 _) (grown_setk _ b 33 _)
  have h4 := hM3.m.setHi hl nh
  have h5 := h4.setLo hl nl
  exact ⟨gb_trans H2.out.1 (gb_trans (grown_of h3) hg), hM3.to hl hg h5⟩
 clear d1 d2 d3 d4 d5 H2
 go_wp2
 go_region_with (refine (KW.out _).mono ?_; rintro e w3 ⟨rfl, hb3⟩; have hb3 := below_tr (Below.refl _ _).drew hb3; have hm3 := HL.out w3 hb3; have e32 := (Mb.at32 hm3 HLL.out).1; have e33 := (Mb.at32 hm3 HLL.out).2; have z32 := hm3.frozen 32; have z33 := hm3.frozen 33)
 all_goals go_wp2
 all_goals simp [bodyPost, results, Tryz.results60]
 all_goals exact ⟨(HF.out _ hb3).1, rfl, _, (HF.out _ hb3).2⟩
def fetW (M : Mem) (cs : List (Nat × Int)) (pc : Nat) : Nat := Gm.W.beS ⟨(Gm.tdL M.ms cs M.ps M.bs pc 4 4).toArray⟩ % 4294967296
def fetR (M : Mem) (cs : List (Nat × Int)) (pc : Nat) : Except Ev Nat :=
 if pc % 4 = 0 then (if (Gm.ffN M.ps pc 4 4).1 = 0 then .ok (fetW M cs pc) else .error (ffE (Gm.ffN M.ps pc 4 4))) else .error ⟨5, 0, pc, 0, 0⟩
theorem boxFF (w : World) (x y : Value) (t : Nat) : ∃ W, w.alloc (.cells #[x, y] t) = W /\ Below w.heap.size w W /\ W.heap.size = w.heap.size + 1 /\ Free W ⟨w.heap.size, 0, none⟩ /\ Free W ⟨w.heap.size, 1, none⟩ := by
 obtain ⟨W, h1, h2, h3, _, _, h4, h5⟩ := box2 w x y t
 exact ⟨W, h1, h2, h3, h4, h5⟩
theorem set2_other (w : World) {n b o : Nat} (hn : b ≠ n) (x y : Value) {v : Value} (h : w.cell? ⟨b, o, none⟩ = some v) : ((w.setCell ⟨n, 0, none⟩ x).setCell ⟨n, 1, none⟩ y).cell? ⟨b, o, none⟩ = some v := by
 rw [World.cell?_setCell_other _ _ _ _ (by intro e; injection e with e; exact hn e.symm), World.cell?_setCell_other _ _ _ _ (by intro e; injection e with e; exact hn e.symm)]; exact h
set_option maxHeartbeats 2000000 in
theorem fetched56 (M : Mem) (c : Cp) (cs : List (Nat × Int)) (g : Gv) (b : Nat) (w : World) (hc : c.Ok) (h : MS M c cs g b w) (hG : Good M cs) :
  Calls Tryz.prog 56 #[.pointer (some ⟨b, 0, none⟩)] w fun e w' => Says (fetR M cs c.pc) e /\ Below w.heap.size w w' := by
 obtain ⟨_, _, c34, _, _, _, _, c39, c40, c41, c42⟩ := h.m.fields hc.len
 rw [h.e] at c41
 obtain ⟨⟨am, nm, pm, em⟩, ⟨ac, nc, pc, ec⟩, ⟨ap, np, pp, ep⟩⟩ := h.shapes
 have hpc := hc.pc
 by_cases h0 : c.pc % 4 = 0
 ·have K1 : Calls Tryz.prog 70 #[.int .u32 c.pc, .int .u32 4] w _ := aligned70_ok c.pc 4 (by decide) h0 w
  have K2 : Hid (∀ wx, Below w.heap.size w wx -> Calls Tryz.prog 71 #[.agg #[g.vm, g.vc, .int .u64 M.bs, g.vp], .int .u32 c.pc] wx fun e w' => e = .returned (.tuple #[.int .u32 (fetW M cs c.pc : Int), .agg #[.int .i64 (Gm.ffN M.ps c.pc 4 4).1, .int .u64 ((Gm.ffN M.ps c.pc 4 4).2 : Int)]]) /\ Below wx.heap.size wx w') := fun wx hx => Gm.gfetch14 g.vm g.vc g.vp M.bs c.pc M.ms cs M.ps wx ((h.gd hG).keep hx) hpc
  have HR : Hid (fetR M cs c.pc = if (Gm.ffN M.ps c.pc 4 4).1 = 0 then .ok (fetW M cs c.pc) else .error (ffE (Gm.ffN M.ps c.pc 4 4))) := by show _ = _; unfold fetR; rw [if_pos h0]
  generalize fetR M cs c.pc = R at HR |-
  generalize fetW M cs c.pc = V at HR K2
  generalize Gm.ffN M.ps c.pc 4 4 = ff at HR K2
  obtain ⟨kd, fa⟩ := ff
  simp only at HR K2
  have K72 : Hid (∀ w, Calls Tryz.prog 72 #[.agg #[.int .i64 kd, .int .u64 fa]] w fun e w' => (e = if kd = 0 then .returned (.tuple #[]) else .panicked (thrownE ⟨6, 0, 0, kd, fa⟩)) /\ Below w.heap.size w w') := fun w => allowed72 kd fa w
  rw [em] at c39 K2
  rw [ec] at c40 K2
  rw [ep] at c42 K2
  generalize c.pc = PC at K1 K2 c34 hpc
  have HLT : Hid (b < w.heap.size) := h.m.lt
  clear h hG hc h0 em ec ep
  go_enter Tryz.func56, Tryz.ntmps56
  go_wp2_with fail
  refine K1.mono ?_
  rintro e w1 ⟨rfl, rfl⟩
  go_wp2
  refine wp_region_held_drew (S := fun w' => w'.cell? ⟨b, 34, none⟩ = some (.int .u32 PC) /\ w'.cell? ⟨b, 39, none⟩ = some (.slice am nm pm) /\ w'.cell? ⟨b, 40, none⟩ = some (.slice ac nc pc) /\ w'.cell? ⟨b, 41, none⟩ = some (.int .u64 M.bs) /\ w'.cell? ⟨b, 42, none⟩ = some (.slice ap np pp)) (by kernel_rfl) ⟨by simp [c34], by simp [c39], by simp [c40], by simp [c41], by simp [c42]⟩ (fun hS => ?_)
  refine takeG 0 (.pointer (some ⟨b, 0, none⟩)) hS ?_
  simp only [Act.put]
  refine takeG 1 (.pointer (some ⟨b, 0, none⟩)) hS ?_
  simp only [Act.put]
  refine takeG 2 (.pointer (some ⟨b, 39, none⟩)) hS ?_
  simp only [Act.put]
  refine takeG 3 (.agg #[.slice am nm pm, .slice ac nc pc, .int .u64 M.bs, .slice ap np pp]) hS ?_
  simp only [Act.put]
  refine takeG 4 (.pointer (some ⟨b, 0, none⟩)) hS ?_
  simp only [Act.put]
  refine takeG 5 (.pointer (some ⟨b, 0, none⟩)) hS ?_
  simp only [Act.put]
  refine takeG 6 (.pointer (some ⟨b, 0, none⟩)) hS ?_
  simp only [Act.put]
  refine takeG 7 (.pointer (some ⟨b, 34, none⟩)) hS ?_
  simp only [Act.put]
  refine takeG 8 (.int .u32 PC) hS ?_
  simp only [Act.put]
  refine wpAnyH_ready (rs := [9, 13]) (by kernel_rfl) (by simp) (AllReadyH.cons rfl (fun K hK => ?_) (AllReadyH.cons rfl (fun K hK => ?_) AllReadyH.nil))
  ·go_simp
   go_wp2_with fail
   refine (K2.out _ (Below.refl _ _).drew).mono ?_
   rintro e w2 ⟨rfl, hb2⟩
   have hb2 : Below w1.heap.size w1 w2 := below_tr (Below.refl _ _).drew hb2
   have c34 := keep_cell hb2 c34
   have c39 := keep_cell hb2 c39
   have c40 := keep_cell hb2 c40
   have c41 := keep_cell hb2 c41
   have c42 := keep_cell hb2 c42
   go_wp2_with fail
   refine hK.out _ _ ⟨c34, c39, c40, c41, c42⟩ (fun hS => ?_)
   clear hK K
   refine takeG 10 (.tuple #[.int .u32 V, .agg #[.int .i64 kd, .int .u64 fa]]) hS ?_
   simp only [Act.put]
   refine takeG 11 (.int .u32 V) hS ?_
   simp only [Act.put]
   refine takeG 12 (.agg #[.int .i64 kd, .int .u64 fa]) hS ?_
   simp only [Act.put]
   refine readyH 13 fun K hK => ?_
   go_simp
   obtain ⟨X, hX, hbX, hzX, f0, f1⟩ := boxFF w2 (.int .i64 0) (.int .u64 0) 38
   rw [hX]
   have c34 := keep_cell hbX c34
   have c39 := keep_cell hbX c39
   have c40 := keep_cell hbX c40
   have c41 := keep_cell hbX c41
   have c42 := keep_cell hbX c42
   refine hK.out _ _ ⟨c34, c39, c40, c41, c42⟩ (fun hS => ?_)
   clear hK K
   have HB : Hid (Below w1.heap.size w1 X) := below_tr hb2 hbX
   have hnb : b ≠ w2.heap.size := by have := HLT.out; have := hb2.size; omega
   have hle : Hid (w1.heap.size <= w2.heap.size) := hb2.size
   clear hb2 hbX hzX hX
   refine takeG 14 (.int .u32 V) hS ?_
   simp only [Act.put]
   have q0 := f0.cell
   have q1 := f1.cell
   have z0 := f0.frozen
   have z1 := f1.frozen
   have hres := res2 X w2.heap.size (.int .i64 kd) (.int .u64 fa) f0 f1
   simp only at hres
   have HBE := below2 (n := w2.heap.size) HB.out hle.out (.int .i64 kd) (.int .u64 fa)
   have u34 := set2_other X hnb (.int .i64 kd) (.int .u64 fa) c34
   have u39 := set2_other X hnb (.int .i64 kd) (.int .u64 fa) c39
   have u40 := set2_other X hnb (.int .i64 kd) (.int .u64 fa) c40
   have u41 := set2_other X hnb (.int .i64 kd) (.int .u64 fa) c41
   have u42 := set2_other X hnb (.int .i64 kd) (.int .u64 fa) c42
   refine readyH 15 fun K hK => ?_
   obtain ⟨Y, hY⟩ : ∃ z, (X.setCell ⟨w2.heap.size, 0, none⟩ (.int .i64 kd)).setCell ⟨w2.heap.size, 1, none⟩ (.int .u64 fa) = z := ⟨_, rfl⟩
   rw [hY] at hres HBE u34 u39 u40 u41 u42
   obtain ⟨y0, y1⟩ := hres
   have HBE : Hid _ := HBE
   go_simp
   refine hK.out _ _ ⟨u34, u39, u40, u41, u42⟩ (fun _ => ?_)
   clear hK K hY
   refine wpAnyH_done (by kernel_rfl) ?_ _
   clear c34 c39 c40 c41 c42 u34 u39 u40 u41 u42 q0 q1 z0 z1 f0 f1 hS K2 K1
   go_wp2_with fail
   refine (K72.out Y).mono ?_
   rintro e w4 ⟨he, hb4⟩
   have HB4 : Hid (Below w1.heap.size w1 w4) := below_tr HBE.out hb4
   by_cases hk : kd = 0
   ·subst hk
    rw [if_pos rfl] at he HR
    subst he
    obtain rfl : R = .ok V := HR.out
    clear hb4 HB HBE K72 HR
    go_wp2
    go_ret
    exact ⟨rfl, HB4.out⟩
   ·rw [if_neg hk] at he HR
    subst he
    obtain rfl : R = .error (ffE (kd, fa)) := HR.out
    clear hb4 HB HBE K72 HR
    go_wp2
    exact ⟨rfl, rfl, HB4.out⟩
  ·go_simp
   obtain ⟨X0, hX, hbX, hzX, f0, f1⟩ := boxFF w1 (.int .i64 0) (.int .u64 0) 38
   rw [hX]
   have hbX : Below w1.heap.size w1 X0.drew := hbX.drew
   have f0 := f0.drew
   have f1 := f1.drew
   obtain ⟨X, hXd⟩ : ∃ z, X0.drew = z := ⟨_, rfl⟩
   rw [hXd] at hbX f0 f1 |-
   have c34 := keep_cell hbX c34
   have c39 := keep_cell hbX c39
   have c40 := keep_cell hbX c40
   have c41 := keep_cell hbX c41
   have c42 := keep_cell hbX c42
   refine hK.out _ _ ⟨c34, c39, c40, c41, c42⟩ (fun hS => ?_)
   clear hK K hX hXd
   refine readyH 9 fun K hK => ?_
   go_simp
   go_wp2_with fail
   refine (K2.out X hbX).mono ?_
   rintro e w2 ⟨rfl, hb2⟩
   have c34 := keep_cell hb2 c34
   have c39 := keep_cell hb2 c39
   have c40 := keep_cell hb2 c40
   have c41 := keep_cell hb2 c41
   have c42 := keep_cell hb2 c42
   have f0 : Free w2 ⟨w1.heap.size, 0, none⟩ := f0.keep hb2
   have f1 : Free w2 ⟨w1.heap.size, 1, none⟩ := f1.keep hb2
   go_wp2_with fail
   refine hK.out _ _ ⟨c34, c39, c40, c41, c42⟩ (fun hS => ?_)
   clear hK K
   have HB : Hid (Below w1.heap.size w1 w2) := below_tr hbX hb2
   have hnb : b ≠ w1.heap.size := by have := HLT.out; omega
   have hle : Hid (w1.heap.size <= w1.heap.size) := Nat.le_refl _
   clear hb2 hbX hzX
   refine takeG 10 (.tuple #[.int .u32 V, .agg #[.int .i64 kd, .int .u64 fa]]) hS ?_
   simp only [Act.put]
   refine takeG 11 (.int .u32 V) hS ?_
   simp only [Act.put]
   refine takeG 12 (.agg #[.int .i64 kd, .int .u64 fa]) hS ?_
   simp only [Act.put]
   refine takeG 14 (.int .u32 V) hS ?_
   simp only [Act.put]
   have q0 := f0.cell
   have q1 := f1.cell
   have z0 := f0.frozen
   have z1 := f1.frozen
   have hres := res2 w2 w1.heap.size (.int .i64 kd) (.int .u64 fa) f0 f1
   simp only at hres
   have HBE := below2 (n := w1.heap.size) HB.out hle.out (.int .i64 kd) (.int .u64 fa)
   have u34 := set2_other w2 hnb (.int .i64 kd) (.int .u64 fa) c34
   have u39 := set2_other w2 hnb (.int .i64 kd) (.int .u64 fa) c39
   have u40 := set2_other w2 hnb (.int .i64 kd) (.int .u64 fa) c40
   have u41 := set2_other w2 hnb (.int .i64 kd) (.int .u64 fa) c41
   have u42 := set2_other w2 hnb (.int .i64 kd) (.int .u64 fa) c42
   refine readyH 15 fun K hK => ?_
   obtain ⟨Y, hY⟩ : ∃ z, (w2.setCell ⟨w1.heap.size, 0, none⟩ (.int .i64 kd)).setCell ⟨w1.heap.size, 1, none⟩ (.int .u64 fa) = z := ⟨_, rfl⟩
   rw [hY] at hres HBE u34 u39 u40 u41 u42
   obtain ⟨y0, y1⟩ := hres
   have HBE : Hid _ := HBE
   go_simp
   refine hK.out _ _ ⟨u34, u39, u40, u41, u42⟩ (fun _ => ?_)
   clear hK K hY
   refine wpAnyH_done (by kernel_rfl) ?_ _
   clear c34 c39 c40 c41 c42 u34 u39 u40 u41 u42 q0 q1 z0 z1 f0 f1 hS K2 K1
   go_wp2_with fail
   refine (K72.out Y).mono ?_
   rintro e w4 ⟨he, hb4⟩
   have HB4 : Hid (Below w1.heap.size w1 w4) := below_tr HBE.out hb4
   by_cases hk : kd = 0
   ·subst hk
    rw [if_pos rfl] at he HR
    subst he
    obtain rfl : R = .ok V := HR.out
    clear hb4 HB HBE K72 HR
    go_wp2
    go_ret
    exact ⟨rfl, HB4.out⟩
   ·rw [if_neg hk] at he HR
    subst he
    obtain rfl : R = .error (ffE (kd, fa)) := HR.out
    clear hb4 HB HBE K72 HR
    go_wp2
    exact ⟨rfl, rfl, HB4.out⟩
 ·have K1 : Calls Tryz.prog 70 #[.int .u32 c.pc, .int .u32 4] w _ := aligned70_no c.pc 4 (by decide) h0 w
  have e : fetR M cs c.pc = .error ⟨5, 0, c.pc, 0, 0⟩ := by unfold fetR; rw [if_neg h0]
  rw [e]
  unfold Says
  simp only
  clear e h hG hc
  go_enter Tryz.func56, Tryz.ntmps56
  go_wp2_with fail
  refine K1.mono ?_
  rintro e w1 ⟨rfl, rfl⟩
  go_wp2
  exact ⟨rfl, rfl, Below.refl _ _⟩
theorem work60 (M : Mem) (c : Cp) (cs : List (Nat × Int)) (g : Gv) (b : Nat) (i : In) (s t : Nat) (hc : c.Ok) (hi : Sm5 i) (hs : s < 4294967296) (ht : t < 4294967296) (w : World) (h : MS M c cs g b w) (hG : Good M cs) (hT : Tab w) :
  Calls Tryz.prog 60 #[.pointer (some ⟨b, 0, none⟩), i.val, .int .u32 s, .int .u32 t] w (Tells M b w (.tuple #[]) (workR M c cs i s t)) := by
 unfold workR
 cases hA : (aIdx i.name).isSome with
 | true => rw [if_pos rfl]; exact work60_al M c cs g b i s t hc hi hs ht w h hG hT hA
 | false =>
 rw [if_neg (by decide)]
 cases hB : (Wd.wIdx i.name).isSome with
 | true => rw [if_pos rfl]; exact work60_wi M c cs g b i s t hc hi hs ht w h hG hT hA hB
 | false =>
 rw [if_neg (by decide)]
 cases hC : trapB i.name s t with
 | true => rw [if_pos rfl]; exact work60_tr M c cs g b i s t hc hi hs ht w h hG hT hA hB hC
 | false =>
 rw [if_neg (by decide)]
 cases hD : ((formOf i.name).toList == [116, 109]) with
 | true => rw [if_pos rfl]; exact work60_tm M c cs g b i s t hc hi hs ht w h hG hT hA hB hC hD
 | false => rw [if_neg (by decide)]; exact work60_mv M c cs g b i s t hc hi hs ht w h hG hT hA hB hC hD
theorem mc_cells (c : Cp) (g : Gv) : mcells c g = c.cells ++ g.cells := by unfold mcells Cp.cells; rw [List.append_assoc]
theorem cells_len (c : Cp) (hl : c.r.length = 32) : c.cells.length = 39 := by unfold Cp.cells Cp.regs Cp.tail; simp [hl]
theorem addr_add (g j : Nat) : (⟨g, 0, none⟩ : Addr).add j = ⟨g, j, none⟩ := by unfold Addr.add; split <;> simp_all
theorem load_pre (w : World) (g : Nat) (t ty n : Nat) (A B : List Value) (d : TypeDesc) (hg : w.heap[g]? = some (.cells (A ++ B).toArray t (0, 0)))
  (hu : Tryz.prog.underlying ty = some d) (hd : (match d with | .struct _ | .array _ _ => true | _ => false) = true) (hi : (Tryz.prog.info? ty).map (·.size) = some n) (hn : A.length = n) :
  (loadVar ty ⟨g, 0, none⟩).run Tryz.prog w = .ok (.agg A.toArray) w := by
 have hl : (loadCells ⟨g, 0, none⟩ A.length).run Tryz.prog w = .ok A.toArray w :=
  run_loadCells_list (P := Tryz.prog) w ⟨g, 0, none⟩ A (fun j v hv => by
   rw [addr_add, cell_of_row w g j _ t _ hg]
   rw [List.getElem?_toArray, List.getElem?_append_left (List.getElem?_eq_some_iff.1 hv).1]
   exact hv)
 cases hq : Tryz.prog.info? ty with
 | none => simp [hq] at hi
 | some i =>
  have hs : i.size = A.length := by rw [hn]; simpa [hq] using hi
  have hagg : (isAgg ty).run Tryz.prog w = .ok true w := by
   unfold isAgg
   rw [Sem.run_bind, run_underlying hu w]
   cases d <;> simp_all
  simp [loadVar, Sem.run_bind, hagg, sizeOf, typeInfo, hq, hs, hl]
theorem load25 {c : Cp} {g : Gv} {b : Nat} {w : World} (hl : c.r.length = 32) (h : Mb c g b w) : (loadVar 25 ⟨b, 0, none⟩).run Tryz.prog w = .ok (.agg c.cells.toArray) w := by
 have h' : w.heap[b]? = some (.cells (c.cells ++ g.cells).toArray 66 (0, 0)) := by rw [<- mc_cells]; exact h
 exact load_pre w b 66 25 39 c.cells g.cells _ h' (by rfl) (by rfl) (by rfl) (cells_len c hl)
theorem load66 {c : Cp} {g : Gv} {b : Nat} {w : World} (hl : c.r.length = 32) (h : Mb c g b w) : (loadVar 66 ⟨b, 0, none⟩).run Tryz.prog w = .ok (.agg (mcells c g).toArray) w := by
 have h' : w.heap[b]? = some (.cells (mcells c g ++ []).toArray 66 (0, 0)) := by rw [List.append_nil]; exact h
 exact load_pre w b 66 66 43 (mcells c g) [] _ h' (by rfl) (by rfl) (by rfl) (by rw [mc_cells, List.length_append, cells_len c hl]; rfl)
end Go.Proofs.YtimfipkbddpdmaaGreatDoor
