import Derived.Test.YtimfipkbddpdmaaGreatDoorNl
set_option linter.unusedVariables false
set_option linter.unusedSimpArgs false
set_option maxRecDepth 100000
open Go Go.RowKit
namespace Go.Proofs.YtimfipkbddpdmaaGreatDoor
def M0 : Mem := ⟨[(0, 3)], [(1, 7)], 0⟩
theorem st1 : (stepR M0 (nwC 4096) csB).2.1.r = (List.replicate 32 0).set 2 5 /\ (stepR M0 (nwC 4096) csB).2.1.pc = 4100 /\ (stepR M0 (nwC 4096) csB).1.kind = 0 /\ (stepR M0 (nwC 4096) csB).2.2 = csB := by decide +kernel
theorem st2 : (stepR M0 (nwC 4100) csB).2.1.pc = 4104 /\ (stepR M0 (nwC 4100) csB).2.1.next = 4112 /\ (stepR M0 (nwC 4100) csB).2.1.slot = true /\ (stepR M0 (nwC 4100) csB).1.kind = 0 := by decide +kernel
theorem st3 : (stepR M0 (nwC 4104) csB).1.kind = 5 /\ (stepR M0 (nwC 4104) csB).1.code = 0 /\ (stepR M0 (nwC 4104) csB).1.at_ = 4098 /\ (stepR M0 (nwC 4104) csB).1.fk = 0 /\ (stepR M0 (nwC 4104) csB).1.fa = 0 := by decide +kernel
theorem good0 : Good M0 csB := by
 refine ⟨⟨?_, by decide, by decide, by decide, ?_, ?_, ?_, ?_⟩, ?_⟩
 ·unfold Gm.FitQ Gm.Srt M0; decide +kernel
 ·unfold Gm.Srt M0; decide +kernel
 ·unfold M0; decide +kernel
 ·unfold M0; decide +kernel
 ·unfold M0; decide +kernel
 ·unfold Gm.Words; decide +kernel
theorem nwC_ok (pc : Nat) (h : pc + 4 < 4294967296) : (nwC pc).Ok := ⟨rfl, fun x hx => by
 have := List.eq_of_mem_replicate hx
 omega, by show (0 : Nat) < _; decide, by show (0 : Nat) < _; decide, by show pc < _; omega, by show pc + 4 < _; omega, by show (0 : Nat) < _; decide⟩
theorem blk_ne {w : World} {a b t u : Nat} {X Y : Array Value} {f f' : Nat × Nat} (h : w.heap[a]? = some (.cells X t f)) (h' : w.heap[b]? = some (.cells Y u f')) (ht : t ≠ u) : a ≠ b := fun e => by
 subst e
 rw [h] at h'
 injection h' with h'
 injection h' with _ h5
 exact ht h5
def StT (M : Mem) (c : Cp) (cs : List (Nat × Int)) (ev : Value) (v : Value) (w : World) : Prop := ∃ x1 x2 x3 x4 x5 x6 x7 x8 x9, v = .tuple #[.agg c.cells.toArray, .agg #[.slice x1 x2 x3, .slice x4 x5 x6, .int .u64 M.bs, .slice x7 x8 x9], ev] /\ Gm.OwnG 0 w (.slice x1 x2 x3) (.slice x4 x5 x6) (.slice x7 x8 x9) M.ms cs M.ps
theorem StT.keep {M : Mem} {c : Cp} {cs : List (Nat × Int)} {ev v : Value} {w w' : World} (h : StT M c cs ev v w) (hb : Below w.heap.size w w') : StT M c cs ev v w' := by
 obtain ⟨x1, x2, x3, x4, x5, x6, x7, x8, x9, e, o⟩ := h
 exact ⟨x1, x2, x3, x4, x5, x6, x7, x8, x9, e, o.keep hb⟩
def N25 (B : Nat) (v : Value) (w : World) : Prop := ∃ n, v = .pointer (some ⟨n, 0, none⟩) /\ B <= n /\ Cb c00 n w
theorem N25.keep {B : Nat} {v : Value} {w w' : World} (h : N25 B v w) (hb : Below w.heap.size w w') : N25 B v w' := by
 obtain ⟨n, e, h1, o⟩ := h
 exact ⟨n, e, h1, o.keep hb⟩
def N33 (B : Nat) (v : Value) (w : World) : Prop := ∃ n, v = .pointer (some ⟨n, 0, none⟩) /\ B <= n /\ Hk n z4 33 w
theorem N33.keep {B : Nat} {v : Value} {w w' : World} (h : N33 B v w) (hb : Below w.heap.size w w') : N33 B v w' := by
 obtain ⟨n, e, h1, o⟩ := h
 exact ⟨n, e, h1, o.keep hb⟩
def RunS (M : Mem) (c : Cp) (cs : List (Nat × Int)) (ev : Ev) (n3 n4 n5 : Nat) (w : World) : Prop := ∃ x1 x2 x3 x4 x5 x6 x7 x8 x9, Cb c n3 w /\ Hk n4 [.slice x1 x2 x3, .slice x4 x5 x6, .int .u64 M.bs, .slice x7 x8 x9] 33 w /\ Eb ev n5 w /\ Gm.OwnG 0 w (.slice x1 x2 x3) (.slice x4 x5 x6) (.slice x7 x8 x9) M.ms cs M.ps
theorem RunS.keep {M : Mem} {c : Cp} {cs : List (Nat × Int)} {ev : Ev} {n3 n4 n5 : Nat} {w w' : World} (h : RunS M c cs ev n3 n4 n5 w) (hb : Below w.heap.size w w') : RunS M c cs ev n3 n4 n5 w' := by
 obtain ⟨x1, x2, x3, x4, x5, x6, x7, x8, x9, h1, h2, h3, o⟩ := h
 exact ⟨x1, x2, x3, x4, x5, x6, x7, x8, x9, h1.keep hb, h2.keep hb, h3.keep hb, o.keep hb⟩
theorem run_fin {M : Mem} {c : Cp} {cs : List (Nat × Int)} {ev : Ev} {n3 n4 n5 : Nat} {w0 w : World} {x1 x4 x7 : Option Addr} {x2 x3 x5 x6 x8 x9 : Nat} (m3 : Cb c00 n3 w) (m4 : Hk n4 z4 33 w) (m5 : Eb noEv n5 w) (o : Gm.OwnG 0 w (.slice x1 x2 x3) (.slice x4 x5 x6) (.slice x7 x8 x9) M.ms cs M.ps) (hb : Below w0.heap.size w0 w) (l3 : w0.heap.size <= n3) (l4 : w0.heap.size <= n4) (l5 : w0.heap.size <= n5) :
  (w.setRow n3 c.cells.toArray).heap[n4]? = some (.cells z4.toArray 33 (0, 0)) /\ Eb noEv n5 ((w.setRow n3 c.cells.toArray).setRow n4 #[.slice x1 x2 x3, .slice x4 x5 x6, .int .u64 M.bs, .slice x7 x8 x9]) /\
  RunS M c cs ev n3 n4 n5 (((w.setRow n3 c.cells.toArray).setRow n4 #[.slice x1 x2 x3, .slice x4 x5 x6, .int .u64 M.bs, .slice x7 x8 x9]).setRow n5 (evA ev)) /\ Below w0.heap.size w0 (((w.setRow n3 c.cells.toArray).setRow n4 #[.slice x1 x2 x3, .slice x4 x5 x6, .int .u64 M.bs, .slice x7 x8 x9]).setRow n5 (evA ev)) := by
 have n34 : n3 ≠ n4 := blk_ne m3 m4 (by decide)
 have n35 : n3 ≠ n5 := blk_ne m3 m5 (by decide)
 have n45 : n4 ≠ n5 := blk_ne m4 m5 (by decide)
 have G1 := grown_setRow w n3 c.cells.toArray
 have a3 : Cb c n3 (w.setRow n3 c.cells.toArray) := cb_setRow m3
 have a4 := m4.row G1 n34.symm
 have a5 := m5.row G1 n35.symm
 have o1 := owng_row o m3 (by decide) G1
 have G2 := grown_setRow (w.setRow n3 c.cells.toArray) n4 #[.slice x1 x2 x3, .slice x4 x5 x6, .int .u64 M.bs, .slice x7 x8 x9]
 have e3 := blk_row a3 G2 n34
 have e4 : Hk n4 [.slice x1 x2 x3, .slice x4 x5 x6, .int .u64 M.bs, .slice x7 x8 x9] 33 ((w.setRow n3 c.cells.toArray).setRow n4 #[.slice x1 x2 x3, .slice x4 x5 x6, .int .u64 M.bs, .slice x7 x8 x9]) := setRow_heap _ _ _ _ 33 _ a4
 have e5 := a5.row G2 n45.symm
 have o2 := owng_row o1 a4 (by decide) G2
 have G3 := grown_setRow ((w.setRow n3 c.cells.toArray).setRow n4 #[.slice x1 x2 x3, .slice x4 x5 x6, .int .u64 M.bs, .slice x7 x8 x9]) n5 (evA ev)
 have f3 := blk_row e3 G3 n35
 have f4 := e4.row G3 n45
 have f5 : Eb ev n5 _ := setRow_eb (v := ev) e5
 have o3 := owng_row o2 e5 (by decide) G3
 exact ⟨a4, e5, ⟨x1, x2, x3, x4, x5, x6, x7, x8, x9, f3, f4, f5, o3⟩, below_row (below_row (below_row hb G1 l3) G2 l4) G3 l5⟩
def GB (ng : Nat) (a : Option Addr) (n p : Nat) (a' : Option Addr) (n' p' : Nat) (t1 : Option Addr) (t2 t3 : Nat) (w : World) : Prop := Hk ng [.slice a n p, .slice t1 t2 t3, .int .u64 0, .slice a' n' p'] 33 w /\ G12 0 w a n p a' n' p' csB t1 t2 t3
theorem GB.keep {ng : Nat} {a : Option Addr} {n p : Nat} {a' : Option Addr} {n' p' : Nat} {t1 : Option Addr} {t2 t3 : Nat} {w w' : World} (h : GB ng a n p a' n' p' t1 t2 t3 w) (hb : Below w.heap.size w w') : GB ng a n p a' n' p' t1 t2 t3 w' := ⟨h.1.keep hb, h.2.keep hb⟩
def RUN1 (n3 n4 n5 : Nat) (w : World) : Prop := w.cell? ⟨n3, 2, none⟩ = some (.int .u32 5) /\ w.cell? ⟨n3, 34, none⟩ = some (.int .u32 4100) /\ w.cell? ⟨n5, 0, none⟩ = some (.int .i64 0) /\ ∃ x1 x2 x3 x4 x5 x6 x7 x8 x9, Hk n4 [.slice x1 x2 x3, .slice x4 x5 x6, .int .u64 0, .slice x7 x8 x9] 33 w /\ Gm.OwnG 0 w (.slice x1 x2 x3) (.slice x4 x5 x6) (.slice x7 x8 x9) [(0, 3)] csB [(1, 7)]
def RUN2 (n3 n5 : Nat) (w : World) : Prop := w.cell? ⟨n3, 34, none⟩ = some (.int .u32 4104) /\ w.cell? ⟨n3, 35, none⟩ = some (.int .u32 4112) /\ w.cell? ⟨n3, 36, none⟩ = some (.bool true) /\ w.cell? ⟨n5, 0, none⟩ = some (.int .i64 0)
def RUN3 (n5 : Nat) (w : World) : Prop := w.cell? ⟨n5, 0, none⟩ = some (.int .i64 5) /\ w.cell? ⟨n5, 1, none⟩ = some (.int .u32 0) /\ w.cell? ⟨n5, 2, none⟩ = some (.int .u32 4098) /\ w.cell? ⟨n5, 3, none⟩ = some (.int .i64 0) /\ w.cell? ⟨n5, 4, none⟩ = some (.int .u64 0)
theorem cb_at {c : Cp} {n k : Nat} {v : Value} {w : World} (h : Cb c n w) (e : c.cells[k]? = some v) : w.cell? ⟨n, k, none⟩ = some v := by
 have h' : w.heap[n]? = _ := h
 simp [World.cell?, h', e]
theorem cells_tail (c : Cp) (hl : c.r.length = 32) (k : Nat) : c.cells[32 + k]? = c.tail[k]? := by
 unfold Cp.cells
 rw [List.getElem?_append_right (by unfold Cp.regs; simp [hl])]
 unfold Cp.regs
 simp [hl]
theorem run1 {cc : Cp} {cs2 : List (Nat × Int)} {ev : Ev} {n3 n4 n5 : Nat} {w : World} (h : RunS M0 cc cs2 ev n3 n4 n5 w) (e : stepR M0 (nwC 4096) csB = (ev, cc, cs2)) : RUN1 n3 n4 n5 w := by
 obtain ⟨e1, e2, e3, e4⟩ := st1
 rw [e] at e1 e2 e3 e4
 simp only at e1 e2 e3 e4
 obtain ⟨x1, x2, x3, x4, x5, x6, x7, x8, x9, h1, h2, h3, o⟩ := h
 have hl : cc.r.length = 32 := by rw [e1]; rfl
 subst e4
 refine ⟨?_, ?_, ?_, x1, x2, x3, x4, x5, x6, x7, x8, x9, h2, o⟩
 ·refine cb_at h1 ?_
  unfold Cp.cells Cp.regs
  rw [e1]; rfl
 ·refine cb_at h1 ((cells_tail cc hl 2).trans ?_)
  unfold Cp.tail
  rw [e2]; rfl
 ·have := h3.cells.1
  rw [e3] at this
  exact this
theorem run2 {cc : Cp} {cs2 : List (Nat × Int)} {ev : Ev} {n3 n4 n5 : Nat} {w : World} (h : RunS M0 cc cs2 ev n3 n4 n5 w) (e : stepR M0 (nwC 4100) csB = (ev, cc, cs2)) (hl : cc.r.length = 32) : RUN2 n3 n5 w := by
 obtain ⟨e1, e2, e3, e4⟩ := st2
 rw [e] at e1 e2 e3 e4
 simp only at e1 e2 e3 e4
 obtain ⟨x1, x2, x3, x4, x5, x6, x7, x8, x9, h1, h2, h3, o⟩ := h
 refine ⟨?_, ?_, ?_, ?_⟩
 ·refine cb_at h1 ((cells_tail cc hl 2).trans ?_)
  unfold Cp.tail
  rw [e1]; rfl
 ·refine cb_at h1 ((cells_tail cc hl 3).trans ?_)
  unfold Cp.tail
  rw [e2]; rfl
 ·refine cb_at h1 ((cells_tail cc hl 4).trans ?_)
  unfold Cp.tail
  rw [e3]; rfl
 ·have := h3.cells.1
  rw [e4] at this
  exact this
theorem run3 {cc : Cp} {cs2 : List (Nat × Int)} {ev : Ev} {n3 n4 n5 : Nat} {w : World} (h : RunS M0 cc cs2 ev n3 n4 n5 w) (e : stepR M0 (nwC 4104) csB = (ev, cc, cs2)) : RUN3 n5 w := by
 obtain ⟨e1, e2, e3, e4, e5⟩ := st3
 rw [e] at e1 e2 e3 e4 e5
 simp only at e1 e2 e3 e4 e5
 obtain ⟨x1, x2, x3, x4, x5, x6, x7, x8, x9, h1, h2, h3, o⟩ := h
 have := h3.cells
 rw [e1, e2, e3, e4, e5] at this
 exact this
set_option maxHeartbeats 8000000 in
theorem awake8 (w : World) (hT : Tab w) : Calls Tryz.prog 8 #[] w fun e w' => e = .returned (.bool true) /\ Below w.heap.size w w' := by
 have HT : Hid (Tab w) := hT
 clear hT
 go_enter Tryz.func8, Tryz.ntmps8
 go_wp2_with fail
 refine (map17l w).mono ?_
 rintro e w1 ⟨⟨a, n, p, a', n', p', rfl, own⟩, hb1⟩
 have g1 : G12 0 w1 a n p a' n' p' [] none 0 0 := ⟨Gm.own_base own.1.1 (Nat.zero_le _), World.ownsRow_nil w1 0 48 2, Gm.own_base own.2 (Nat.zero_le _)⟩
 obtain ⟨X1, hX1, b2, s2, k2⟩ := allocw w1 z4 33
 obtain ⟨X2, hX2, g3, s3, k3⟩ := set4w X1 w1.heap.size (.slice a n p) (.slice none 0 0) (.int .u64 0) (.slice a' n' p')
 have k3 := k3 _ _ k2
 obtain ⟨d0, d1, d2, d3⟩ := k2.four
 have x0 := k2.frozen 0
 have x1 := k2.frozen 1
 have x2 := k2.frozen 2
 have x3 := k2.frozen 3
 have gX := (g1.keep b2).row k2 g3 (by decide)
 have bX := below_row (below_tr hb1 b2) g3 hb1.size
 obtain ⟨c0, c1, c2, c3⟩ := k3.four
 have HX : Hid (Hk w1.heap.size [.slice a n p, .slice none 0 0, .int .u64 0, .slice a' n' p'] 33 X2 /\ Below w.heap.size w X2 /\ w.heap.size <= w1.heap.size) := ⟨k3, bX, hb1.size⟩
 have K18 := poke18l a n p a' n' p' X2 gX
 clear own g1 b2 s2 k2 g3 s3 k3 gX bX hb1
 go_wp2_with fail
 refine K18.mono ?_
 rintro e w3 ⟨t1, t2, t3, rfl, gX, hb3⟩
 clear c0 c1 c2 c3 d0 d1 d2 d3 x0 x1 x2 x3 K18
 obtain ⟨kX, bX, lX⟩ := HX.out
 have kX := kX.keep hb3
 have bX := below_tr bX hb3
 obtain ⟨X4, hX4, g4, s4, k4⟩ := set4w w3 w1.heap.size (.slice a n p) (.slice t1 t2 t3) (.int .u64 0) (.slice a' n' p')
 have k4 := k4 _ _ kX
 obtain ⟨d0, d1, d2, d3⟩ := kX.four
 have x0 := kX.frozen 0
 have x1 := kX.frozen 1
 have x2 := kX.frozen 2
 have x3 := kX.frozen 3
 have GX : Hid (G12 0 X4 a n p a' n' p' csB t1 t2 t3) := gX.row kX g4 (by decide)
 have BX : Hid (Below w.heap.size w X4) := below_row bX g4 lX
 have KX : Hid (Hk w1.heap.size [.slice a n p, .slice t1 t2 t3, .int .u64 0, .slice a' n' p'] 33 X4) := k4
 obtain ⟨c0, c1, c2, c3⟩ := k4.four
 clear kX bX lX gX g4 s4 k4 hb3 HX
 go_wp2_with fail
 have KN : Hid (∀ wx, Calls Tryz.prog 19 #[.int .u32 4096, .int .u32 0] wx fun e w' => e = .returned (.agg (nwC 4096).cells.toArray) /\ Below wx.heap.size wx w') := fun wx => new19 4096 (by decide) wx
 have KS : Hid (∀ wx, Below X4.heap.size X4 wx -> Calls Tryz.prog 9 #[.agg (nwC 4096).cells.toArray, .agg #[.slice a n p, .slice t1 t2 t3, .int .u64 0, .slice a' n' p']] wx fun e w' => Below wx.heap.size wx w' /\ ∃ v, e = .returned v /\ StT M0 (stepR M0 (nwC 4096) csB).2.1 (stepR M0 (nwC 4096) csB).2.2 (stepR M0 (nwC 4096) csB).1.val v w') := fun wx hx => by
  have gX := GX.out.keep hx
  refine (step9 M0 (nwC 4096) csB (.slice a n p) (.slice t1 t2 t3) (.slice a' n' p') wx (nwC_ok 4096 (by decide)) ⟨Gm.own_sl gX.1, Gm.own_sl gX.2.1, Gm.Pg.own_sl gX.2.2⟩ good0 (HT.out.keep (below_tr BX.out hx))).mono ?_
  rintro e w' ⟨hb, g', rfl, o⟩
  obtain ⟨⟨x1, x2, x3, e1⟩, ⟨x4, x5, x6, e2⟩, ⟨x7, x8, x9, e3⟩⟩ := own_shapes o
  rw [e1, e2, e3] at o |-
  exact ⟨hb, _, rfl, x1, x2, x3, x4, x5, x6, x7, x8, x9, rfl, o⟩
 have HLS : Hid ((stepR M0 (nwC 4096) csB).2.1.r.length = 32) := step_len (nwC_ok 4096 (by decide))
 obtain ⟨SR, hSR⟩ : ∃ z, stepR M0 (nwC 4096) csB = z := ⟨_, rfl⟩
 rw [hSR] at KS HLS
 obtain ⟨⟨kd, cd, at_, fk, fa⟩, cc, cs2⟩ := SR
 simp only [Ev.val] at KS HLS
 have HSR3 : Hid (stepR M0 (nwC 4096) csB = (⟨kd, cd, at_, fk, fa⟩, cc, cs2)) := hSR
 generalize (nwC 4096).cells.toArray = CA at KN KS
 clear hSR
 go_cut [3, 4, 5] from 22 to 28 (fun v3 v4 v5 wx => ∃ n3 n4 n5, v3 = .pointer (some ⟨n3, 0, none⟩) /\ v4 = .pointer (some ⟨n4, 0, none⟩) /\ v5 = .pointer (some ⟨n5, 0, none⟩) /\ RunS M0 cc cs2 ⟨kd, cd, at_, fk, fa⟩ n3 n4 n5 wx /\ Below X4.heap.size X4 wx)
 case first =>
  refine wp_region_lates (R := Ext) [⟨23, fun v _ => v = .agg CA, fun _ _ _ _ h => h⟩, ⟨24, fun v _ => v = .agg #[.slice a n p, .slice t1 t2 t3, .int .u64 0, .slice a' n' p'], fun _ _ _ _ h => h⟩, ⟨25, StT M0 cc cs2 (.agg #[.int .i64 kd, .int .u32 cd, .int .u32 at_, .int .i64 fk, .int .u64 fa]), fun _ _ _ hb h => h.keep hb⟩, ⟨22, StT M0 cc cs2 (.agg #[.int .i64 kd, .int .u32 cd, .int .u32 at_, .int .i64 fk, .int .u64 fa]), fun _ _ _ hb h => h.keep hb⟩, ⟨26, fun v _ => v = .agg cc.cells.toArray, fun _ _ _ _ h => h⟩, ⟨27, FrS M0 cs2, fun _ _ _ hb h => h.keep hb⟩, ⟨28, fun v _ => v = .agg #[.int .i64 kd, .int .u32 cd, .int .u32 at_, .int .i64 fk, .int .u64 fa], fun _ _ _ _ h => h⟩, ⟨3, N25 X4.heap.size, fun _ _ _ hb h => h.keep hb⟩, ⟨4, N33 X4.heap.size, fun _ _ _ hb h => h.keep hb⟩, ⟨5, N40 X4.heap.size, fun _ _ _ hb h => h.keep hb⟩] _ 10 [5, 6] (by kernel_rfl) rfl (by kernel_rfl) (by decide) (by kernel_rfl) (Below.drew (Below.refl _ _)) (fun _ _ _ h1 h2 => below_tr h1 h2) (fun QQ => ⟨?_, ?_, ?_, ?_, ?_, ?_, ?_, ?_, ?_, ?_, trivial⟩) (fun listed f wy hls h1 h2 hR hf A hA i hi hmi => ?_)
  ·intro A wx hR hout hdep K hK
   refine yes ?_
   simp [go_sem]
   refine (KN.out wx).mono ?_
   rintro e wG ⟨rfl, hbG⟩
   exact hK.out _ _ hbG rfl
  ·intro A wx hR hout hdep K hK
   have h1 : _ = Value.pointer (some ⟨w1.heap.size, 0, none⟩) := hout 1 (by kernel_rfl)
   refine yes ?_
   have c0 := keep_cell hR c0
   have c1 := keep_cell hR c1
   have c2 := keep_cell hR c2
   have c3 := keep_cell hR c3
   simp [go_sem, h1, c0, c1, c2, c3]
   exact hK.out _ _ (Below.refl _ _) rfl
  ·intro A wx hR hout hdep K hK
   have h23 : _ = Value.agg CA := hdep 23 (by kernel_rfl)
   have h24 : _ = Value.agg #[.slice a n p, .slice t1 t2 t3, .int .u64 0, .slice a' n' p'] := hdep 24 (by kernel_rfl)
   refine yes ?_
   simp [go_sem, h23, h24]
   refine (KS.out wx hR).mono ?_
   rintro e wG ⟨hbG, v, rfl, ho⟩
   exact hK.out _ _ hbG ho
  ·intro A wx hR hout hdep K hK
   refine yes ?_
   obtain ⟨y1, y2, y3, y4, y5, y6, y7, y8, y9, h25, o⟩ := hdep 25 (by kernel_rfl)
   simp [go_sem, h25]
   exact hK.out _ _ (Below.refl _ _) ⟨y1, y2, y3, y4, y5, y6, y7, y8, y9, rfl, o⟩
  ·intro A wx hR hout hdep K hK
   refine yes ?_
   obtain ⟨y1, y2, y3, y4, y5, y6, y7, y8, y9, h22, o⟩ := hdep 22 (by kernel_rfl)
   simp [go_sem, h22]
   exact hK.out _ _ (Below.refl _ _) rfl
  ·intro A wx hR hout hdep K hK
   refine yes ?_
   obtain ⟨y1, y2, y3, y4, y5, y6, y7, y8, y9, h22, o⟩ := hdep 22 (by kernel_rfl)
   simp [go_sem, h22]
   exact hK.out _ _ (Below.refl _ _) ⟨y1, y2, y3, y4, y5, y6, y7, y8, y9, rfl, o⟩
  ·intro A wx hR hout hdep K hK
   refine yes ?_
   obtain ⟨y1, y2, y3, y4, y5, y6, y7, y8, y9, h22, o⟩ := hdep 22 (by kernel_rfl)
   simp [go_sem, h22]
   exact hK.out _ _ (Below.refl _ _) rfl
  ·intro A wx hR hout hdep K hK
   refine yes ?_
   simp [go_sem]
   exact hK.out _ _ ((Below.refl _ _).alloc (Nat.le_refl _) _) ⟨_, rfl, hR.size, heap_alloc_new _ _⟩
  ·intro A wx hR hout hdep K hK
   refine yes ?_
   simp [go_sem]
   exact hK.out _ _ ((Below.refl _ _).alloc (Nat.le_refl _) _) ⟨_, rfl, hR.size, heap_alloc_new _ _⟩
  ·intro A wx hR hout hdep K hK
   refine yes ?_
   simp [go_sem]
   exact hK.out _ _ ((Below.refl _ _).alloc (Nat.le_refl _) _) ⟨_, rfl, hR.size, heap_alloc_new _ _⟩
  obtain ⟨ll⟩ := listed
  match ll, hls with
  | [x0, x1, x2, x3, x4, x5, x6, x7, x8, x9, x10, x11, x12], _ =>
  obtain rfl : x0 = true := h1 0 (by decide) (by decide)
  obtain rfl : x1 = true := h1 1 (by decide) (by decide)
  obtain rfl : x2 = true := h1 2 (by decide) (by decide)
  obtain rfl : x3 = true := h1 3 (by decide) (by decide)
  obtain rfl : x4 = true := h1 4 (by decide) (by decide)
  obtain rfl : x7 = true := h1 7 (by decide) (by decide)
  obtain rfl : x8 = true := h1 8 (by decide) (by decide)
  obtain rfl : x9 = true := h1 9 (by decide) (by decide)
  obtain rfl : x10 = false := h2 10 (by decide) (by decide)
  obtain rfl : x11 = false := h2 11 (by decide) (by decide)
  obtain rfl : x12 = false := h2 12 (by decide) (by decide)
  have h23 : f 23 = .agg CA := hf 0 23 (by decide) rfl rfl
  have h24 : f 24 = .agg #[.slice a n p, .slice t1 t2 t3, .int .u64 0, .slice a' n' p'] := hf 1 24 (by decide) rfl rfl
  obtain ⟨i1, i2, i3, i4, i5, i6, i7, i8, i9, h25, _⟩ : StT M0 cc cs2 (.agg #[.int .i64 kd, .int .u32 cd, .int .u32 at_, .int .i64 fk, .int .u64 fa]) (f 25) wy := hf 2 25 (by decide) rfl rfl
  have H22 : StT M0 cc cs2 (.agg #[.int .i64 kd, .int .u32 cd, .int .u32 at_, .int .i64 fk, .int .u64 fa]) (f 22) wy := hf 3 22 (by decide) rfl rfl
  have h26 : f 26 = .agg cc.cells.toArray := hf 4 26 (by decide) rfl rfl
  obtain ⟨n3, h3, l3, m3⟩ : N25 X4.heap.size (f 3) wy := hf 7 3 (by decide) rfl rfl
  obtain ⟨n4, h4, l4, m4⟩ : N33 X4.heap.size (f 4) wy := hf 8 4 (by decide) rfl rfl
  obtain ⟨n5, h5, l5, m5⟩ : N40 X4.heap.size (f 5) wy := hf 9 5 (by decide) rfl rfl
  cases x5
  obtain ⟨y1, y2, y3, y4, y5, y6, y7, y8, y9, h22, oy⟩ := H22
  have h27 := h23
  rotate_left
  obtain ⟨_, _, _, _, _, _, _, _, _, h22, _⟩ := H22
  obtain ⟨y1, y2, y3, y4, y5, y6, y7, y8, y9, h27, oy⟩ : FrS M0 cs2 (f 27) wy := hf 5 27 (by decide) rfl rfl
  all_goals cases x6
  all_goals first | have h28 : f 28 = .agg #[.int .i64 kd, .int .u32 cd, .int .u32 at_, .int .i64 fk, .int .u64 fa] := hf 6 28 (by decide) rfl rfl | have h28 := h23
  all_goals
   have FF := run_fin (c := cc) (ev := ⟨kd, cd, at_, fk, fa⟩) m3 m4 m5 oy hR l3 l4 l5
   simp only [putSl, List.take_succ_cons, List.take_zero, Act.put, List.setIfInBounds_toArray, List.set_cons_zero, List.set_cons_succ, h23, h24, h25, h22, h26, h3, h4, h5, h27, h28] at hA
   subst hA
   obtain rfl : i = 10 := by have := (by decide +kernel : ∀ j ∈ Region.ready .any _ _, j = 5 ∨ j = 6 ∨ j = 10) i hi; omega
   clear hi hmi
   refine wpOp_step (i := 10) rfl fun K hK => yes ?_
   refine wp_store_row 25 (.tmp 3) (.tmp 26) rfl n3 cc.cells.toArray (by simp [Act.eval]) (by simp [Act.eval]) 25 _ m3 (size25 cc HLS.out) (by rw [List.size_toArray, List.size_toArray, cells_len _ HLS.out, cells_len _ c00_len]) (one_c cc) ?_
   refine hK _ _ ?_
   clear hK K
   (try simp only [Act.put, List.setIfInBounds_toArray, List.set_cons_zero, List.set_cons_succ])
   first | change wpAny _ _ _ _ 4 _ _ _ | change wpAny _ _ _ _ 3 _ _ _ | change wpAny _ _ _ _ 2 _ _ _
   repeat' first
    | (refine wpAny_done (by decide +kernel) ?_ _; (try simp only [Act.put, List.setIfInBounds_toArray, List.set_cons_zero, List.set_cons_succ]); go_wp2; go_meet; exact ⟨n3, n4, n5, rfl, rfl, rfl, FF.2.2⟩)
    | ((first
      | (refine ready1 12 (hr := by decide +kernel) fun K hK => yes ?_; refine wp_store_row 40 (.tmp 5) (.tmp 28) rfl n5 (evA ⟨kd, cd, at_, fk, fa⟩) (by simp [Act.eval]) (by simp [Act.eval, evA]) 40 _ FF.2.1 info40 rfl (by simp [evA, Value.oneCell']) ?_)
      | (refine ready1 11 (hr := by decide +kernel) fun K hK => yes ?_; refine wp_store_row 33 (.tmp 4) (.tmp 27) rfl n4 #[.slice y1 y2 y3, .slice y4 y5 y6, .int .u64 M0.bs, .slice y7 y8 y9] (by simp [Act.eval]) (by simp [Act.eval]) 33 _ FF.1 info33 rfl (by simp [Value.oneCell']) ?_)
      | (refine ready1 5 (hr := by decide +kernel) fun K hK => yes ?_; simp [go_sem])
      | (refine ready1 6 (hr := by decide +kernel) fun K hK => yes ?_; simp [go_sem])
      | (refine ready2 5 6 (hr := by decide +kernel) (fun K hK => yes ?_) (fun K hK => yes ?_) <;> simp [go_sem])
      | (refine ready2 6 11 (hr := by decide +kernel) (fun K hK => yes ?_) (fun K hK => yes ?_); simp [go_sem]; rotate_left; refine wp_store_row 33 (.tmp 4) (.tmp 27) rfl n4 #[.slice y1 y2 y3, .slice y4 y5 y6, .int .u64 M0.bs, .slice y7 y8 y9] (by simp [Act.eval]) (by simp [Act.eval]) 33 _ FF.1 info33 rfl (by simp [Value.oneCell']) ?_))
     <;> (refine hK _ _ ?_; clear hK K; (try simp only [Act.put, List.setIfInBounds_toArray, List.set_cons_zero, List.set_cons_succ])))
 case rest =>
  obtain ⟨A3, A4, A5, rfl, rfl, rfl, hR, hB⟩ := hcut
  obtain ⟨Y3, hY3⟩ : ∃ z, z = wc := ⟨_, rfl⟩
  rw [<- hY3] at hR hB |-
  have H3 : Hid (∀ w', Below Y3.heap.size Y3 w' -> RUN1 A3 A4 A5 w') := fun w' h => run1 (hR.keep h) HSR3.out
  have GX3 : Hid (G12 0 Y3 a n p a' n' p' csB t1 t2 t3) := GX.out.keep hB
  have KX3 : Hid (Hk w1.heap.size [.slice a n p, .slice t1 t2 t3, .int .u64 0, .slice a' n' p'] 33 Y3) := KX.out.keep hB
  have BX3 : Hid (Below w.heap.size w Y3) := below_tr BX.out hB
  clear c0 c1 c2 c3 d0 d1 d2 d3 x0 x1 x2 x3 hX1 hX2 hX4 GX KX BX hR hB hY3 HSR3 KN KS HLS
  obtain ⟨c0, c1, c2, c3⟩ := KX3.out.four
  go_wp2_with fail
  have KN : Hid (∀ wx, Calls Tryz.prog 19 #[.int .u32 4100, .int .u32 0] wx fun e w' => e = .returned (.agg (nwC 4100).cells.toArray) /\ Below wx.heap.size wx w') := fun wx => new19 4100 (by decide) wx
  have KS : Hid (∀ wx, Below Y3.heap.size Y3 wx -> Calls Tryz.prog 9 #[.agg (nwC 4100).cells.toArray, .agg #[.slice a n p, .slice t1 t2 t3, .int .u64 0, .slice a' n' p']] wx fun e w' => Below wx.heap.size wx w' /\ ∃ v, e = .returned v /\ StT M0 (stepR M0 (nwC 4100) csB).2.1 (stepR M0 (nwC 4100) csB).2.2 (stepR M0 (nwC 4100) csB).1.val v w') := fun wx hx => by
   have gX := GX3.out.keep hx
   refine (step9 M0 (nwC 4100) csB (.slice a n p) (.slice t1 t2 t3) (.slice a' n' p') wx (nwC_ok 4100 (by decide)) ⟨Gm.own_sl gX.1, Gm.own_sl gX.2.1, Gm.Pg.own_sl gX.2.2⟩ good0 (HT.out.keep (below_tr BX3.out hx))).mono ?_
   rintro e w' ⟨hb, g', rfl, o⟩
   obtain ⟨⟨x1, x2, x3, e1⟩, ⟨x4, x5, x6, e2⟩, ⟨x7, x8, x9, e3⟩⟩ := own_shapes o
   rw [e1, e2, e3] at o |-
   exact ⟨hb, _, rfl, x1, x2, x3, x4, x5, x6, x7, x8, x9, rfl, o⟩
  have HLS : Hid ((stepR M0 (nwC 4100) csB).2.1.r.length = 32) := step_len (nwC_ok 4100 (by decide))
  obtain ⟨SR, hSR⟩ : ∃ z, stepR M0 (nwC 4100) csB = z := ⟨_, rfl⟩
  rw [hSR] at KS HLS
  obtain ⟨⟨kd, cd, at_, fk, fa⟩, cc, cs2⟩ := SR
  simp only [Ev.val] at KS HLS
  have HSR4 : Hid (stepR M0 (nwC 4100) csB = (⟨kd, cd, at_, fk, fa⟩, cc, cs2)) := hSR
  generalize (nwC 4100).cells.toArray = CA at KN KS
  clear hSR
  go_cut [6, 7, 8] from 29 to 35 (fun v3 v4 v5 wx => ∃ n3 n4 n5, v3 = .pointer (some ⟨n3, 0, none⟩) /\ v4 = .pointer (some ⟨n4, 0, none⟩) /\ v5 = .pointer (some ⟨n5, 0, none⟩) /\ RunS M0 cc cs2 ⟨kd, cd, at_, fk, fa⟩ n3 n4 n5 wx /\ Below Y3.heap.size Y3 wx)
  case first =>
   refine wp_region_lates (R := Ext) [⟨30, fun v _ => v = .agg CA, fun _ _ _ _ h => h⟩, ⟨31, fun v _ => v = .agg #[.slice a n p, .slice t1 t2 t3, .int .u64 0, .slice a' n' p'], fun _ _ _ _ h => h⟩, ⟨32, StT M0 cc cs2 (.agg #[.int .i64 kd, .int .u32 cd, .int .u32 at_, .int .i64 fk, .int .u64 fa]), fun _ _ _ hb h => h.keep hb⟩, ⟨29, StT M0 cc cs2 (.agg #[.int .i64 kd, .int .u32 cd, .int .u32 at_, .int .i64 fk, .int .u64 fa]), fun _ _ _ hb h => h.keep hb⟩, ⟨33, fun v _ => v = .agg cc.cells.toArray, fun _ _ _ _ h => h⟩, ⟨34, FrS M0 cs2, fun _ _ _ hb h => h.keep hb⟩, ⟨35, fun v _ => v = .agg #[.int .i64 kd, .int .u32 cd, .int .u32 at_, .int .i64 fk, .int .u64 fa], fun _ _ _ _ h => h⟩, ⟨6, N25 Y3.heap.size, fun _ _ _ hb h => h.keep hb⟩, ⟨7, N33 Y3.heap.size, fun _ _ _ hb h => h.keep hb⟩, ⟨8, N40 Y3.heap.size, fun _ _ _ hb h => h.keep hb⟩] _ 10 [5, 6] (by kernel_rfl) rfl (by kernel_rfl) (by decide) (by kernel_rfl) (Below.drew (Below.refl _ _)) (fun _ _ _ h1 h2 => below_tr h1 h2) (fun QQ => ⟨?_, ?_, ?_, ?_, ?_, ?_, ?_, ?_, ?_, ?_, trivial⟩) (fun listed f wy hls h1 h2 hR hf A hA i hi hmi => ?_)
   ·intro A wx hR hout hdep K hK
    refine yes ?_
    simp [go_sem]
    refine (KN.out wx).mono ?_
    rintro e wG ⟨rfl, hbG⟩
    exact hK.out _ _ hbG rfl
   ·intro A wx hR hout hdep K hK
    have h1 : _ = Value.pointer (some ⟨w1.heap.size, 0, none⟩) := hout 1 (by kernel_rfl)
    refine yes ?_
    have c0 := keep_cell hR c0
    have c1 := keep_cell hR c1
    have c2 := keep_cell hR c2
    have c3 := keep_cell hR c3
    simp [go_sem, h1, c0, c1, c2, c3]
    exact hK.out _ _ (Below.refl _ _) rfl
   ·intro A wx hR hout hdep K hK
    have h30 : _ = Value.agg CA := hdep 30 (by kernel_rfl)
    have h31 : _ = Value.agg #[.slice a n p, .slice t1 t2 t3, .int .u64 0, .slice a' n' p'] := hdep 31 (by kernel_rfl)
    refine yes ?_
    simp [go_sem, h30, h31]
    refine (KS.out wx hR).mono ?_
    rintro e wG ⟨hbG, v, rfl, ho⟩
    exact hK.out _ _ hbG ho
   ·intro A wx hR hout hdep K hK
    refine yes ?_
    obtain ⟨y1, y2, y3, y4, y5, y6, y7, y8, y9, h32, o⟩ := hdep 32 (by kernel_rfl)
    simp [go_sem, h32]
    exact hK.out _ _ (Below.refl _ _) ⟨y1, y2, y3, y4, y5, y6, y7, y8, y9, rfl, o⟩
   ·intro A wx hR hout hdep K hK
    refine yes ?_
    obtain ⟨y1, y2, y3, y4, y5, y6, y7, y8, y9, h29, o⟩ := hdep 29 (by kernel_rfl)
    simp [go_sem, h29]
    exact hK.out _ _ (Below.refl _ _) rfl
   ·intro A wx hR hout hdep K hK
    refine yes ?_
    obtain ⟨y1, y2, y3, y4, y5, y6, y7, y8, y9, h29, o⟩ := hdep 29 (by kernel_rfl)
    simp [go_sem, h29]
    exact hK.out _ _ (Below.refl _ _) ⟨y1, y2, y3, y4, y5, y6, y7, y8, y9, rfl, o⟩
   ·intro A wx hR hout hdep K hK
    refine yes ?_
    obtain ⟨y1, y2, y3, y4, y5, y6, y7, y8, y9, h29, o⟩ := hdep 29 (by kernel_rfl)
    simp [go_sem, h29]
    exact hK.out _ _ (Below.refl _ _) rfl
   ·intro A wx hR hout hdep K hK
    refine yes ?_
    simp [go_sem]
    exact hK.out _ _ ((Below.refl _ _).alloc (Nat.le_refl _) _) ⟨_, rfl, hR.size, heap_alloc_new _ _⟩
   ·intro A wx hR hout hdep K hK
    refine yes ?_
    simp [go_sem]
    exact hK.out _ _ ((Below.refl _ _).alloc (Nat.le_refl _) _) ⟨_, rfl, hR.size, heap_alloc_new _ _⟩
   ·intro A wx hR hout hdep K hK
    refine yes ?_
    simp [go_sem]
    exact hK.out _ _ ((Below.refl _ _).alloc (Nat.le_refl _) _) ⟨_, rfl, hR.size, heap_alloc_new _ _⟩
   obtain ⟨ll⟩ := listed
   match ll, hls with
   | [x0, x1, x2, x3, x4, x5, x6, x7, x8, x9, x10, x11, x12], _ =>
   obtain rfl : x0 = true := h1 0 (by decide) (by decide)
   obtain rfl : x1 = true := h1 1 (by decide) (by decide)
   obtain rfl : x2 = true := h1 2 (by decide) (by decide)
   obtain rfl : x3 = true := h1 3 (by decide) (by decide)
   obtain rfl : x4 = true := h1 4 (by decide) (by decide)
   obtain rfl : x7 = true := h1 7 (by decide) (by decide)
   obtain rfl : x8 = true := h1 8 (by decide) (by decide)
   obtain rfl : x9 = true := h1 9 (by decide) (by decide)
   obtain rfl : x10 = false := h2 10 (by decide) (by decide)
   obtain rfl : x11 = false := h2 11 (by decide) (by decide)
   obtain rfl : x12 = false := h2 12 (by decide) (by decide)
   have h30 : f 30 = .agg CA := hf 0 30 (by decide) rfl rfl
   have h31 : f 31 = .agg #[.slice a n p, .slice t1 t2 t3, .int .u64 0, .slice a' n' p'] := hf 1 31 (by decide) rfl rfl
   obtain ⟨i1, i2, i3, i4, i5, i6, i7, i8, i9, h32, _⟩ : StT M0 cc cs2 (.agg #[.int .i64 kd, .int .u32 cd, .int .u32 at_, .int .i64 fk, .int .u64 fa]) (f 32) wy := hf 2 32 (by decide) rfl rfl
   have H22 : StT M0 cc cs2 (.agg #[.int .i64 kd, .int .u32 cd, .int .u32 at_, .int .i64 fk, .int .u64 fa]) (f 29) wy := hf 3 29 (by decide) rfl rfl
   have h33 : f 33 = .agg cc.cells.toArray := hf 4 33 (by decide) rfl rfl
   obtain ⟨n3, h6, l3, m3⟩ : N25 Y3.heap.size (f 6) wy := hf 7 6 (by decide) rfl rfl
   obtain ⟨n4, h7, l4, m4⟩ : N33 Y3.heap.size (f 7) wy := hf 8 7 (by decide) rfl rfl
   obtain ⟨n5, h8, l5, m5⟩ : N40 Y3.heap.size (f 8) wy := hf 9 8 (by decide) rfl rfl
   cases x5
   obtain ⟨y1, y2, y3, y4, y5, y6, y7, y8, y9, h29, oy⟩ := H22
   have h34 := h30
   rotate_left
   obtain ⟨_, _, _, _, _, _, _, _, _, h29, _⟩ := H22
   obtain ⟨y1, y2, y3, y4, y5, y6, y7, y8, y9, h34, oy⟩ : FrS M0 cs2 (f 34) wy := hf 5 34 (by decide) rfl rfl
   all_goals cases x6
   all_goals first | have h35 : f 35 = .agg #[.int .i64 kd, .int .u32 cd, .int .u32 at_, .int .i64 fk, .int .u64 fa] := hf 6 35 (by decide) rfl rfl | have h35 := h30
   all_goals
    have FF := run_fin (c := cc) (ev := ⟨kd, cd, at_, fk, fa⟩) m3 m4 m5 oy hR l3 l4 l5
    simp only [putSl, List.take_succ_cons, List.take_zero, Act.put, List.setIfInBounds_toArray, List.set_cons_zero, List.set_cons_succ, h30, h31, h32, h29, h33, h6, h7, h8, h34, h35] at hA
    subst hA
    obtain rfl : i = 10 := by have := (by decide +kernel : ∀ j ∈ Region.ready .any _ _, j = 5 ∨ j = 6 ∨ j = 10) i hi; omega
    clear hi hmi
    refine wpOp_step (i := 10) rfl fun K hK => yes ?_
    refine wp_store_row 25 (.tmp 6) (.tmp 33) rfl n3 cc.cells.toArray (by simp [Act.eval]) (by simp [Act.eval]) 25 _ m3 (size25 cc HLS.out) (by rw [List.size_toArray, List.size_toArray, cells_len _ HLS.out, cells_len _ c00_len]) (one_c cc) ?_
    refine hK _ _ ?_
    clear hK K
    (try simp only [Act.put, List.setIfInBounds_toArray, List.set_cons_zero, List.set_cons_succ])
    first | change wpAny _ _ _ _ 4 _ _ _ | change wpAny _ _ _ _ 3 _ _ _ | change wpAny _ _ _ _ 2 _ _ _
    repeat' first
     | (refine wpAny_done (by decide +kernel) ?_ _; (try simp only [Act.put, List.setIfInBounds_toArray, List.set_cons_zero, List.set_cons_succ]); go_wp2; go_meet; exact ⟨n3, n4, n5, rfl, rfl, rfl, FF.2.2⟩)
     | ((first
       | (refine ready1 12 (hr := by decide +kernel) fun K hK => yes ?_; refine wp_store_row 40 (.tmp 8) (.tmp 35) rfl n5 (evA ⟨kd, cd, at_, fk, fa⟩) (by simp [Act.eval]) (by simp [Act.eval, evA]) 40 _ FF.2.1 info40 rfl (by simp [evA, Value.oneCell']) ?_)
       | (refine ready1 11 (hr := by decide +kernel) fun K hK => yes ?_; refine wp_store_row 33 (.tmp 7) (.tmp 34) rfl n4 #[.slice y1 y2 y3, .slice y4 y5 y6, .int .u64 M0.bs, .slice y7 y8 y9] (by simp [Act.eval]) (by simp [Act.eval]) 33 _ FF.1 info33 rfl (by simp [Value.oneCell']) ?_)
       | (refine ready1 5 (hr := by decide +kernel) fun K hK => yes ?_; simp [go_sem])
       | (refine ready1 6 (hr := by decide +kernel) fun K hK => yes ?_; simp [go_sem])
       | (refine ready2 5 6 (hr := by decide +kernel) (fun K hK => yes ?_) (fun K hK => yes ?_) <;> simp [go_sem])
       | (refine ready2 6 11 (hr := by decide +kernel) (fun K hK => yes ?_) (fun K hK => yes ?_); simp [go_sem]; rotate_left; refine wp_store_row 33 (.tmp 7) (.tmp 34) rfl n4 #[.slice y1 y2 y3, .slice y4 y5 y6, .int .u64 M0.bs, .slice y7 y8 y9] (by simp [Act.eval]) (by simp [Act.eval]) 33 _ FF.1 info33 rfl (by simp [Value.oneCell']) ?_))
      <;> (refine hK _ _ ?_; clear hK K; (try simp only [Act.put, List.setIfInBounds_toArray, List.set_cons_zero, List.set_cons_succ])))
  case rest =>
   obtain ⟨D3, D4, D5, rfl, rfl, rfl, hR, hB⟩ := hcut
   obtain ⟨Y4, hY4⟩ : ∃ z, z = wc := ⟨_, rfl⟩
   rw [<- hY4] at hR hB |-
   have H4 : Hid (∀ w', Below Y4.heap.size Y4 w' -> RUN2 D3 D5 w') := fun w' h => run2 (hR.keep h) HSR4.out HLS.out
   have H3' : Hid (∀ w', Below Y4.heap.size Y4 w' -> RUN1 A3 A4 A5 w') := fun w' h => H3.out w' (below_tr hB h)
   have GX4 : Hid (G12 0 Y4 a n p a' n' p' csB t1 t2 t3) := GX3.out.keep hB
   have KX4 : Hid (Hk w1.heap.size [.slice a n p, .slice t1 t2 t3, .int .u64 0, .slice a' n' p'] 33 Y4) := KX3.out.keep hB
   have BX4 : Hid (Below w.heap.size w Y4) := below_tr BX3.out hB
   clear c0 c1 c2 c3 GX3 KX3 BX3 hR hB hY4 HSR4 KN KS HLS H3
   obtain ⟨c0, c1, c2, c3⟩ := KX4.out.four
   go_wp2_with fail
   have KN : Hid (∀ wx, Calls Tryz.prog 19 #[.int .u32 4104, .int .u32 0] wx fun e w' => e = .returned (.agg (nwC 4104).cells.toArray) /\ Below wx.heap.size wx w') := fun wx => new19 4104 (by decide) wx
   have KS : Hid (∀ wx, Below Y4.heap.size Y4 wx -> Calls Tryz.prog 9 #[.agg (nwC 4104).cells.toArray, .agg #[.slice a n p, .slice t1 t2 t3, .int .u64 0, .slice a' n' p']] wx fun e w' => Below wx.heap.size wx w' /\ ∃ v, e = .returned v /\ StT M0 (stepR M0 (nwC 4104) csB).2.1 (stepR M0 (nwC 4104) csB).2.2 (stepR M0 (nwC 4104) csB).1.val v w') := fun wx hx => by
    have gX := GX4.out.keep hx
    refine (step9 M0 (nwC 4104) csB (.slice a n p) (.slice t1 t2 t3) (.slice a' n' p') wx (nwC_ok 4104 (by decide)) ⟨Gm.own_sl gX.1, Gm.own_sl gX.2.1, Gm.Pg.own_sl gX.2.2⟩ good0 (HT.out.keep (below_tr BX4.out hx))).mono ?_
    rintro e w' ⟨hb, g', rfl, o⟩
    obtain ⟨⟨x1, x2, x3, e1⟩, ⟨x4, x5, x6, e2⟩, ⟨x7, x8, x9, e3⟩⟩ := own_shapes o
    rw [e1, e2, e3] at o |-
    exact ⟨hb, _, rfl, x1, x2, x3, x4, x5, x6, x7, x8, x9, rfl, o⟩
   have HLS : Hid ((stepR M0 (nwC 4104) csB).2.1.r.length = 32) := step_len (nwC_ok 4104 (by decide))
   obtain ⟨SR, hSR⟩ : ∃ z, stepR M0 (nwC 4104) csB = z := ⟨_, rfl⟩
   rw [hSR] at KS HLS
   obtain ⟨⟨kd, cd, at_, fk, fa⟩, cc, cs2⟩ := SR
   simp only [Ev.val] at KS HLS
   have HSR5 : Hid (stepR M0 (nwC 4104) csB = (⟨kd, cd, at_, fk, fa⟩, cc, cs2)) := hSR
   generalize (nwC 4104).cells.toArray = CA at KN KS
   clear hSR
   go_cut [9, 10, 11] from 36 to 42 (fun v3 v4 v5 wx => ∃ n3 n4 n5, v3 = .pointer (some ⟨n3, 0, none⟩) /\ v4 = .pointer (some ⟨n4, 0, none⟩) /\ v5 = .pointer (some ⟨n5, 0, none⟩) /\ RunS M0 cc cs2 ⟨kd, cd, at_, fk, fa⟩ n3 n4 n5 wx /\ Below Y4.heap.size Y4 wx)
   case first =>
    refine wp_region_lates (R := Ext) [⟨37, fun v _ => v = .agg CA, fun _ _ _ _ h => h⟩, ⟨38, fun v _ => v = .agg #[.slice a n p, .slice t1 t2 t3, .int .u64 0, .slice a' n' p'], fun _ _ _ _ h => h⟩, ⟨39, StT M0 cc cs2 (.agg #[.int .i64 kd, .int .u32 cd, .int .u32 at_, .int .i64 fk, .int .u64 fa]), fun _ _ _ hb h => h.keep hb⟩, ⟨36, StT M0 cc cs2 (.agg #[.int .i64 kd, .int .u32 cd, .int .u32 at_, .int .i64 fk, .int .u64 fa]), fun _ _ _ hb h => h.keep hb⟩, ⟨40, fun v _ => v = .agg cc.cells.toArray, fun _ _ _ _ h => h⟩, ⟨41, FrS M0 cs2, fun _ _ _ hb h => h.keep hb⟩, ⟨42, fun v _ => v = .agg #[.int .i64 kd, .int .u32 cd, .int .u32 at_, .int .i64 fk, .int .u64 fa], fun _ _ _ _ h => h⟩, ⟨9, N25 Y4.heap.size, fun _ _ _ hb h => h.keep hb⟩, ⟨10, N33 Y4.heap.size, fun _ _ _ hb h => h.keep hb⟩, ⟨11, N40 Y4.heap.size, fun _ _ _ hb h => h.keep hb⟩] _ 10 [5, 6] (by kernel_rfl) rfl (by kernel_rfl) (by decide) (by kernel_rfl) (Below.drew (Below.refl _ _)) (fun _ _ _ h1 h2 => below_tr h1 h2) (fun QQ => ⟨?_, ?_, ?_, ?_, ?_, ?_, ?_, ?_, ?_, ?_, trivial⟩) (fun listed f wy hls h1 h2 hR hf A hA i hi hmi => ?_)
    ·intro A wx hR hout hdep K hK
     refine yes ?_
     simp [go_sem]
     refine (KN.out wx).mono ?_
     rintro e wG ⟨rfl, hbG⟩
     exact hK.out _ _ hbG rfl
    ·intro A wx hR hout hdep K hK
     have h1 : _ = Value.pointer (some ⟨w1.heap.size, 0, none⟩) := hout 1 (by kernel_rfl)
     refine yes ?_
     have c0 := keep_cell hR c0
     have c1 := keep_cell hR c1
     have c2 := keep_cell hR c2
     have c3 := keep_cell hR c3
     simp [go_sem, h1, c0, c1, c2, c3]
     exact hK.out _ _ (Below.refl _ _) rfl
    ·intro A wx hR hout hdep K hK
     have h37 : _ = Value.agg CA := hdep 37 (by kernel_rfl)
     have h38 : _ = Value.agg #[.slice a n p, .slice t1 t2 t3, .int .u64 0, .slice a' n' p'] := hdep 38 (by kernel_rfl)
     refine yes ?_
     simp [go_sem, h37, h38]
     refine (KS.out wx hR).mono ?_
     rintro e wG ⟨hbG, v, rfl, ho⟩
     exact hK.out _ _ hbG ho
    ·intro A wx hR hout hdep K hK
     refine yes ?_
     obtain ⟨y1, y2, y3, y4, y5, y6, y7, y8, y9, h39, o⟩ := hdep 39 (by kernel_rfl)
     simp [go_sem, h39]
     exact hK.out _ _ (Below.refl _ _) ⟨y1, y2, y3, y4, y5, y6, y7, y8, y9, rfl, o⟩
    ·intro A wx hR hout hdep K hK
     refine yes ?_
     obtain ⟨y1, y2, y3, y4, y5, y6, y7, y8, y9, h36, o⟩ := hdep 36 (by kernel_rfl)
     simp [go_sem, h36]
     exact hK.out _ _ (Below.refl _ _) rfl
    ·intro A wx hR hout hdep K hK
     refine yes ?_
     obtain ⟨y1, y2, y3, y4, y5, y6, y7, y8, y9, h36, o⟩ := hdep 36 (by kernel_rfl)
     simp [go_sem, h36]
     exact hK.out _ _ (Below.refl _ _) ⟨y1, y2, y3, y4, y5, y6, y7, y8, y9, rfl, o⟩
    ·intro A wx hR hout hdep K hK
     refine yes ?_
     obtain ⟨y1, y2, y3, y4, y5, y6, y7, y8, y9, h36, o⟩ := hdep 36 (by kernel_rfl)
     simp [go_sem, h36]
     exact hK.out _ _ (Below.refl _ _) rfl
    ·intro A wx hR hout hdep K hK
     refine yes ?_
     simp [go_sem]
     exact hK.out _ _ ((Below.refl _ _).alloc (Nat.le_refl _) _) ⟨_, rfl, hR.size, heap_alloc_new _ _⟩
    ·intro A wx hR hout hdep K hK
     refine yes ?_
     simp [go_sem]
     exact hK.out _ _ ((Below.refl _ _).alloc (Nat.le_refl _) _) ⟨_, rfl, hR.size, heap_alloc_new _ _⟩
    ·intro A wx hR hout hdep K hK
     refine yes ?_
     simp [go_sem]
     exact hK.out _ _ ((Below.refl _ _).alloc (Nat.le_refl _) _) ⟨_, rfl, hR.size, heap_alloc_new _ _⟩
    obtain ⟨ll⟩ := listed
    match ll, hls with
    | [x0, x1, x2, x3, x4, x5, x6, x7, x8, x9, x10, x11, x12], _ =>
    obtain rfl : x0 = true := h1 0 (by decide) (by decide)
    obtain rfl : x1 = true := h1 1 (by decide) (by decide)
    obtain rfl : x2 = true := h1 2 (by decide) (by decide)
    obtain rfl : x3 = true := h1 3 (by decide) (by decide)
    obtain rfl : x4 = true := h1 4 (by decide) (by decide)
    obtain rfl : x7 = true := h1 7 (by decide) (by decide)
    obtain rfl : x8 = true := h1 8 (by decide) (by decide)
    obtain rfl : x9 = true := h1 9 (by decide) (by decide)
    obtain rfl : x10 = false := h2 10 (by decide) (by decide)
    obtain rfl : x11 = false := h2 11 (by decide) (by decide)
    obtain rfl : x12 = false := h2 12 (by decide) (by decide)
    have h37 : f 37 = .agg CA := hf 0 37 (by decide) rfl rfl
    have h38 : f 38 = .agg #[.slice a n p, .slice t1 t2 t3, .int .u64 0, .slice a' n' p'] := hf 1 38 (by decide) rfl rfl
    obtain ⟨i1, i2, i3, i4, i5, i6, i7, i8, i9, h39, _⟩ : StT M0 cc cs2 (.agg #[.int .i64 kd, .int .u32 cd, .int .u32 at_, .int .i64 fk, .int .u64 fa]) (f 39) wy := hf 2 39 (by decide) rfl rfl
    have H22 : StT M0 cc cs2 (.agg #[.int .i64 kd, .int .u32 cd, .int .u32 at_, .int .i64 fk, .int .u64 fa]) (f 36) wy := hf 3 36 (by decide) rfl rfl
    have h40 : f 40 = .agg cc.cells.toArray := hf 4 40 (by decide) rfl rfl
    obtain ⟨n3, h9, l3, m3⟩ : N25 Y4.heap.size (f 9) wy := hf 7 9 (by decide) rfl rfl
    obtain ⟨n4, h10, l4, m4⟩ : N33 Y4.heap.size (f 10) wy := hf 8 10 (by decide) rfl rfl
    obtain ⟨n5, h11, l5, m5⟩ : N40 Y4.heap.size (f 11) wy := hf 9 11 (by decide) rfl rfl
    cases x5
    obtain ⟨y1, y2, y3, y4, y5, y6, y7, y8, y9, h36, oy⟩ := H22
    have h41 := h37
    rotate_left
    obtain ⟨_, _, _, _, _, _, _, _, _, h36, _⟩ := H22
    obtain ⟨y1, y2, y3, y4, y5, y6, y7, y8, y9, h41, oy⟩ : FrS M0 cs2 (f 41) wy := hf 5 41 (by decide) rfl rfl
    all_goals cases x6
    all_goals first | have h42 : f 42 = .agg #[.int .i64 kd, .int .u32 cd, .int .u32 at_, .int .i64 fk, .int .u64 fa] := hf 6 42 (by decide) rfl rfl | have h42 := h37
    all_goals
     have FF := run_fin (c := cc) (ev := ⟨kd, cd, at_, fk, fa⟩) m3 m4 m5 oy hR l3 l4 l5
     simp only [putSl, List.take_succ_cons, List.take_zero, Act.put, List.setIfInBounds_toArray, List.set_cons_zero, List.set_cons_succ, h37, h38, h39, h36, h40, h9, h10, h11, h41, h42] at hA
     subst hA
     obtain rfl : i = 10 := by have := (by decide +kernel : ∀ j ∈ Region.ready .any _ _, j = 5 ∨ j = 6 ∨ j = 10) i hi; omega
     clear hi hmi
     refine wpOp_step (i := 10) rfl fun K hK => yes ?_
     refine wp_store_row 25 (.tmp 9) (.tmp 40) rfl n3 cc.cells.toArray (by simp [Act.eval]) (by simp [Act.eval]) 25 _ m3 (size25 cc HLS.out) (by rw [List.size_toArray, List.size_toArray, cells_len _ HLS.out, cells_len _ c00_len]) (one_c cc) ?_
     refine hK _ _ ?_
     clear hK K
     (try simp only [Act.put, List.setIfInBounds_toArray, List.set_cons_zero, List.set_cons_succ])
     first | change wpAny _ _ _ _ 4 _ _ _ | change wpAny _ _ _ _ 3 _ _ _ | change wpAny _ _ _ _ 2 _ _ _
     repeat' first
      | (refine wpAny_done (by decide +kernel) ?_ _; (try simp only [Act.put, List.setIfInBounds_toArray, List.set_cons_zero, List.set_cons_succ]); go_wp2; go_meet; exact ⟨n3, n4, n5, rfl, rfl, rfl, FF.2.2⟩)
      | ((first
        | (refine ready1 12 (hr := by decide +kernel) fun K hK => yes ?_; refine wp_store_row 40 (.tmp 11) (.tmp 42) rfl n5 (evA ⟨kd, cd, at_, fk, fa⟩) (by simp [Act.eval]) (by simp [Act.eval, evA]) 40 _ FF.2.1 info40 rfl (by simp [evA, Value.oneCell']) ?_)
        | (refine ready1 11 (hr := by decide +kernel) fun K hK => yes ?_; refine wp_store_row 33 (.tmp 10) (.tmp 41) rfl n4 #[.slice y1 y2 y3, .slice y4 y5 y6, .int .u64 M0.bs, .slice y7 y8 y9] (by simp [Act.eval]) (by simp [Act.eval]) 33 _ FF.1 info33 rfl (by simp [Value.oneCell']) ?_)
        | (refine ready1 5 (hr := by decide +kernel) fun K hK => yes ?_; simp [go_sem])
        | (refine ready1 6 (hr := by decide +kernel) fun K hK => yes ?_; simp [go_sem])
        | (refine ready2 5 6 (hr := by decide +kernel) (fun K hK => yes ?_) (fun K hK => yes ?_) <;> simp [go_sem])
        | (refine ready2 6 11 (hr := by decide +kernel) (fun K hK => yes ?_) (fun K hK => yes ?_); simp [go_sem]; rotate_left; refine wp_store_row 33 (.tmp 10) (.tmp 41) rfl n4 #[.slice y1 y2 y3, .slice y4 y5 y6, .int .u64 M0.bs, .slice y7 y8 y9] (by simp [Act.eval]) (by simp [Act.eval]) 33 _ FF.1 info33 rfl (by simp [Value.oneCell']) ?_))
       <;> (refine hK _ _ ?_; clear hK K; (try simp only [Act.put, List.setIfInBounds_toArray, List.set_cons_zero, List.set_cons_succ])))
   case rest =>
    obtain ⟨F3, F4, F5, rfl, rfl, rfl, hR, hB⟩ := hcut
    obtain ⟨Y5, hY5⟩ : ∃ z, z = wc := ⟨_, rfl⟩
    rw [<- hY5] at hR hB |-
    have H5 : Hid (∀ w', Below Y5.heap.size Y5 w' -> RUN3 F5 w') := fun w' h => run3 (hR.keep h) HSR5.out
    obtain ⟨q1, q2, q3, y1, y2, y3, y4, y5, y6, y7, y8, y9, q4, oy⟩ := H3'.out Y5 hB
    obtain ⟨r1, r2, r3, r4⟩ := H4.out Y5 hB
    obtain ⟨e0, e1, e2, e3⟩ := q4.four
    have kX := KX4.out.keep hB
    have gX := GX4.out.keep hB
    have BX5 : Hid (Below w.heap.size w Y5) := below_tr BX4.out hB
    have H4' : Hid (∀ w', Below Y5.heap.size Y5 w' -> RUN2 D3 D5 w') := fun w' h => H4.out w' (below_tr hB h)
    have K10 := Gm.rsame13 (.slice a n p) (.slice t1 t2 t3) (.slice a' n' p') (.slice y1 y2 y3) (.slice y4 y5 y6) (.slice y7 y8 y9) [(0, 3)] csB [(1, 7)] [(0, 3)] csB [(1, 7)] 0 0 Y5 ⟨Gm.own_sl gX.1, Gm.own_sl gX.2.1, Gm.Pg.own_sl gX.2.2⟩ (own_slg oy)
    rw [show Gm.sameG [(0, 3)] csB [(1, 7)] 0 [(0, 3)] csB [(1, 7)] 0 = true by decide +kernel] at K10
    clear c0 c1 c2 c3
    obtain ⟨c0, c1, c2, c3⟩ := kX.four
    clear hR hB hY5 HSR5 KN KS HLS H3' H4 GX4 KX4 BX4 q4 oy kX gX
    go_wp2_with fail
    refine K10.mono ?_
    rintro e w6 ⟨rfl, hb6⟩
    obtain ⟨s1, s2, s3, s4, s5⟩ := H5.out w6 hb6
    obtain ⟨u1, u2, u3, u4⟩ := H4'.out w6 hb6
    have HE : Hid (Below w.heap.size w w6) := below_tr BX5.out hb6
    clear K10 hb6 H5 H4' BX5 c0 c1 c2 c3 e0 e1 e2 e3 q1 q2 q3 r1 r2 r3 r4
    go_wp2
    go_ret
    exact ⟨rfl, HE.out⟩
end Go.Proofs.YtimfipkbddpdmaaGreatDoor
