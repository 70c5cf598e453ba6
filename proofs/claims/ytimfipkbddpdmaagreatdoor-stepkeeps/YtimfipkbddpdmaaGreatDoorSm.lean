import Derived.Test.YtimfipkbddpdmaaGreatDoorMb
import Derived.Test.YtimfipkbddpdmaaGreatDoorMGpu
import Derived.Test.YtimfipkbddpdmaaGreatDoorMGld
import Derived.Test.YtimfipkbddpdmaaGreatDoorVals
set_option linter.unusedVariables false
set_option linter.unusedSimpArgs false
set_option maxRecDepth 100000
open Go Go.RowKit
namespace Go.Proofs.YtimfipkbddpdmaaGreatDoor
structure Mem where
 ms : List (Nat × Int)
 ps : List (Nat × Int)
 bs : Nat
structure MS (M : Mem) (c : Cp) (cs : List (Nat × Int)) (g : Gv) (b : Nat) (w : World) : Prop where
 m : Mb c g b w
 e : g.bs = M.bs
 d : Gm.OwnG 0 w g.vm g.vc g.vp M.ms cs M.ps
theorem MS.keep {M : Mem} {c : Cp} {cs : List (Nat × Int)} {g : Gv} {b : Nat} {w w' : World} (h : MS M c cs g b w) (hb : Below w.heap.size w w') : MS M c cs g b w' := ⟨h.m.keep hb, h.e, h.d.keep hb⟩
theorem own_slg {B : Nat} {w : World} {vm vc vp : Value} {ms cs ps : List (Nat × Int)} (h : Gm.OwnG B w vm vc vp ms cs ps) : Gm.SlG w vm vc vp ms cs ps := ⟨h.1.m, h.1.c, h.p⟩
theorem own_row {w w' : World} {B e r u n : Nat} {X : Array Value} {fr : Nat × Nat} {v : Value} {xs : List Value} (h : w.ownsRow B e 2 v n xs) (hr : w.heap[r]? = some (.cells X u fr)) (hu : u ≠ e) (hg : w.grownBy w' (some r)) : w'.ownsRow B e 2 v n xs := by
 refine ⟨h.1, ?_⟩
 rcases h.2 with h2 | ⟨q, cap, cur, rfl, hq, hgg, h3⟩
 ·exact .inl h2
 ·refine .inr ⟨q, cap, cur, rfl, hq, (hg.block q (Array.getElem?_eq_some_iff.1 hgg).1 ?_).trans hgg, h3⟩
  intro e'
  injection e' with e'
  subst e'
  rw [hr] at hgg
  injection hgg with hgg
  injection hgg with _ h5
  exact hu h5
theorem owng_row {w w' : World} {B r u : Nat} {X : Array Value} {fr : Nat × Nat} {vm vc vp : Value} {ms cs ps : List (Nat × Int)} (h : Gm.OwnG B w vm vc vp ms cs ps) (hr : w.heap[r]? = some (.cells X u fr)) (hu : u ≠ 86 /\ u ≠ 48 /\ u ≠ 45) (hg : w.grownBy w' (some r)) : Gm.OwnG B w' vm vc vp ms cs ps :=
 ⟨⟨own_row h.1.1 hr hu.1 hg, own_row h.1.2 hr hu.2.1 hg⟩, own_row h.2 hr hu.2.2 hg⟩
theorem MS.shapes {M : Mem} {c : Cp} {cs : List (Nat × Int)} {g : Gv} {b : Nat} {w : World} (h : MS M c cs g b w) : (∃ a n p, g.vm = .slice a n p) /\ (∃ a n p, g.vc = .slice a n p) /\ (∃ a n p, g.vp = .slice a n p) := by
 obtain ⟨a, n, p, a', n', p', a'', n'', p'', h1, h2, h3⟩ := (own_slg h.d).shape
 exact ⟨⟨_, _, _, h1⟩, ⟨_, _, _, h2⟩, ⟨_, _, _, h3⟩⟩
theorem MS.row {M : Mem} {c : Cp} {cs : List (Nat × Int)} {g : Gv} {b : Nat} {w w' : World} (h : MS M c cs g b w) (hl : c.r.length = 32) (hg : w.grownBy w' (some b)) : Gm.OwnG 0 w' g.vm g.vc g.vp M.ms cs M.ps := owng_row h.d h.m (by decide) hg
theorem MS.far {M : Mem} {c : Cp} {cs : List (Nat × Int)} {g : Gv} {b r u : Nat} {X : Array Value} {fr : Nat × Nat} {w w' : World} (h : MS M c cs g b w) (hr : w.heap[r]? = some (.cells X u fr)) (hu : u ≠ 86 /\ u ≠ 48 /\ u ≠ 45) (hn : b ≠ r) (hg : w.grownBy w' (some r)) : MS M c cs g b w' := ⟨h.m.row hg (by intro e; injection e with e; exact hn e), h.e, owng_row h.d hr hu hg⟩
structure Good (M : Mem) (cs : List (Nat × Int)) : Prop where
 f : Gm.FitG M.ms cs M.ps M.bs
 w : Gm.Words cs
theorem MS.gd {M : Mem} {c : Cp} {cs : List (Nat × Int)} {g : Gv} {b : Nat} {w : World} (h : MS M c cs g b w) (hg : Good M cs) : Gm.GdM w g.vm g.vc g.vp M.ms cs M.ps M.bs :=
 ⟨(own_slg h.d).1, (own_slg h.d).2.1, (own_slg h.d).2.2, hg.f.fq.2.2.1, hg.f.fq.2.2.2.1, hg.f.sp, by have := hg.f.fq.1; omega, by have := hg.f.fq.2.1; omega, by have := hg.f.lp; omega, hg.w, hg.f.le⟩
theorem MS.to {M : Mem} {c c' : Cp} {cs : List (Nat × Int)} {g : Gv} {b : Nat} {w w' : World} (h : MS M c cs g b w) (hl : c.r.length = 32) (hg : w.grownBy w' (some b)) (hm : Mb c' g b w') : MS M c' cs g b w' := ⟨hm, h.e, h.row hl hg⟩
theorem Mb.setG {c : Cp} {g : Gv} {b : Nat} {w : World} (h : Mb c g b w) (hl : c.r.length = 32) (vm vc vp : Value) (bs : Nat) : Mb c ⟨vm, vc, bs, vp⟩ b ((((w.setCell ⟨b, 39, none⟩ vm).setCell ⟨b, 40, none⟩ vc).setCell ⟨b, 41, none⟩ (.int .u64 bs)).setCell ⟨b, 42, none⟩ vp) := by
 have h1 : Mb c ⟨vm, g.vc, g.bs, g.vp⟩ b (w.setCell ⟨b, 39, none⟩ vm) := h.put 39 _ ((set_tail c g hl 7 _).trans rfl)
 have h2 : Mb c ⟨vm, vc, g.bs, g.vp⟩ b ((w.setCell ⟨b, 39, none⟩ vm).setCell ⟨b, 40, none⟩ vc) := h1.put 40 _ ((set_tail c _ hl 8 _).trans rfl)
 have h3 : Mb c ⟨vm, vc, bs, g.vp⟩ b (((w.setCell ⟨b, 39, none⟩ vm).setCell ⟨b, 40, none⟩ vc).setCell ⟨b, 41, none⟩ (.int .u64 bs)) := h2.put 41 _ ((set_tail c _ hl 9 _).trans rfl)
 exact h3.put 42 _ ((set_tail c _ hl 10 _).trans rfl)
theorem grown_set4 (w : World) (b : Nat) (x0 x1 x2 x3 : Value) : w.grownBy ((((w.setCell ⟨b, 39, none⟩ x0).setCell ⟨b, 40, none⟩ x1).setCell ⟨b, 41, none⟩ x2).setCell ⟨b, 42, none⟩ x3) (some b) :=
 gb_trans (gb_trans (gb_trans (grown_setk _ b 39 _) (grown_setk _ b 40 _)) (grown_setk _ b 41 _)) (grown_setk _ b 42 _)
def ffE (f : Int × Nat) : Ev := ⟨6, 0, 0, f.1, f.2⟩
def ldR (M : Mem) (cs : List (Nat × Int)) (a n : Nat) : Except Ev Nat :=
 if a % n = 0 then (if (Gm.ffN M.ps a n 1).1 = 0 then .ok (Gm.ldV M.ms cs M.ps M.bs a n % 4294967296) else .error (ffE (Gm.ffN M.ps a n 1))) else .error ⟨5, 0, a, 0, 0⟩
def Says (r : Except Ev Nat) (e : Ending) : Prop := match r with
 | .ok v => e = .returned (.int .u32 v)
 | .error ev => e = .panicked (thrownE ev)
theorem isW_of {n : Nat} (hn : n = 1 \/ n = 2 \/ n = 4) : Gm.isW (n : Int) = true := by rcases hn with rfl | rfl | rfl <;> decide
theorem boxF (w : World) (x y : Value) (t : Nat) : ∃ W, w.alloc (.cells #[x, y] t) = W /\ Below w.heap.size w W /\ W.heap.size = w.heap.size + 1 /\ W.cell? ⟨w.heap.size, 0, none⟩ = some x /\ W.cell? ⟨w.heap.size, 1, none⟩ = some y := by
 refine ⟨_, rfl, (Below.refl _ _).alloc (Nat.le_refl _) _, by simp, ?_, ?_⟩ <;> exact cell_newA w _ _ _ _ _ rfl rfl
theorem allowed72 (k : Int) (a : Nat) (w : World) : Calls Tryz.prog 72 #[.agg #[.int .i64 k, .int .u64 a]] w fun e w' => (e = if k = 0 then .returned (.tuple #[]) else .panicked (thrownE ⟨6, 0, 0, k, a⟩)) /\ Below w.heap.size w w' := by
 by_cases h : k = 0
 ·subst h; rw [if_pos rfl]; exact allowed72_ok a w
 ·rw [if_neg h]; exact allowed72_no k h a w
set_option maxHeartbeats 1000000 in
theorem load107 (M : Mem) (c : Cp) (cs : List (Nat × Int)) (g : Gv) (b a n : Nat) (w : World) (hc : c.Ok) (h : MS M c cs g b w) (hG : Good M cs) (ha : a < 4294967296) (hn : n = 1 \/ n = 2 \/ n = 4) :
  Calls Tryz.prog 107 #[.pointer (some ⟨b, 0, none⟩), .int .u32 a, .int .u32 n] w fun e w' => Says (ldR M cs a n) e /\ Below w.heap.size w w' := by
 have hn0 : n ≠ 0 := by omega
 by_cases h0 : a % n = 0
 ·have K1 := aligned70_ok a n hn0 h0 w
  have K2 := Gm.gload12 g.vm g.vc g.vp M.bs a (n : Int) M.ms cs M.ps w (h.gd hG) ha
  have e1 : Gm.ldF M.ps a (n : Int) = Gm.ffN M.ps a n 1 := by unfold Gm.ldF; rw [if_pos (isW_of hn)]; rfl
  rw [e1] at K2
  have HR : Hid (ldR M cs a n = if (Gm.ffN M.ps a n 1).1 = 0 then .ok (Gm.ldV M.ms cs M.ps M.bs a n % 4294967296) else .error (ffE (Gm.ffN M.ps a n 1))) := by show _ = _; unfold ldR; rw [if_pos h0]
  generalize ldR M cs a n = R at HR |-
  generalize Gm.ldV M.ms cs M.ps M.bs a n = V at HR K2
  generalize Gm.ffN M.ps a n 1 = ff at HR K2
  obtain ⟨kd, fa⟩ := ff
  simp only at HR K2
  obtain ⟨_, _, _, _, _, _, _, c39, c40, c41, c42⟩ := h.m.fields hc.len
  rw [h.e] at c41
  have K72 : Hid (∀ w, Calls Tryz.prog 72 #[.agg #[.int .i64 kd, .int .u64 fa]] w fun e w' => (e = if kd = 0 then .returned (.tuple #[]) else .panicked (thrownE ⟨6, 0, 0, kd, fa⟩)) /\ Below w.heap.size w w') := fun w => allowed72 kd fa w
  have hnI : (n : Int) < 9223372036854775808 := by omega
  obtain ⟨⟨am, nm, pm, em⟩, ⟨ac, nc, pc, ec⟩, ⟨ap, np, pp, ep⟩⟩ := h.shapes
  obtain ⟨VV, hVV⟩ : ∃ x, x = V % 4294967296 := ⟨_, rfl⟩
  have eV : (V : Int) % 4294967296 = (VV : Int) := by omega
  have eV2 : IntKind.u32.wrap (V : Int) = (VV : Int) := by rw [IntKind.wrap_u32]; exact eV
  rw [<- hVV] at HR
  rw [em] at c39 K2
  rw [ec] at c40 K2
  rw [ep] at c42 K2
  clear h hG hc hn e1 h0 em ec ep hVV
  go_enter Tryz.func107, Tryz.ntmps107
  go_wp2_with fail
  refine K1.mono ?_
  rintro e w1 ⟨rfl, rfl⟩
  go_wp2_with fail
  refine K2.mono ?_
  rintro e w2 ⟨rfl, hb2⟩
  obtain ⟨W3, hW3, hb3, hz3, q0, q1⟩ := boxF w2 (.int .i64 kd) (.int .u64 fa) 38
  have HB3 : Hid (Below w1.heap.size w1 W3) := below_tr hb2 hb3
  clear hb2 hb3 hz3 K1 K2 c39 c40 c41 c42
  go_wp2_with fail
  refine (K72.out W3).mono ?_
  rintro e w4 ⟨he, hb4⟩
  have HB4 : Hid (Below w1.heap.size w1 w4) := below_tr HB3.out hb4
  by_cases hk : kd = 0
  ·subst hk
   rw [if_pos rfl] at he HR
   subst he
   obtain rfl : R = .ok VV := HR.out
   clear hb4 HB3 K72 HR
   go_wp2
   go_ret
   exact ⟨rfl, HB4.out⟩
  ·rw [if_neg hk] at he HR
   subst he
   obtain rfl : R = .error (ffE (kd, fa)) := HR.out
   clear hb4 HB3 K72 HR
   go_wp2
   exact ⟨rfl, rfl, HB4.out⟩
 ·have K1 := aligned70_no a n hn0 h0 w
  have e : ldR M cs a n = .error ⟨5, 0, a, 0, 0⟩ := by unfold ldR; rw [if_neg h0]
  rw [e]
  unfold Says
  simp only
  clear e h hG hc
  go_enter Tryz.func107, Tryz.ntmps107
  go_wp2_with fail
  refine K1.mono ?_
  rintro e w1 ⟨rfl, rfl⟩
  go_wp2
  exact ⟨rfl, rfl, Below.refl _ _⟩
def Cp.unlink (c : Cp) (a : Nat) : Cp := { c with linked := if a / 4 = c.link / 4 then false else c.linked }
def stR (M : Mem) (c : Cp) (cs : List (Nat × Int)) (a n v : Nat) : Except Ev (Cp × List (Nat × Int)) :=
 if a % n = 0 then (if (Gm.ffN M.ps a n 2).1 = 0 then .ok (c.unlink a, Gm.chL cs M.ps M.bs a (Gm.W.putBeS v (n : Int)) 2) else .error (ffE (Gm.ffN M.ps a n 2))) else .error ⟨5, 0, a, 0, 0⟩
def Thrown (b : Nat) (w' : World) (ev : Ev) (e : Ending) : Prop := e = .panicked (thrownE ev) /\ ∃ c g, Mb c g b w' /\ c.r.length = 32
def Tells (M : Mem) (b : Nat) (w : World) (v : Value) (r : Except Ev (Cp × List (Nat × Int))) (e : Ending) (w' : World) : Prop := w.grownBy w' (some b) /\ match r with
 | .ok x => e = .returned v /\ ∃ g, MS M x.1 x.2 g b w'
 | .error ev => Thrown b w' ev e
theorem putBe_size (v n : Nat) (hn : n = 1 \/ n = 2 \/ n = 4) : (Gm.W.putBeS v (n : Int)).size = n := by
 unfold Gm.W.putBeS
 rw [if_pos (by omega)]
 show (Gm.W.leB v ((n : Int)).toNat).reverse.toArray.size = n
 rw [List.size_toArray, List.length_reverse, Gm.W.leB_length]; rfl
theorem box4F (w : World) (a b c d x y : Value) (t u : Nat) : ∃ W, (w.alloc (.cells #[a, b, c, d] t)).alloc (.cells #[x, y] u) = W /\ Below w.heap.size w W /\ W.heap.size = w.heap.size + 2 /\
  W.cell? ⟨w.heap.size, 0, none⟩ = some a /\ W.cell? ⟨w.heap.size, 1, none⟩ = some b /\ W.cell? ⟨w.heap.size, 2, none⟩ = some c /\ W.cell? ⟨w.heap.size, 3, none⟩ = some d := by
 refine ⟨_, rfl, ((Below.refl _ _).alloc (Nat.le_refl _) _).alloc (by simp) _, by simp, ?_, ?_, ?_, ?_⟩ <;> exact cell_old (cell_newA w _ _ _ _ _ rfl rfl) _
theorem cell4F (w : World) (a b c d x y : Value) (t u : Nat) : ((w.alloc (.cells #[a, b, c, d] t)).alloc (.cells #[x, y] u)).cell? ⟨w.heap.size + 1, 0, none⟩ = some x /\ ((w.alloc (.cells #[a, b, c, d] t)).alloc (.cells #[x, y] u)).cell? ⟨w.heap.size + 1, 1, none⟩ = some y := by
 have hz : w.heap.size + 1 = (w.alloc (.cells #[a, b, c, d] t)).heap.size := by simp
 exact ⟨cell_newA _ _ _ _ _ _ hz rfl, cell_newA _ _ _ _ _ _ hz rfl⟩
set_option maxHeartbeats 1000000 in
theorem store110 (M : Mem) (c : Cp) (cs : List (Nat × Int)) (g : Gv) (b a n v : Nat) (w : World) (hc : c.Ok) (h : MS M c cs g b w) (hG : Good M cs) (ha : a < 4294967296) (hv : v < 4294967296) (hn : n = 1 \/ n = 2 \/ n = 4) :
  Calls Tryz.prog 110 #[.pointer (some ⟨b, 0, none⟩), .int .u32 a, .int .u32 n, .int .u32 v] w (Tells M b w (.tuple #[]) (stR M c cs a n v)) := by
 have hn0 : n ≠ 0 := by omega
 by_cases h0 : a % n = 0
 ·have K1 := aligned70_ok a n hn0 h0 w
  have hsz := putBe_size v n hn
  have K2 := Gm.gstore22 g.vm g.vc g.vp M.bs a v (n : Int) M.ms cs M.ps w (h.gd hG) ha (by have := hG.f.al; omega) (fun y hy => (hG.f.fq.2.2.2.2.2 y hy).1) (by have := hG.f.fq.2.1; omega) (fun _ hf => Gm.fit_host hG.f ha (.inr rfl) hf)
  have e1 : Gm.stF M.ps a (n : Int) v = Gm.ffN M.ps a n 2 := by unfold Gm.stF; rw [if_pos (isW_of hn), hsz]
  have e2 : Gm.stC cs M.ps M.bs a (n : Int) v = Gm.chL cs M.ps M.bs a (Gm.W.putBeS v (n : Int)) 2 := by unfold Gm.stC; rw [if_pos (isW_of hn)]
  rw [e1, e2] at K2
  have HR : Hid (stR M c cs a n v = if (Gm.ffN M.ps a n 2).1 = 0 then .ok (c.unlink a, Gm.chL cs M.ps M.bs a (Gm.W.putBeS v (n : Int)) 2) else .error (ffE (Gm.ffN M.ps a n 2))) := by show _ = _; unfold stR; rw [if_pos h0]
  generalize stR M c cs a n v = R at HR |-
  generalize Gm.chL cs M.ps M.bs a (Gm.W.putBeS v (n : Int)) 2 = cs' at HR K2
  generalize Gm.ffN M.ps a n 2 = ff at HR K2
  obtain ⟨kd, fa⟩ := ff
  simp only at HR K2
  obtain ⟨_, _, _, _, _, _, _, c39, c40, c41, c42⟩ := h.m.fields hc.len
  rw [h.e] at c41
  have K72 : Hid (∀ w, Calls Tryz.prog 72 #[.agg #[.int .i64 kd, .int .u64 fa]] w fun e w' => (e = if kd = 0 then .returned (.tuple #[]) else .panicked (thrownE ⟨6, 0, 0, kd, fa⟩)) /\ Below w.heap.size w w') := fun w => allowed72 kd fa w
  have hnI : (n : Int) < 9223372036854775808 := by omega
  obtain ⟨⟨am, nm, pm, em⟩, ⟨ac, nc, pc, ec⟩, ⟨ap, np, pp, ep⟩⟩ := h.shapes
  rw [em] at c39 K2
  rw [ec] at c40 K2
  rw [ep] at c42 K2
  have HM : Hid (Mb c g b w /\ c.Ok /\ g.bs = M.bs) := ⟨h.m, hc, h.e⟩
  clear h hG hc hn e1 e2 h0 em ec ep hsz
  go_enter Tryz.func110, Tryz.ntmps110
  go_wp2_with fail
  refine K1.mono ?_
  rintro e w1 ⟨rfl, rfl⟩
  go_wp2_with fail
  refine K2.mono ?_
  rintro e w2 ⟨vm', vc', vp', rfl, hown, hb2⟩
  obtain ⟨a1, n1, p1, a2, n2, p2, a3, n3, p3, f1, f2, f3⟩ := (own_slg hown).shape
  subst f1 f2 f3
  have HO : Hid (Gm.OwnG w1.heap.size w2 (.slice a1 n1 p1) (.slice a2 n2 p2) (.slice a3 n3 p3) M.ms cs' M.ps /\ Below w1.heap.size w1 w2) := ⟨hown, hb2⟩
  clear hb2 K1 K2 c39 c40 c41 c42 hown
  obtain ⟨X, hX, hbX, hzX, x0, x1, x2, x3⟩ := box4F w2 (.slice a1 n1 p1) (.slice a2 n2 p2) (.int .u64 M.bs) (.slice a3 n3 p3) (.int .i64 kd) (.int .u64 fa) 33 38
  have q0 := cell4F w2 (.slice a1 n1 p1) (.slice a2 n2 p2) (.int .u64 M.bs) (.slice a3 n3 p3) (.int .i64 kd) (.int .u64 fa) 33 38
  rw [hX] at q0
  obtain ⟨y0, y1⟩ := q0
  have HX : Hid (Below w1.heap.size w1 X /\ Below w2.heap.size w2 X) := ⟨below_tr HO.out.2 hbX, hbX⟩
  clear hbX hzX
  go_wp2_with fail
  refine (K72.out X).mono ?_
  rintro e w4 ⟨he, hb4⟩
  have x0 := keep_cell hb4 x0
  have x1 := keep_cell hb4 x1
  have x2 := keep_cell hb4 x2
  have x3 := keep_cell hb4 x3
  have HB4 : Hid (Below w1.heap.size w1 w4 /\ Below w2.heap.size w2 w4) := ⟨below_tr HX.out.1 hb4, below_tr HX.out.2 hb4⟩
  by_cases hk : kd = 0
  ·subst hk
   rw [if_pos rfl] at he HR
   subst he
   obtain rfl : R = .ok (c.unlink a, cs') := HR.out
   have hm4 := HM.out.1.keep HB4.out.1
   have hl := HM.out.2.1.len
   obtain ⟨_, _, _, _, _, _, _, c39, c40, c41, c42⟩ := hm4.fields hl
   have z39 := hm4.frozen 39
   have z40 := hm4.frozen 40
   have z41 := hm4.frozen 41
   have z42 := hm4.frozen 42
   have hm5 := hm4.setG hl (.slice a1 n1 p1) (.slice a2 n2 p2) (.slice a3 n3 p3) M.bs
   have hg5 := grown_set4 w4 b (.slice a1 n1 p1) (.slice a2 n2 p2) (.int .u64 M.bs) (.slice a3 n3 p3)
   obtain ⟨W5, hW5⟩ : ∃ z, (((w4.setCell ⟨b, 39, none⟩ (.slice a1 n1 p1)).setCell ⟨b, 40, none⟩ (.slice a2 n2 p2)).setCell ⟨b, 41, none⟩ (.int .u64 M.bs)).setCell ⟨b, 42, none⟩ (.slice a3 n3 p3) = z := ⟨_, rfl⟩
   rw [hW5] at hm5 hg5
   obtain ⟨_, _, _, _, _, c37, c38, _, _, _, _⟩ := hm5.fields hl
   have z38 := hm5.frozen 38
   have hm6 := hm5.setLinked hl false
   have hg6 := grown_setk W5 b 38 (.bool false)
   have hlt := HM.out.1.lt
   have hG5 : w1.grownBy W5 (some b) := gb_trans (grown_of HB4.out.1) hg5
   have hO5 : Gm.OwnG w1.heap.size W5 (.slice a1 n1 p1) (.slice a2 n2 p2) (.slice a3 n3 p3) M.ms cs' M.ps := (HO.out.1.keep HB4.out.2).by hg5 hlt
   have H5 : Hid (w1.grownBy W5 (some b) /\ MS M c cs' ⟨.slice a1 n1 p1, .slice a2 n2 p2, M.bs, .slice a3 n3 p3⟩ b W5) := ⟨hG5, hm5, rfl, hO5.base (Nat.zero_le _)⟩
   have H6 : Hid (w1.grownBy (W5.setCell ⟨b, 38, none⟩ (.bool false)) (some b) /\ MS M { c with linked := false } cs' ⟨.slice a1 n1 p1, .slice a2 n2 p2, M.bs, .slice a3 n3 p3⟩ b (W5.setCell ⟨b, 38, none⟩ (.bool false))) := ⟨gb_trans hG5 hg6, hm6, rfl, (hO5.by hg6 hlt).base (Nat.zero_le _)⟩
   obtain ⟨A4, hA4⟩ : ∃ x, x = a / 4 := ⟨_, rfl⟩
   obtain ⟨L4, hL4⟩ : ∃ x, x = c.link / 4 := ⟨_, rfl⟩
   have eA : (a : Int) / 4 = (A4 : Int) := by omega
   have eL : (c.link : Int) / 4 = (L4 : Int) := by omega
   have eA2 : (a : Int).tdiv 4 = (A4 : Int) := by rw [<- eA]; exact Int.tdiv_eq_ediv_of_nonneg (by omega)
   have eL2 : (c.link : Int).tdiv 4 = (L4 : Int) := by rw [<- eL]; exact Int.tdiv_eq_ediv_of_nonneg (by omega)
   have eA3 : (A4 : Int) % 4294967296 = (A4 : Int) := by omega
   have eL3 : (L4 : Int) % 4294967296 = (L4 : Int) := by have := HM.out.2.1.link; omega
   by_cases hL : a / 4 = c.link / 4
   ·have eU : c.unlink a = { c with linked := false } := by unfold Cp.unlink; rw [if_pos hL]
    have EU : Hid (c.unlink a = { c with linked := false }) := eU
    have e4 : L4 = A4 := by rw [hA4, hL4, hL]
    subst e4
    generalize c.link = LK at c37 eL eL2
    clear hb4 HB4 K72 HR HM HO HX hm4 hm5 hm6 hg5 hg6 hG5 hO5 H5 hX hL eU hA4 hL4 ha hv hn0 hnI
    go_wp2
    simp [bodyPost, results, Tryz.results110]
    exact ⟨H6.out.1, rfl, _, by show MS M (c.unlink a) cs' _ b _; rw [EU.out]; exact H6.out.2⟩
   ·have eU : c.unlink a = c := by unfold Cp.unlink; rw [if_neg hL]
    have EU : Hid (c.unlink a = c) := eU
    have e4 : ¬ (A4 : Int) = (L4 : Int) := by omega
    have e5 : ((A4 : Int) == (L4 : Int)) = false := by simpa using e4
    have e6 : ¬ A4 = L4 := by omega
    generalize c.link = LK at c37 eL eL2
    clear hb4 HB4 K72 HR HM HO HX hm4 hm5 hm6 hg5 hg6 hG5 hO5 H6 hX hL eU hA4 hL4 ha hv hn0 hnI
    go_wp2
    simp [bodyPost, results, Tryz.results110]
    exact ⟨H5.out.1, rfl, _, by show MS M (c.unlink a) cs' _ b _; rw [EU.out]; exact H5.out.2⟩
  ·rw [if_neg hk] at he HR
   subst he
   obtain rfl : R = .error (ffE (kd, fa)) := HR.out
   have HG : Hid (w1.grownBy w4 (some b) /\ Mb c g b w4 /\ c.r.length = 32) := ⟨grown_of HB4.out.1, HM.out.1.keep HB4.out.1, HM.out.2.1.len⟩
   clear hb4 HB4 K72 HR HM HO HX
   go_wp2
   exact ⟨rfl, HG.out.1, rfl, _, _, HG.out.2⟩
 ·have K1 := aligned70_no a n hn0 h0 w
  have e : stR M c cs a n v = .error ⟨5, 0, a, 0, 0⟩ := by unfold stR; rw [if_neg h0]
  rw [e]
  have HT : Hid (Mb c g b w /\ c.r.length = 32) := ⟨h.m, hc.len⟩
  clear e h hG hc
  go_enter Tryz.func110, Tryz.ntmps110
  go_wp2_with fail
  refine K1.mono ?_
  rintro e w1 ⟨rfl, rfl⟩
  go_wp2
  exact ⟨rfl, gb_refl _ _, rfl, _, _, HT.out⟩
def Cp.off (c : Cp) : Cp := { c with linked := false }
theorem Cp.off_ok {c : Cp} (h : c.Ok) : c.off.Ok := ⟨h.len, h.all, h.hi, h.lo, h.pc, h.next, h.link⟩
def slR (M : Mem) (c : Cp) (cs : List (Nat × Int)) (a v : Nat) : Except Ev (Nat × (Cp × List (Nat × Int))) :=
 if a % 4 = 0 then (if c.linked && decide (c.link = a) then (match stR M c.off cs a 4 v with | .ok x => .ok (1, x) | .error e => .error e) else .ok (0, (c.off, cs))) else .error ⟨5, 0, a, 0, 0⟩
def TellsN (M : Mem) (b : Nat) (w : World) (r : Except Ev (Nat × (Cp × List (Nat × Int)))) (e : Ending) (w' : World) : Prop := w.grownBy w' (some b) /\ match r with
 | .ok x => e = .returned (.int .u32 x.1) /\ ∃ g, MS M x.2.1 x.2.2 g b w'
 | .error ev => Thrown b w' ev e
set_option maxHeartbeats 1000000 in
theorem storeLinked111 (M : Mem) (c : Cp) (cs : List (Nat × Int)) (g : Gv) (b a v : Nat) (w : World) (hc : c.Ok) (h : MS M c cs g b w) (hG : Good M cs) (ha : a < 4294967296) (hv : v < 4294967296) :
  Calls Tryz.prog 111 #[.pointer (some ⟨b, 0, none⟩), .int .u32 a, .int .u32 v] w (TellsN M b w (slR M c cs a v)) := by
 by_cases h0 : a % 4 = 0
 ·have K1 : Calls Tryz.prog 70 #[.int .u32 a, .int .u32 4] w _ := aligned70_ok a 4 (by decide) h0 w
  have HR : Hid (slR M c cs a v = if c.linked && decide (c.link = a) then (match stR M c.off cs a 4 v with | .ok x => .ok (1, x) | .error e => .error e) else .ok (0, (c.off, cs))) := by show _ = _; unfold slR; rw [if_pos h0]
  generalize slR M c cs a v = R at HR |-
  obtain ⟨_, _, _, _, _, c37, c38, _, _, _, _⟩ := h.m.fields hc.len
  have z38 := h.m.frozen 38
  have hm5 := h.m.setLinked hc.len false
  have hg5 := grown_setk w b 38 (.bool false)
  obtain ⟨W5, hW5⟩ : ∃ z, w.setCell ⟨b, 38, none⟩ (.bool false) = z := ⟨_, rfl⟩
  rw [hW5] at hm5 hg5
  have hM5 : MS M c.off cs g b W5 := h.to hc.len hg5 hm5
  have HM : Hid (w.grownBy W5 (some b) /\ MS M c.off cs g b W5) := ⟨hg5, hM5⟩
  have K110 : Hid (Calls Tryz.prog 110 #[.pointer (some ⟨b, 0, none⟩), .int .u32 a, .int .u32 4, .int .u32 v] W5 (Tells M b W5 (.tuple #[]) (stR M c.off cs a 4 v))) := store110 M c.off cs g b a 4 v W5 (Cp.off_ok hc) hM5 hG ha hv (.inr (.inr rfl))
  generalize stR M c.off cs a 4 v = X at K110 HR
  generalize c.linked = LD at HR c38
  generalize c.link = LK at HR c37
  clear h0 h hG hc ha hv hm5 hg5 hM5
  by_cases hL : LD = true /\ LK = a
  ·obtain ⟨rfl, rfl⟩ := hL
   rw [if_pos (by simp)] at HR
   go_enter Tryz.func111, Tryz.ntmps111
   go_wp2_with fail
   refine K1.mono ?_
   rintro e w1 ⟨rfl, rfl⟩
   go_wp2_with fail
   refine K110.out.mono ?_
   rintro e w2 ⟨hg2, h2⟩
   have HG : Hid (w1.grownBy w2 (some b)) := gb_trans HM.out.1 hg2
   clear K1 K110
   cases X with
   | ok x =>
    obtain ⟨rfl, h2⟩ := h2
    obtain rfl : R = .ok (1, x) := HR.out
    have H2 : Hid _ := h2
    clear h2 hg2 HM HR
    go_wp2
    go_ret
    exact ⟨HG.out, rfl, H2.out⟩
   | error ev =>
    obtain ⟨rfl, h3⟩ := h2
    have H3 : Hid _ := h3
    obtain rfl : R = .error ev := HR.out
    clear hg2 HM HR h3
    go_wp2
    exact ⟨rfl, HG.out, rfl, H3.out⟩
  ·have hF : (LD && decide (LK = a)) = false := by
    cases LD with
    | false => rfl
    | true => exact decide_eq_false (fun e => hL ⟨rfl, e⟩)
   rw [hF, if_neg (by decide)] at HR
   obtain rfl : R = .ok (0, (c.off, cs)) := HR.out
   clear K110 HR
   cases LD with
   | false =>
    clear hL hF
    go_enter Tryz.func111, Tryz.ntmps111
    go_wp2_with fail
    refine K1.mono ?_
    rintro e w1 ⟨rfl, rfl⟩
    go_wp2
    go_ret
    exact ⟨HM.out.1, rfl, _, HM.out.2⟩
   | true =>
    have e4 : ¬ (LK : Int) = (a : Int) := fun e => hL ⟨rfl, by omega⟩
    have e5 : ((LK : Int) == (a : Int)) = false := by simpa using e4
    have e6 : ¬ LK = a := fun e => hL ⟨rfl, e⟩
    clear hL hF
    go_enter Tryz.func111, Tryz.ntmps111
    go_wp2_with fail
    refine K1.mono ?_
    rintro e w1 ⟨rfl, rfl⟩
    go_wp2
    go_ret
    exact ⟨HM.out.1, rfl, _, HM.out.2⟩
 ·have K1 : Calls Tryz.prog 70 #[.int .u32 a, .int .u32 4] w _ := aligned70_no a 4 (by decide) h0 w
  have e : slR M c cs a v = .error ⟨5, 0, a, 0, 0⟩ := by unfold slR; rw [if_neg h0]
  rw [e]
  have HT : Hid (Mb c g b w /\ c.r.length = 32) := ⟨h.m, hc.len⟩
  clear e h hG hc
  go_enter Tryz.func111, Tryz.ntmps111
  go_wp2_with fail
  refine K1.mono ?_
  rintro e w1 ⟨rfl, rfl⟩
  go_wp2
  exact ⟨rfl, gb_refl _ _, rfl, _, _, HT.out⟩
def Tab (w : World) : Prop := w.cell? ⟨0, 0, none⟩ = some (.int .u8 0) /\ w.cell? ⟨0, 27, none⟩ = some (.int .u8 6)
theorem Tab.keep {w w' : World} (h : Tab w) (hb : Below w.heap.size w w') : Tab w' := ⟨keep_cell hb h.1, keep_cell hb h.2⟩
def Great (g : Nat) : Prop := g = 0 \/ g = 67108800 \/ g = 65535 \/ g = 67108863
def tzN (g : Nat) : Nat := if g = 0 then 32 else if g = 67108800 then 6 else 0
theorem tz30 (g : Nat) (hg : Great g) (w : World) (ht : Tab w) : Calls Tryz.prog 99 #[.int .u32 g] w fun e w' => e = .returned (.int .i64 (tzN g : Int)) /\ w' = w := by
 obtain ⟨t0, t1⟩ := ht
 have e1 : bits BinOp.and IntKind.u32 67108800 4227858496 = 64 := by decide +kernel
 have e2 : bits BinOp.and IntKind.u32 65535 4294901761 = 1 := by decide +kernel
 have e3 : bits BinOp.and IntKind.u32 67108863 4227858433 = 1 := by decide +kernel
 rcases hg with rfl | rfl | rfl | rfl
 all_goals
  go_enter Tryz.func99, Tryz.ntmps99
  go_wp2
  go_ret
  exact ⟨rfl, rfl⟩
structure Sh where
 name : ByteArray
 op : Nat
 same : Nat
 form : ByteArray
 few : Nat
 great : Nat
def Sh.val (s : Sh) : Value := .agg #[.string s.name, .int .u32 s.op, .int .u32 s.same, .string s.form, .int .u32 s.few, .int .u32 s.great]
structure In where
 name : ByteArray
 rs : Int
 rt : Int
 rd : Int
 sa : Int
 imm : Nat
def In.val (i : In) : Value := .agg #[.string i.name, .int .i64 i.rs, .int .i64 i.rt, .int .i64 i.rd, .int .i64 i.sa, .int .u32 i.imm]
theorem box6 (w : World) (a b c d e f : Value) (t : Nat) : ∃ W, w.alloc (.cells #[a, b, c, d, e, f] t) = W /\ Below w.heap.size w W /\ W.heap.size = w.heap.size + 1 /\
  W.cell? ⟨w.heap.size, 0, none⟩ = some a /\ W.cell? ⟨w.heap.size, 1, none⟩ = some b /\ W.cell? ⟨w.heap.size, 2, none⟩ = some c /\ W.cell? ⟨w.heap.size, 3, none⟩ = some d /\ W.cell? ⟨w.heap.size, 4, none⟩ = some e /\ W.cell? ⟨w.heap.size, 5, none⟩ = some f := by
 refine ⟨_, rfl, (Below.refl _ _).alloc (Nat.le_refl _) _, by simp, ?_, ?_, ?_, ?_, ?_, ?_⟩ <;> exact cell_newA w _ _ _ _ _ rfl rfl
def allowsB (s : Sh) (i : In) : Bool := if s.form.toList == [116, 100] then i.rd == 29 else if s.name.toList == [101, 120, 116] then decide (wrap64 (i.rd + i.sa) <= 31) else if s.name.toList == [105, 110, 115] then decide (i.sa <= i.rd) else true
theorem allows29 (s : Sh) (i : In) (w : World) : Calls Tryz.prog 98 #[s.val, i.val] w fun e w' => e = .returned (.bool (allowsB s i)) /\ Below w.heap.size w w' := by
 obtain ⟨name, op, same, form, few, great⟩ := s
 obtain ⟨nm, rs, rt, rd, sa, imm⟩ := i
 simp only [Sh.val, In.val]
 obtain ⟨W, hW, hb, hz, c0, c1, c2, c3, c4, c5⟩ := box6 w (.string name) (.int .u32 op) (.int .u32 same) (.string form) (.int .u32 few) (.int .u32 great) 139
 obtain ⟨V, hV, gb, gz, d0, d1, d2, d3, d4, d5⟩ := box6 W (.string nm) (.int .i64 rs) (.int .i64 rt) (.int .i64 rd) (.int .i64 sa) (.int .u32 imm) 55
 have HB : Hid (Below w.heap.size w V) := below_tr hb gb
 have c0 := keep_cell gb c0
 have c3 := keep_cell gb c3
 rw [hz] at d0 d1 d2 d3 d4 d5
 clear hb gb gz
 go_enter Tryz.func98, Tryz.ntmps98
 go_wp2
 all_goals (go_ret; exact ⟨by simp [allowsB, *], HB.out⟩)
end Go.Proofs.YtimfipkbddpdmaaGreatDoor
