import Derived.Test.YtimfipkbddpdmaaGreatDoorMGdoc
import Derived.Test.YtimfipkbddpdmaaGreatDoorMGw
import Derived.Test.YtimfipkbddpdmaaGreatDoorMGbk
import Derived.Test.YtimfipkbddpdmaaGreatDoorVals
import Derived.WalkMore
set_option linter.unusedVariables false
set_option linter.unusedSimpArgs false
set_option maxRecDepth 100000
open Go Go.RowKit
namespace Go.Proofs.YtimfipkbddpdmaaGreatDoor.Gm
attribute [local go_sem] Oper.semAt_some
theorem offP_full (a n : Nat) : offP a n n = n := by
 have h1 := offP_le a n n
 rcases Nat.lt_or_ge (offP a n n) n with h | h
 ·have := offP_ge a n n h; omega
 ·omega
theorem pcM_stay (a p n k : Nat) (h : offP a n k = n) : ∀ j, pcM a p n (k + j) = pcM a p n k /\ offP a n (k + j) = n
 | 0 => ⟨rfl, h⟩
 | j + 1 => by
  obtain ⟨h1, h2⟩ := pcM_stay a p n k h j
  refine ⟨?_, ?_⟩
  ·rw [show k + (j + 1) = (k + j) + 1 from rfl, pcM, h2, if_neg (by omega), List.append_nil, h1]
  ·rw [show k + (j + 1) = (k + j) + 1 from rfl, offP, h2]; omega
theorem pcM_done (a p n k : Nat) (h : offP a n k = n) : pcM a p n k = pcM a p n n := by
 rcases Nat.le_total k n with hk | hk
 ·have := (pcM_stay a p n k h (n - k)).1
  rw [show k + (n - k) = n by omega] at this
  exact this.symm
 ·have := (pcM_stay a p n n (offP_full a n) (k - n)).1
  rw [show n + (k - n) = k by omega] at this
  exact this
theorem pcM_pre (a p n k : Nat) : ∀ j, pcM a p n k <+: pcM a p n (k + j)
 | 0 => List.prefix_refl _
 | j + 1 => by
  refine (pcM_pre a p n k j).trans ?_
  rw [show k + (j + 1) = (k + j) + 1 from rfl]
  conv => rhs; rw [pcM]
  exact List.prefix_append _ _
def gk (ps : List (Nat × Int)) (asked : Int) (at_ : Nat) : Int := if protN ps (at_ / 4096) < 0 then 1 else if bits .and .i64 (protN ps (at_ / 4096)) asked = asked then 0 else 2
def ffL (ps : List (Nat × Int)) (asked : Int) : List P3 -> Int × Nat
 | [] => (0, 0)
 | x :: t => if gk ps asked x.1 = 0 then ffL ps asked t else (gk ps asked x.1, x.1)
theorem ffL_clean (ps : List (Nat × Int)) (asked : Int) : ∀ xs, (∀ y ∈ xs, gk ps asked y.1 = 0) -> ffL ps asked xs = (0, 0)
 | [], _ => rfl
 | x :: t, h => by rw [ffL, if_pos (h x (by simp))]; exact ffL_clean ps asked t (fun y hy => h y (by simp [hy]))
theorem ffL_at (ps : List (Nat × Int)) (asked : Int) (x : P3) (t : List P3) (hx : gk ps asked x.1 ≠ 0) : ∀ xs, (∀ y ∈ xs, gk ps asked y.1 = 0) -> ffL ps asked (xs ++ x :: t) = (gk ps asked x.1, x.1)
 | [], _ => by rw [List.nil_append, ffL, if_neg hx]
 | z :: u, h => by rw [List.cons_append, ffL, if_pos (h z (by simp))]; exact ffL_at ps asked x t hx u (fun y hy => h y (by simp [hy]))
def ffN (ps : List (Nat × Int)) (a n : Nat) (asked : Int) : Int × Nat := if 65536 < n then (1, 0) else ffL ps asked (pcM a 0 n n)
theorem ffL_place (ps : List (Nat × Int)) (asked : Int) (a p q n : Nat) : ∀ k, ffL ps asked (pcM a p n k) = ffL ps asked (pcM a q n k) := by
 have key : ∀ xs ys : List P3, xs.map (·.1) = ys.map (·.1) -> ffL ps asked xs = ffL ps asked ys := by
  intro xs
  induction xs with
  | nil => intro ys h; cases ys with
   | nil => rfl
   | cons y t => simp at h
  | cons x u ih => intro ys h; cases ys with
   | nil => simp at h
   | cons y t => simp only [List.map_cons, List.cons.injEq] at h; rw [ffL, ffL, h.1, ih t h.2]
 intro k
 refine key _ _ ?_
 induction k with
 | zero => rfl
 | succ k ih => rw [pcM, pcM, List.map_append, List.map_append, ih]; congr 1; split <;> rfl
set_option maxHeartbeats 1000000 in
theorem pieces62 (vm vc vp vb va vn : Value) (w : World) (hm : ∃ a n p, vm = .slice a n p) (hc : ∃ a n p, vc = .slice a n p) (hp : ∃ a n p, vp = .slice a n p) (hb : ∃ z : Int, vb = .int .u64 z) (ha : ∃ z : Int, va = .int .u32 z) (hn : ∃ z : Int, vn = .int .u64 z) :
  Calls Tryz.prog 148 #[.agg #[vm, vc, vb, vp], va, vn] w fun e w' => e = .returned (.func (.func 200) #[] #[.pointer (some ⟨w.heap.size + 1, 0, none⟩), .pointer (some ⟨w.heap.size, 0, none⟩), .pointer (some ⟨w.heap.size + 2, 0, none⟩)]) /\ w' = ((w.alloc (.cells #[vm, vc, vb, vp] 33)).alloc (.cells #[va] 22)).alloc (.cells #[vn] 30) := by
 obtain ⟨_, _, _, rfl⟩ := hm
 obtain ⟨_, _, _, rfl⟩ := hc
 obtain ⟨_, _, _, rfl⟩ := hp
 obtain ⟨_, rfl⟩ := hb
 obtain ⟨_, rfl⟩ := ha
 obtain ⟨_, rfl⟩ := hn
 go_enter Tryz.func148, Tryz.ntmps148
 go_wp2
 go_ret
 exact ⟨rfl, rfl⟩
theorem pieces_next (m : Nat) (hm : 2 <= m) (Ba Bg Bn : Nat) (am ac ap : Option Addr) (nm pm nc pc np pp : Nat) (bs a n : Nat) (hbs : bs <= 4611686018427387904) (ha : a < 4294967296) (hn : n <= 65536) (w : World)
  (ca : w.cell? ⟨Ba, 0, none⟩ = some (.int .u32 a)) (cn : w.cell? ⟨Bn, 0, none⟩ = some (.int .u64 n))
  (cg0 : w.cell? ⟨Bg, 0, none⟩ = some (.slice am nm pm)) (cg1 : w.cell? ⟨Bg, 1, none⟩ = some (.slice ac nc pc)) (cg2 : w.cell? ⟨Bg, 2, none⟩ = some (.int .u64 bs)) (cg3 : w.cell? ⟨Bg, 3, none⟩ = some (.slice ap np pp)) :
  SeqNx m Tryz.prog 200 #[.pointer (some ⟨Ba, 0, none⟩), .pointer (some ⟨Bg, 0, none⟩), .pointer (some ⟨Bn, 0, none⟩)] encP (fun _ _ => True) (PNx a (bs + a) n) (fun ys => ∃ k, ys = pcM a (bs + a) n k /\ offP a n k = n) (fun pre => ∃ k, pre = pcM a (bs + a) n (k + 1) /\ offP a n k < n) w := fun l J Jx W hW hJ hJx hY h0 =>
 pieces1_in m hm l Ba Bg Bn am ac ap nm pm nc pc np pp bs a n hbs ha hn J Jx hY W hJ (keep_cell hW ca) (keep_cell hW cn) (keep_cell hW cg0) (keep_cell hW cg1) (keep_cell hW cg2) (keep_cell hW cg3) h0
theorem cell_row {A C : World} {row : Option Nat} {p : Addr} {v : Value} (h : A.cell? p = some v) (hg : A.grownBy C row) (hr : ∀ r, row = some r -> ∃ o : Obj, A.heap[r]? = some o /\ o.isCells = false) : C.cell? p = some v :=
 hg.cell h (fun e => by
  obtain ⟨o, h1, h2⟩ := hr _ e.symm
  cases o <;> simp [World.cell?, h1] at h <;> simp [Obj.isCells] at h2)
theorem box411 (w : World) (x y z u a n : Value) : ∃ W, ((w.alloc (.cells #[x, y, z, u] 33)).alloc (.cells #[a] 22)).alloc (.cells #[n] 30) = W /\ Below w.heap.size w W /\ W.heap.size = w.heap.size + 3 /\
  W.cell? ⟨w.heap.size, 0, none⟩ = some x /\ W.cell? ⟨w.heap.size, 1, none⟩ = some y /\ W.cell? ⟨w.heap.size, 2, none⟩ = some z /\ W.cell? ⟨w.heap.size, 3, none⟩ = some u /\ W.cell? ⟨w.heap.size + 1, 0, none⟩ = some a /\ W.cell? ⟨w.heap.size + 2, 0, none⟩ = some n := by
 refine ⟨_, rfl, (((Below.refl _ _).alloc (Nat.le_refl _) _).alloc (by simp) _).alloc (by simp; omega) _, by simp, ?_, ?_, ?_, ?_, ?_, ?_⟩
 ·exact cell_old (cell_old (cell_newA w _ 33 _ 0 x rfl rfl) _) _
 ·exact cell_old (cell_old (cell_newA w _ 33 _ 1 y rfl rfl) _) _
 ·exact cell_old (cell_old (cell_newA w _ 33 _ 2 z rfl rfl) _) _
 ·exact cell_old (cell_old (cell_newA w _ 33 _ 3 u rfl rfl) _) _
 ·exact cell_old (cell_newA _ _ 22 _ 0 a (by simp) rfl) _
 ·exact cell_newA _ _ 30 _ 0 n (by simp) rfl
set_option maxHeartbeats 1000000 in
theorem gff38 (vm vc vp : Value) (bs a n : Nat) (asked : Int) (ps : List (Nat × Int)) (w : World) (hm : ∃ a n p, vm = .slice a n p) (hc : ∃ a n p, vc = .slice a n p) (hp : Pg.Sl .i64 w vp ps) (hs : Srt ps) (hl : ps.length <= 1073741824) (hbs : bs <= 4611686018427387904) (ha : a < 4294967296) (hn : n < 18446744073709551616) :
  Calls Tryz.prog 114 #[.agg #[vm, vc, .int .u64 bs, vp], .int .u32 a, .int .u64 n, .int .i64 asked] w fun e w' => e = .returned (.agg #[.int .i64 (ffN ps a n asked).1, .int .u64 ((ffN ps a n asked).2 : Int)]) /\ Below w.heap.size w w' := by
 obtain ⟨am, nm, pm, rfl⟩ := hm
 obtain ⟨ac, nc, pc, rfl⟩ := hc
 obtain ⟨ap, np, pp, rfl⟩ : ∃ a n p, vp = .slice a n p := by obtain ⟨a, p, h, _⟩ := hp; exact ⟨_, _, _, h⟩
 obtain ⟨W, hW, hb, hsz, c0, c1, c2, c3, _⟩ := box4 w (.slice am nm pm) (.slice ac nc pc) (.int .u64 bs) (.slice ap np pp) 33
 obtain ⟨W1, hW1⟩ : ∃ z, W.alloc (.cells #[.int .i64 asked] 3) = z := ⟨_, rfl⟩
 have hb1 : Below W.heap.size W W1 := by rw [<- hW1]; exact (Below.refl _ _).alloc (Nat.le_refl _) _
 have hs1 : W1.heap.size = w.heap.size + 2 := by rw [<- hW1]; simp; omega
 have q1 : W1.cell? ⟨w.heap.size + 1, 0, none⟩ = some (.int .i64 asked) := by rw [<- hW1, <- hsz]; exact cell_newA W _ 3 _ 0 _ rfl rfl
 obtain ⟨W2, hW2⟩ : ∃ z, W1.alloc (.cells #[.int .i64 0, .int .u64 0] 38) = z := ⟨_, rfl⟩
 have hb2 : Below W1.heap.size W1 W2 := by rw [<- hW2]; exact (Below.refl _ _).alloc (Nat.le_refl _) _
 have hs2 : W2.heap.size = w.heap.size + 3 := by rw [<- hW2]; simp; omega
 have r0 : W2.cell? ⟨w.heap.size + 2, 0, none⟩ = some (.int .i64 0) := by rw [<- hW2, <- hs1]; exact cell_newA W1 _ 38 _ 0 _ rfl rfl
 have r1 : W2.cell? ⟨w.heap.size + 2, 1, none⟩ = some (.int .u64 0) := by rw [<- hW2, <- hs1]; exact cell_newA W1 _ 38 _ 1 _ rfl rfl
 have f0 : W2.frozen? ⟨w.heap.size + 2, 0, none⟩ = false := by rw [<- hW2, World.frozen?_alloc_at _ _ _ _ (by omega)]
 have f1 : W2.frozen? ⟨w.heap.size + 2, 1, none⟩ = false := by rw [<- hW2, World.frozen?_alloc_at _ _ _ _ (by omega)]
 have q1 := keep_cell hb2 q1
 have c0 := keep_cell (below_tr hb1 hb2) c0
 have c1 := keep_cell (below_tr hb1 hb2) c1
 have c2 := keep_cell (below_tr hb1 hb2) c2
 have c3 := keep_cell (below_tr hb1 hb2) c3
 have hbw : Below w.heap.size w W2 := below_tr hb (below_tr hb1 hb2)
 obtain ⟨FR, hFR⟩ : ∃ z, z = ffN ps a n asked := ⟨_, rfl⟩
 rw [<- hFR]
 have HFR : Hid (FR = ffN ps a n asked) := hFR
 have HSP : Hid (Pg.Sl .i64 w (.slice ap np pp) ps) := hp
 have HST : Hid (Srt ps /\ ps.length <= 1073741824) := ⟨hs, hl⟩
 have HBW : Hid (Below w.heap.size w W2) := hbw
 clear hp hs hl hFR
 refine callsIn_wide.1 (callsIn_of_wp_marks (F := Fence.wide) (n := 3) Tryz.func114 rfl trivial ?_ rfl)
 simp only [Tryz.ntmps114, List.size_toArray, List.length_cons, List.length_nil, Nat.reduceAdd, Nat.reduceSub, Array.replicate_succ, Array.replicate_zero, List.push_toArray, List.append_toArray, List.nil_append, List.cons_append]
 refine wpIn_wide.2 ?_
 by_cases hbig : 65536 < n
 ·have y0 : (65536 : Int) < (n : Int) := by omega
  go_wp2
  go_step3
  go_wp2
  rw [Exit.noGoto_ret]
  obtain ⟨s0, s1⟩ := res2 W2 (w.heap.size + 2) (.int .i64 1) (.int .u64 0) ⟨⟨_, r0⟩, f0⟩ ⟨⟨_, r1⟩, f1⟩
  have HE : Hid (FR = (1, 0) /\ Below w.heap.size w ((W2.setCell ⟨w.heap.size + 2, 0, none⟩ (.int .i64 1)).setCell ⟨w.heap.size + 2, 1, none⟩ (.int .u64 0))) := ⟨by rw [HFR.out, ffN, if_pos hbig], (HBW.out.setCell (by simp) _).setCell (by simp) _⟩
  refine ⟨_, ?_, by rw [HE.out.1], HE.out.2⟩
  rw [results_cell1 rfl]; simp [go_sem, s0, s1]
 have y0 : ¬ (65536 : Int) < (n : Int) := by omega
 have K62 := pieces62 (.slice am nm pm) (.slice ac nc pc) (.slice ap np pp) (.int .u64 bs) (.int .u32 a) (.int .u64 n) W2 ⟨_, _, _, rfl⟩ ⟨_, _, _, rfl⟩ ⟨_, _, _, rfl⟩ ⟨_, rfl⟩ ⟨_, rfl⟩ ⟨_, rfl⟩
 go_wp2
 go_step3
 go_wp2
 go_step3
 go_wp2_with fail
 refine K62.mono ?_
 rintro e w3' ⟨rfl, rfl⟩
 clear K62
 go_wp2
 obtain ⟨W3, hW3, hb3, hs3, d0, d1, d2, d3, d4, d5⟩ := box411 W2 (.slice am nm pm) (.slice ac nc pc) (.int .u64 bs) (.slice ap np pp) (.int .u32 a) (.int .u64 n)
 rw [hW3]
 have hseq := pieces_next (3 - 1) (by omega) (W2.heap.size + 1) W2.heap.size (W2.heap.size + 2) am ac ap nm pm nc pc np pp bs a n hbs ha (by omega) W3 d4 d5 d0 d1 d2 d3
 rw [hs2] at hseq
 have hs33 : W3.heap.size = w.heap.size + 6 := by omega
 have HW3 : Hid (Below w.heap.size w W3 /\ W3.heap.size = w.heap.size + 6) := ⟨below_tr HBW.out hb3, hs33⟩
 have c0 := keep_cell hb3 c0
 have c1 := keep_cell hb3 c1
 have c2 := keep_cell hb3 c2
 have c3 := keep_cell hb3 c3
 have q1 := keep_cell hb3 q1
 have r0 := keep_cell hb3 r0
 have r1 := keep_cell hb3 r1
 have f0 := keep_frozen hb3 (by simp; omega) f0
 have f1 := keep_frozen hb3 (by simp; omega) f1
 refine wpIn_wide.1 (wpIn_range_next (n := 3) (by omega) (gf := 200) rfl (enters_of Tryz.func200 (by kernel_rfl) rfl)
  hseq (fun _ _ => trivial) (fun _ _ _ _ _ _ _ _ => trivial) (Below.refl _ _) (fun _ => rfl)
  (fun pre Wx => But W3.heap.size W3.heap.size W3 Wx /\ ∀ y ∈ pre, gk ps asked y.1 = 0)
  (fun c pre Wx => c = .exit 0 /\ ∃ init x, pre = init ++ [x] /\ (∀ y ∈ init, gk ps asked y.1 = 0) /\ gk ps asked x.1 ≠ 0 /\ Wx.cell? ⟨w.heap.size + 2, 0, none⟩ = some (.int .i64 (gk ps asked x.1)) /\ Wx.cell? ⟨w.heap.size + 2, 1, none⟩ = some (.int .u64 x.1) /\ Wx.frozen? ⟨w.heap.size + 2, 0, none⟩ = false /\ Wx.frozen? ⟨w.heap.size + 2, 1, none⟩ = false /\ Below w.heap.size w Wx)
  (fun pre A C row hh hgr hrr => ⟨hh.1.row hgr hh.1.size (fun r e => (hrr r e).1), hh.2⟩)
  (fun c pre A C row hh hgr hrr => ?hIx)
  ⟨But.refl _ _ _, by simp⟩
  (fun x a' Wx => ∃ B v12 v17, a' = { tmps := #[.agg #[.slice am nm pm, .slice ac nc pc, .int .u64 bs, .slice ap np pp], .int .u32 a, .int .u64 n, .int .i64 asked, .pointer (some ⟨w.heap.size, 0, none⟩), undef, undef, .pointer (some ⟨w.heap.size + 1, 0, none⟩), .pointer (some ⟨w.heap.size + 2, 0, none⟩), .pointer (some ⟨B, 0, none⟩), undef, .int .u64 n, v12, undef, .agg #[.slice am nm pm, .slice ac nc pc, .int .u64 bs, .slice ap np pp], .int .u32 a, .int .u64 n, v17, .agg #[.int .u64 x.1, .int .u64 x.2.1, .int .i64 x.2.2], undef, undef, undef, undef, undef, undef, undef, undef, undef, undef, undef, undef, undef, undef, undef, undef, undef, undef, undef, undef, undef, undef], defers := [] } /\ W3.heap.size <= B /\ Wx.cell? ⟨B, 0, none⟩ = some (.int .u64 x.1) /\ Wx.cell? ⟨B, 1, none⟩ = some (.int .u64 x.2.1) /\ Wx.cell? ⟨B, 2, none⟩ = some (.int .i64 x.2.2))
  (fun x a' s A C row hh hgr hrr => ?hAx) ?assign ?body ?done ?stop)
 case hIx =>
  obtain ⟨e1, init, x, e2, e3, e4, e5, e6, e7, e8, e9⟩ := hh
  have hs := HW3.out.2
  have hlt : w.heap.size + 2 < A.heap.size := World.block_lt_of_cell? A _ e5
  have hbl := hgr.block (w.heap.size + 2) hlt (fun e => by have := (hrr _ e.symm).1; omega)
  refine ⟨e1, init, x, e2, e3, e4, hgr.cell e5 (fun e => by have := (hrr _ e.symm).1; simp at this; omega), hgr.cell e6 (fun e => by have := (hrr _ e.symm).1; simp at this; omega), (World.frozen?_of_block hbl).trans e7, (World.frozen?_of_block hbl).trans e8, e9.grown hgr e9.size (fun r e => by have := (hrr r e).1; omega)⟩
 case hAx =>
  obtain ⟨B, v12, v17, e1, e2, e3, e4, e5⟩ := hh
  exact ⟨B, v12, v17, e1, e2, cell_row e3 hgr (fun r e => (hrr r e).2), cell_row e4 hgr (fun r e => (hrr r e).2), cell_row e5 hgr (fun r e => (hrr r e).2)⟩
 case assign =>
  intro l pre x Wx K hnx hi hK
  simp only [encP]
  gi_wp2
  obtain ⟨i1, i2⟩ := hi
  have hWx := i1.size
  have hb' : Below Wx.heap.size Wx (Wx.alloc (.cells #[.int .u64 x.1, .int .u64 x.2.1, .int .i64 x.2.2] 207)) := (Below.refl _ _).alloc (Nat.le_refl _) _
  have hbt : But W3.heap.size W3.heap.size Wx (Wx.alloc (.cells #[.int .u64 x.1, .int .u64 x.2.1, .int .i64 x.2.2] 207)) := ⟨hb'.os, hb'.tape, hb'.output, hb'.size, fun k hk _ => hb'.block k (by omega)⟩
  exact hK _ _ ((KeepsOthers.of_below hb').from _) trivial ⟨i1.trans hbt, i2⟩ ⟨_, _, _, rfl, hWx, cell_newA Wx _ 207 _ 0 _ rfl rfl, cell_newA Wx _ 207 _ 1 _ rfl rfl, cell_newA Wx _ 207 _ 2 _ rfl rfl⟩
 case body =>
  rintro l pre x a' Wx ⟨k, hpre, hlt, hx⟩ ⟨i1, i2⟩ ⟨B, v12, v17, rfl, hB, z0, z1, z2⟩
  have hs := HW3.out.2
  have hxb : x.1 < 4295032832 := by rw [hx]; unfold pcOf; simp; omega
  have hWx := i1.size
  have g0 := i1.cell (p := ⟨w.heap.size, 0, none⟩) (by simp; omega) (by simp; omega) c0
  have g1 := i1.cell (p := ⟨w.heap.size, 1, none⟩) (by simp; omega) (by simp; omega) c1
  have g2 := i1.cell (p := ⟨w.heap.size, 2, none⟩) (by simp; omega) (by simp; omega) c2
  have g3 := i1.cell (p := ⟨w.heap.size, 3, none⟩) (by simp; omega) (by simp; omega) c3
  have e1 := i1.cell (p := ⟨w.heap.size + 1, 0, none⟩) (by simp; omega) (by simp; omega) q1
  have e2 := i1.cell (p := ⟨w.heap.size + 2, 0, none⟩) (by simp; omega) (by simp; omega) r0
  have e3 := i1.cell (p := ⟨w.heap.size + 2, 1, none⟩) (by simp; omega) (by simp; omega) r1
  have t0 : Wx.frozen? ⟨w.heap.size + 2, 0, none⟩ = false := (World.frozen?_of_block (i1.block (w.heap.size + 2) (by omega) (by omega))).trans f0
  have t1 : Wx.frozen? ⟨w.heap.size + 2, 1, none⟩ = false := (World.frozen?_of_block (i1.block (w.heap.size + 2) (by omega) (by omega))).trans f1
  have HBX : Hid (Below w.heap.size w Wx) := HW3.out.1.trans ⟨i1.os, i1.tape, i1.output, i1.size, fun k hk => i1.block k (by omega) (by omega)⟩
  obtain ⟨pg, hpg⟩ : ∃ z, z = x.1 / 4096 := ⟨_, rfl⟩
  have y1 : IntKind.u64.wrap ((x.1 : Int) / 4096) = (pg : Int) := by rw [IntKind.wrap_u64]; omega
  have y1' : (x.1 : Int) / 4096 = (pg : Int) := by omega
  have y2 : IntKind.u32.wrap (pg : Int) = (pg : Int) := by rw [IntKind.wrap_u32]; omega
  obtain ⟨pr, hpr⟩ : ∃ z, z = protN ps pg := ⟨_, rfl⟩
  have K63 : Hid (∀ w', Below w.heap.size w w' -> Calls Tryz.prog 149 #[.agg #[.slice am nm pm, .slice ac nc pc, .int .u64 bs, .slice ap np pp], .int .u32 pg] w' fun e w'' => e = .returned (.int .i64 pr) /\ Below w'.heap.size w' w'') := fun w' hb' => by
   rw [hpr]
   exact gprot14 _ _ _ bs pg ps w' ⟨_, _, _, rfl⟩ ⟨_, _, _, rfl⟩ (HSP.out.keep hb') HST.out.1 HST.out.2
  have HGK : Hid (gk ps asked x.1 = if pr < 0 then 1 else if bits .and .i64 pr asked = asked then 0 else 2) := by show _ = _; rw [gk, <- hpg, <- hpr]
  have HST' : Hid (∀ kd wq, Below Wx.heap.size Wx wq -> gk ps asked x.1 = kd -> kd ≠ 0 -> KeepsFrom W3.heap.size Wx ((wq.setCell ⟨w.heap.size + 2, 0, none⟩ (.int .i64 kd)).setCell ⟨w.heap.size + 2, 1, none⟩ (.int .u64 x.1)) /\ (fun (c : Code) (pre : List P3) (Wx : World) => c = .exit 0 /\ ∃ init x, pre = init ++ [x] /\ (∀ y ∈ init, gk ps asked y.1 = 0) /\ gk ps asked x.1 ≠ 0 /\ Wx.cell? ⟨w.heap.size + 2, 0, none⟩ = some (.int .i64 (gk ps asked x.1)) /\ Wx.cell? ⟨w.heap.size + 2, 1, none⟩ = some (.int .u64 x.1) /\ Wx.frozen? ⟨w.heap.size + 2, 0, none⟩ = false /\ Wx.frozen? ⟨w.heap.size + 2, 1, none⟩ = false /\ Below w.heap.size w Wx) (.exit 0) (pre ++ [x]) ((wq.setCell ⟨w.heap.size + 2, 0, none⟩ (.int .i64 kd)).setCell ⟨w.heap.size + 2, 1, none⟩ (.int .u64 x.1))) := fun kd wq hbq hk hne => by
   have F0 : Free wq ⟨w.heap.size + 2, 0, none⟩ := ⟨⟨_, keep_cell hbq e2⟩, keep_frozen hbq (by simp; omega) t0⟩
   have F1 : Free wq ⟨w.heap.size + 2, 1, none⟩ := ⟨⟨_, keep_cell hbq e3⟩, keep_frozen hbq (by simp; omega) t1⟩
   obtain ⟨s0, s1⟩ := res2 wq (w.heap.size + 2) (.int .i64 kd) (.int .u64 x.1) F0 F1
   refine ⟨((KeepsOthers.of_below hbq).trans ((KeepsOthers.setCell _ _ _).trans (KeepsOthers.setCell _ _ _))).from _, rfl, pre, x, rfl, i2, by rw [hk]; exact hne, by rw [hk]; exact s0, s1, by simpa using F0.frozen, by simpa using F1.frozen, ?_⟩
   exact ((below_tr HBX.out hbq).setCell (by simp) _).setCell (by simp) _
  have HGO : Hid (∀ wq, Below Wx.heap.size Wx wq -> gk ps asked x.1 = 0 -> KeepsFrom W3.heap.size Wx wq /\ But W3.heap.size W3.heap.size W3 wq /\ ∀ y ∈ pre ++ [x], gk ps asked y.1 = 0) := fun wq hbq hk => by
   have hbt : But W3.heap.size W3.heap.size Wx wq := ⟨hbq.os, hbq.tape, hbq.output, hbq.size, fun k hk _ => hbq.block k (by omega)⟩
   refine ⟨(KeepsOthers.of_below hbq).from _, i1.trans hbt, fun y hy => ?_⟩
   rcases List.mem_append.1 hy with h | h
   ·exact i2 y h
   ·rw [List.mem_singleton.1 h]; exact hk
  clear i1 i2 hpre hlt hx hpg hpr hseq
  gi_wp2
  refine ⟨trivial, (CallsIn.inRound l (callsIn_wide.2 (K63.out Wx HBX.out))).mono ?_⟩
  rintro e wy ⟨rfl, hR⟩
  have z0 := keep_cell hR z0
  have e1 := keep_cell hR e1
  have e2 := keep_cell hR e2
  have e3 := keep_cell hR e3
  have t0 := keep_frozen hR (by simp; omega) t0
  have t1 := keep_frozen hR (by simp; omega) t1
  have HRR : Hid (Below Wx.heap.size Wx wy) := hR
  clear hR g0 g1 g2 g3 K63
  by_cases n1 : pr < 0
  ·have HK1 : Hid (gk ps asked x.1 = 1) := by show _ = _; rw [HGK.out, if_pos n1]
   gi_wp2
   exact ⟨(HST'.out _ _ HRR.out HK1.out (by decide)).1, rfl, (HST'.out _ _ HRR.out HK1.out (by decide)).2.2⟩
  ·by_cases n2 : bits .and .i64 pr asked = asked
   ·have HK1 : Hid (gk ps asked x.1 = 0) := by show _ = _; rw [HGK.out, if_neg n1, if_pos n2]
    have n3 : (bits .and .i64 pr asked == asked) = true := by simpa using n2
    gi_wp2
    exact ⟨(HGO.out _ HRR.out HK1.out).1, trivial, (HGO.out _ HRR.out HK1.out).2⟩
   ·have HK1 : Hid (gk ps asked x.1 = 2) := by show _ = _; rw [HGK.out, if_neg n1, if_neg n2]
    have n3 : (bits .and .i64 pr asked == asked) = false := by simpa using n2
    gi_wp2
    exact ⟨(HST'.out _ _ HRR.out HK1.out (by decide)).1, rfl, (HST'.out _ _ HRR.out HK1.out (by decide)).2.2⟩
 case done =>
  rintro D ys Wx hD ⟨k, rfl, hk⟩ ⟨i1, i2⟩ hKD
  have hs := HW3.out.2
  have e2 := i1.cell (p := ⟨w.heap.size + 2, 0, none⟩) (by simp; omega) (by simp; omega) r0
  have e3 := i1.cell (p := ⟨w.heap.size + 2, 1, none⟩) (by simp; omega) (by simp; omega) r1
  have t0 : Wx.frozen? ⟨w.heap.size + 2, 0, none⟩ = false := (World.frozen?_of_block (i1.block (w.heap.size + 2) (by omega) (by omega))).trans f0
  have t1 : Wx.frozen? ⟨w.heap.size + 2, 1, none⟩ = false := (World.frozen?_of_block (i1.block (w.heap.size + 2) (by omega) (by omega))).trans f1
  have HBX : Hid (Below w.heap.size w Wx) := HW3.out.1.trans ⟨i1.os, i1.tape, i1.output, i1.size, fun k hk => i1.block k (by omega) (by omega)⟩
  have HF0 : Hid (FR = (0, 0)) := by
   show _ = _
   rw [HFR.out, ffN, if_neg hbig, ffL_place ps asked a 0 (bs + a), <- pcM_done a (bs + a) n k hk]
   exact ffL_clean ps asked _ i2
  have HDN : Hid (D ≠ w.heap.size + 2 /\ w.heap.size <= D) := ⟨by omega, by omega⟩
  obtain ⟨s0, s1⟩ := res2 Wx (w.heap.size + 2) (.int .i64 0) (.int .u64 0) ⟨⟨_, e2⟩, t0⟩ ⟨⟨_, e3⟩, t1⟩
  have HKD : Hid (((Wx.setCell ⟨w.heap.size + 2, 0, none⟩ (.int .i64 0)).setCell ⟨w.heap.size + 2, 1, none⟩ (.int .u64 0)).heap[D]? = some (.deferred (some []))) := by
   show _ = _
   rw [Below.heap_setCell _ _ _ _ (by simpa using HDN.out.1), Below.heap_setCell _ _ _ _ (by simpa using HDN.out.1)]
   exact hKD
  have HEND : Hid (∀ X : World, (Wx.setCell ⟨w.heap.size + 2, 0, none⟩ (.int .i64 0)).setCell ⟨w.heap.size + 2, 1, none⟩ (.int .u64 0) = X -> (X.putObj D (.deferred none)).cell? ⟨w.heap.size + 2, 0, none⟩ = some (.int .i64 0) /\ (X.putObj D (.deferred none)).cell? ⟨w.heap.size + 2, 1, none⟩ = some (.int .u64 0) /\ Below w.heap.size w (X.putObj D (.deferred none))) := fun X hX => by
   have hb' : Below w.heap.size w X := by rw [<- hX]; exact (HBX.out.setCell (by simp) _).setCell (by simp) _
   rw [hX] at s0 s1
   exact ⟨(grownBy_putObj' X D _).cell s0 (fun e => by cases e; exact HDN.out.1 rfl), (grownBy_putObj' X D _).cell s1 (fun e => by cases e; exact HDN.out.1 rfl), hb'.grown (grownBy_putObj' X D _) hb'.size (fun r e => by cases e; exact HDN.out.2)⟩
  clear hKD hseq c0 c1 c2 c3 q1 r0 r1 f0 f1 d0 d1 d2 d3 d4 d5 s0 s1
  skip
  go_wp2
  rw [Exit.noGoto_ret]
  obtain ⟨u0, u1, u2⟩ := HEND.out _ rfl
  refine ⟨by simp, .inl ⟨_, _, rfl, run_takeDeferred HKD.out, ?_⟩⟩
  refine ⟨.agg #[.int .i64 0, .int .u64 0], ?_, by first | (rw [HF0.out]; done) | (rw [HF0.out]; rfl), u2⟩
  rw [results_cell1 rfl]; simp [go_sem, u0, u1]
 case stop =>
  rintro D c pre Wx hD ⟨k, rfl, hk⟩ ⟨rfl, init, x, hpx, hcl, hne, e2, e3, t0, t1, hbw4⟩ hKD
  have hs := HW3.out.2
  have HBX : Hid (Below w.heap.size w Wx) := hbw4
  have HF0 : Hid (FR = (gk ps asked x.1, x.1)) := by
   show _ = _
   have hkn : k + 1 <= n := by have := offP_ge a n k hk; omega
   obtain ⟨rest, hrest⟩ := pcM_pre a (bs + a) n (k + 1) (n - (k + 1))
   have e : pcM a (bs + a) n n = init ++ x :: rest := by
    rw [show k + 1 + (n - (k + 1)) = n by omega] at hrest
    rw [<- hrest, hpx, List.append_assoc]
    rfl
   rw [HFR.out, ffN, if_neg hbig, ffL_place ps asked a 0 (bs + a), e]
   exact ffL_at ps asked x rest hne init hcl
  have HDN : Hid (D ≠ w.heap.size + 2 /\ w.heap.size <= D) := ⟨by omega, by omega⟩
  obtain ⟨s0, s1⟩ := res2 Wx (w.heap.size + 2) (.int .i64 (gk ps asked x.1)) (.int .u64 x.1) ⟨⟨_, e2⟩, t0⟩ ⟨⟨_, e3⟩, t1⟩
  have HKD : Hid (((Wx.setCell ⟨w.heap.size + 2, 0, none⟩ (.int .i64 (gk ps asked x.1))).setCell ⟨w.heap.size + 2, 1, none⟩ (.int .u64 x.1)).heap[D]? = some (.deferred (some []))) := by
   show _ = _
   rw [Below.heap_setCell _ _ _ _ (by simpa using HDN.out.1), Below.heap_setCell _ _ _ _ (by simpa using HDN.out.1)]
   exact hKD
  have HEND : Hid (∀ X : World, (Wx.setCell ⟨w.heap.size + 2, 0, none⟩ (.int .i64 (gk ps asked x.1))).setCell ⟨w.heap.size + 2, 1, none⟩ (.int .u64 x.1) = X -> (X.putObj D (.deferred none)).cell? ⟨w.heap.size + 2, 0, none⟩ = some (.int .i64 (gk ps asked x.1)) /\ (X.putObj D (.deferred none)).cell? ⟨w.heap.size + 2, 1, none⟩ = some (.int .u64 x.1) /\ Below w.heap.size w (X.putObj D (.deferred none))) := fun X hX => by
   have hb' : Below w.heap.size w X := by rw [<- hX]; exact (HBX.out.setCell (by simp) _).setCell (by simp) _
   rw [hX] at s0 s1
   exact ⟨(grownBy_putObj' X D _).cell s0 (fun e => by cases e; exact HDN.out.1 rfl), (grownBy_putObj' X D _).cell s1 (fun e => by cases e; exact HDN.out.1 rfl), hb'.grown (grownBy_putObj' X D _) hb'.size (fun r e => by cases e; exact HDN.out.2)⟩
  clear hKD hseq c0 c1 c2 c3 q1 r0 r1 f0 f1 d0 d1 d2 d3 d4 d5 s0 s1
  refine wpIn_wide.2 ?_
  go_wp2
  rw [Exit.noGoto_ret]
  obtain ⟨u0, u1, u2⟩ := HEND.out _ rfl
  refine ⟨by simp, .inl ⟨_, _, rfl, run_takeDeferred HKD.out, ?_⟩⟩
  refine ⟨.agg #[.int .i64 (gk ps asked x.1), .int .u64 x.1], ?_, by first | (rw [HF0.out]; done) | (rw [HF0.out]; rfl), u2⟩
  rw [results_cell1 rfl]; simp [go_sem, u0, u1]
end Go.Proofs.YtimfipkbddpdmaaGreatDoor.Gm
