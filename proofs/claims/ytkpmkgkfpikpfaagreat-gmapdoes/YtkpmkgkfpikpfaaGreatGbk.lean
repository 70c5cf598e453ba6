/- What is proved here: just those of the host's pages within reach are mapped in which one of the guest's is: the program's look. -/
import Derived.Test.YtkpmkgkfpikpfaaGreatGrem
import Derived.Test.YtkpmkgkfpikpfaaGreatEach
import Derived.Test.YtkpmkgkfpikpfaaGreatGagp
import Derived.Test.YtkpmkgkfpikpfaaGreatHeld
import Derived.RangeFuncBox
import Derived.OwnWalkIn
import Derived.LoopTactic
import Derived.Test.YtkpmkgkfpikpfaaGreatGfit
import Derived.Test.YtkpmkgkfpikpfaaGreatGdoc
import Derived.Test.YtkpmkgkfpikpfaaGreatGs
import Derived.Test.YtkpmkgkfpikpfaaGreatPokePlain
namespace Go.Proofs.YtkpmkgkfpikpfaaGreat
open Go.RowKit
set_option linter.unusedVariables false
set_option linter.unusedSimpArgs false
set_option maxRecDepth 100000
attribute [local go_sem] Oper.semAt_some
theorem wpIn_append_own' {F : Fence} {n : Nat} {P : Program} (w : World) {o : Oper} {a : Act} {K : Act → World → Prop} {Q : Exit → Act → World → Prop}
  (s x : Operand) (t : TypeId) (hop : o.op = Op.call { callee := Callee.builtin Builtin.append, args := #[s, x], argTypes := #[t, t] })
  (base : Nat) (e : TypeId) (i : TypeInfo) (z : Value) (size bytes : Nat) (h1 : P.underlying t = some (.slice e)) (h2 : P.info? e = some i) (h3 : i.zero = some z) (h4 : i.size = size) (h5 : i.bytes = bytes) (h6 : z.cells.size = size) (h7 : 0 < size)
  (v : Value) (k : Nat) (xs : List Value) (hs : a.eval s = v) (hown : w.ownsRow base e size v k xs) (ad : Addr) (m c : Nat) (news : List Value) (hx : a.eval x = .slice (some ad) m c) (hn : news.length = m * size)
  (hc : ∀ j u, news[j]? = some u → w.cell? (ad.add j) = some u) (h1c : ∀ u ∈ news, u.oneCell' = true) (b1 : k + m ≤ maxLen) (b2 : (k + m) * bytes ≤ 140737488355328) (b3 : base ≤ w.heap.size)
  (hK : ∀ v' w', w'.ownsRow base e size v' (k + m) (xs ++ news) → w.grownBy w' v.ownBlock → K (a.put o.dst v') w') :
  Oper.wpIn F n P o a w K Q := by
 obtain ⟨v', w', hrun, r1, r2, r3⟩ := run_append_own (P := P) w base t o.type e i z size bytes h1 h2 h3 h4 h5 h6 h7 v k xs hown ad m c news hn hc h1c b1 b2 b3
 unfold Oper.wpIn
 refine ⟨?_, ?_⟩
 ·simp [Oper.about, hop, resolve, Target.leads, Sem.run_pure]
 ·rw [Oper.semAt_plain F _ _ (by rw [hop]; intro c hc'; cases hc')]
  simp [execOp, hop, resolve, invoke, builtin, hs, hx, hrun, Result.andThen]
  exact hK v' w' r1 r2
theorem cells2' {w : World} {b : Nat} {x y : Value} (h0 : w.cell? ⟨b, 0, none⟩ = some x) (h1 : w.cell? ⟨b, 1, none⟩ = some y) : ∀ j u, [x, y][j]? = some u → w.cell? ((⟨b, 0, none⟩ : Addr).add j) = some u := by
 intro j u hj
 match j, hj with
 | 0, hj => simp at hj; subst hj; simpa [Addr.add] using h0
 | 1, hj => simp at hj; subst hj; simpa [Addr.add] using h1
def askL (bs : Nat) (ks : List K4) : List (Nat × Int) := ks.map (fun k => (hp bs k.val, 3))
theorem askL_snoc (bs : Nat) (ks : List K4) (k : K4) : askL bs (ks ++ [k]) = askL bs ks ++ [(hp bs k.val, 3)] := by simp [askL]
def inP (bs p : Nat) : Bool := decide (bs / 16384 ≤ p ∧ p < bs / 16384 + 262144)
theorem KeepsOthers.of_below {W W' : World} (h : Below W.heap.size W W') : KeepsOthers W W' := ⟨h.size, fun k o hk _ => (h.block k (Array.getElem?_eq_some_iff.1 hk).1).trans hk⟩
def AskI (n₀ ab : Nat) (w : World) (xs : List (Nat × Int)) : Prop := ∃ v, Boxed w ab 22 v ∧ w.ownsRow n₀ 77 2 v xs.length (rowOf .i64 xs)
theorem AskI.row {n₀ ab : Nat} {w w' : World} {xs : List (Nat × Int)} {row : Option Nat} (h : AskI n₀ ab w xs) (hg : w.grownBy w' row) (hr : ∀ r, row = some r → ∃ o : Obj, w.heap[r]? = some o ∧ o.isCells = false) : AskI n₀ ab w' xs := by
 obtain ⟨v, hb, ho⟩ := h
 refine ⟨v, hb.kept hg (fun e => ?_), own_row ho hg hr⟩
 obtain ⟨o, h1, h2⟩ := hr ab e.symm
 rw [show w.heap[ab]? = _ from hb] at h1
 cases h1
 simp [Obj.isCells] at h2
set_option maxHeartbeats 1000000 in
theorem gisBacked30 (vm vc vp : Value) (ms cs ps : List (Nat × Int)) (bs : Nat) (w : World) (hsl : SlG w vm vc vp ms cs ps) (lm : ms.length ≤ 64) (lp : ps.length ≤ 256) (hps : ∀ x ∈ ps, x.1 < 1048576) (hrm : ∀ y ∈ ms, y.1 < 1125899906842624) (hbs : bs ≤ 4611686018427387904) :
  Calls Tryz.prog 41 #[.agg #[vm, vc, .int .u64 (bs : Int), vp]] w fun e w' => e = .returned (.bool (decide (askL bs (ksM ps ps.length) = by_ (inP bs) ms))) ∧ Below w.heap.size w w' := by
 obtain ⟨W, hW, hb, hsz, c0, c1, c2, c3, _⟩ := box4 w vm vc (.int .u64 (bs : Int)) vp 29
 obtain ⟨W1, hW1⟩ : ∃ z, W.alloc (.cells #[.slice none 0 0] 22) = z := ⟨_, rfl⟩
 have hb1 : Below W.heap.size W W1 := by rw [← hW1]; exact (Below.refl _ _).alloc (Nat.le_refl _) _
 have hs1 : W1.heap.size = w.heap.size + 2 := by rw [← hW1]; simp; omega
 have bx1 : Boxed W1 (w.heap.size + 1) 22 (.slice none 0 0) := by rw [← hW1, ← hsz]; exact Boxed.new W 22 _
 have hbw1 := below_tr hb hb1
 obtain ⟨am, pm, rfl, x1, x2, x4⟩ : ∃ ao cap, vm = .slice ao ms.length cap ∧ ms.length ≤ cap ∧ cap ≤ 9223372036854775807 ∧ ∀ i (h : i < ms.length), ∃ b o, ao = some ⟨b, o, none⟩ ∧ w.cell? ⟨b, o + i * 2, none⟩ = some (.int .u64 (ms[i].1 : Int)) ∧ w.cell? ⟨b, o + i * 2 + 1, none⟩ = some (.int .i64 ms[i].2) := by
  obtain ⟨ao, cap, e, q1, q2, _, q4⟩ := hsl.1
  exact ⟨ao, cap, e, q1, q2, q4⟩
 have HXM : Hid (∀ i (h : i < ms.length), ∃ b o, am = some ⟨b, o, none⟩ ∧ w.cell? ⟨b, o + i * 2, none⟩ = some (.int .u64 (ms[i].1 : Int)) ∧ w.cell? ⟨b, o + i * 2 + 1, none⟩ = some (.int .i64 ms[i].2)) := x4
 obtain ⟨ac, nc, pc, rfl⟩ : ∃ a n p, vc = .slice a n p := by obtain ⟨a, p, h, _⟩ := hsl.2.1; exact ⟨_, _, _, h⟩
 obtain ⟨ap, np, pp, rfl⟩ : ∃ a n p, vp = .slice a n p := by obtain ⟨a, p, h, _⟩ := hsl.2.2; exact ⟨_, _, _, h⟩
 have d0 := keep_cell hb1 c0
 have d1 := keep_cell hb1 c1
 have d2 := keep_cell hb1 c2
 have d3 := keep_cell hb1 c3
 obtain ⟨i0, hi, hz0, hz1, hz2⟩ := info_parts info54
 have HI : Hid (Tryz.prog.info? 77 = some i0 ∧ i0.zero = some (.agg #[.int .u64 0, .int .i64 0]) ∧ i0.size = 2 ∧ i0.bytes = 16) := ⟨hi, hz0, hz1, hz2⟩
 clear hi hz0 hz1 hz2
 have HSP : Hid (Pg.Sl .i64 w (.slice ap np pp) ps) := hsl.2.2
 have HPS : Hid (ps.length ≤ 256 ∧ ∀ x ∈ ps, x.1 < 1048576) := ⟨lp, hps⟩
 have HRM : Hid (∀ y ∈ ms, y.1 < 1125899906842624) := hrm
 have HSZ : Hid (W.heap.size = w.heap.size + 1 ∧ W1.heap.size = w.heap.size + 2) := ⟨hsz, hs1⟩
 have HBX : Hid (Boxed W1 (w.heap.size + 1) 22 (.slice none 0 0)) := bx1
 obtain ⟨zr, hzr⟩ : ∃ z, z = decide (askL bs (ksM ps ps.length) = by_ (inP bs) ms) := ⟨_, rfl⟩
 rw [← hzr]
 have HZ : Hid (zr = decide (askL bs (ksM ps ps.length) = by_ (inP bs) ms)) := hzr
 clear x4 hsl hps hrm hzr bx1 hs1
 refine callsIn_wide.1 (callsIn_of_wp_marks (F := Fence.wide) (n := 3) Tryz.func41 rfl trivial ?_ rfl)
 simp only [Tryz.ntmps41, List.size_toArray, List.length_cons, List.length_nil, Nat.reduceAdd, Nat.reduceSub, Array.replicate_succ, Array.replicate_zero, List.push_toArray, List.append_toArray, List.nil_append, List.cons_append]
 refine wpIn_wide.2 ?_
 have K58 := hostPages58 (.slice ap np pp) W1 ⟨_, _, _, rfl⟩
 go_wp2_with fail
 refine K58.mono ?_
 rintro e w3' ⟨rfl, rfl⟩
 clear K58
 go_wp2
 obtain ⟨W3, hW3⟩ : ∃ x, W1.alloc (.cells #[.slice ap np pp] 27) = x := ⟨_, rfl⟩
 have hb3 : Below W1.heap.size W1 W3 := by rw [← hW3]; exact (Below.refl _ _).alloc (Nat.le_refl _) _
 have hs3 : W3.heap.size = W1.heap.size + 1 := by rw [← hW3]; simp
 have cB3 : W3.cell? ⟨W1.heap.size, 0, none⟩ = some (.slice ap np pp) := by rw [← hW3]; exact cell_newA W1 _ 27 _ 0 _ rfl rfl
 rw [hW3]
 have hbw3 := below_tr hbw1 hb3
 have hsl3 := HSP.out.keep hbw3
 have hS := HSZ.out
 have hvb : ∀ g, (Value.slice ap np pp).ownBlock = some g → 0 < ps.length → g < W3.heap.size ∧ g ≠ w.heap.size + 1 := fun g e h0 => by
  obtain ⟨ao, cap, e1, _, _, _, q4⟩ := HSP.out
  cases e1
  obtain ⟨b, o, e2, dd, _⟩ := q4 0 h0
  have hlt : b < w.heap.size := World.block_lt_of_cell? w _ dd
  rw [e2] at e
  simp [Value.ownBlock] at e
  omega
 have hseq := hostPages_stops (3 - 1) (by omega) W1.heap.size W3.heap.size (w.heap.size + 1) (.slice ap np pp) ps (by have := HPS.out.1; omega) HPS.out.2 W3 (Nat.le_refl _) (by omega) (by omega) cB3 hsl3 hvb
 have HB3 : Hid (Boxed W3 (w.heap.size + 1) 22 (.slice none 0 0) ∧ Below w.heap.size w W3 ∧ W3.heap.size = w.heap.size + 3) := ⟨by rw [← hW3]; exact HBX.out.alloc _, hbw3, by omega⟩
 have d0 := keep_cell hb3 d0
 have d1 := keep_cell hb3 d1
 have d2 := keep_cell hb3 d2
 have d3 := keep_cell hb3 d3
 have hs33 : W3.heap.size = w.heap.size + 3 := HB3.out.2.2
 clear cB3 hs3 hW3 hsl3 hvb hbw3 hb3 hS hb1 hbw1 hW1 hW c0 c1 c2 c3 hb hsz HBX
 refine wpIn_wide.1 (wpIn_rangeFunc_ownF (F := Fence.wide) (n := 3) rfl (by omega) (gf := 88) (lb := #[.pointer (some ⟨W1.heap.size, 0, none⟩)]) rfl trivial (enters_of Tryz.func88 (by kernel_rfl) rfl)
  hseq (fun h k => But.trans h k) (butK_b (Nat.le_refl _)) (Below.refl _ _) (fun _ => rfl)
  (fun pre Wx => But W3.heap.size (w.heap.size + 1) W3 Wx ∧ AskI W3.heap.size (w.heap.size + 1) Wx (askL bs pre))
  (fun c pre Wx => False)
  (fun pre A C row hh hgr hrr => ⟨hh.1.row hgr hh.1.size (fun r e => (hrr r e).1), hh.2.row hgr (fun r e => (hrr r e).2)⟩)
  (fun c pre A C row hh hgr hrr => hh)
  ⟨But.refl _ _ _, ⟨_, HB3.out.1, World.ownsRow_nil _ _ _ _⟩⟩ ?a1 ?assign ?body ?done ?stop)
 case assign =>
  intro l x Wx K hK
  simp only [encK]
  gi_wp2
  exact hK
 case body =>
  rintro l pre x Wx ⟨i1, v, hbx, how⟩ hpre
  obtain ⟨sa, sn, sp, rfl⟩ := own_shape how
  have hx4 : x.val < 4294967296 := by have := x.isLt; omega
  have k0 := hbx.cell
  have k1 := i1.cell (p := ⟨w.heap.size, 2, none⟩) (by simp; omega) (by simp) d2
  have hWx : W3.heap.size ≤ Wx.heap.size := i1.size
  have hlen : (askL bs pre).length ≤ 256 := by have h1 := HPS.out.1; simp only [askL, List.length_map]; omega
  obtain ⟨pk, hpk⟩ : ∃ z, z = hp bs x.val := ⟨_, rfl⟩
  have HPK : Hid (pk = hp bs x.val) := hpk
  have HAL : Hid (askL bs (pre ++ [x]) = askL bs pre ++ [(pk, 3)]) := by show _ = _; rw [askL_snoc, hpk]
  have HI1 : Hid (But W3.heap.size (w.heap.size + 1) W3 Wx) := i1
  have HBW : Hid (Boxed Wx (w.heap.size + 1) 22 (.slice sa sn sp) ∧ Wx.ownsRow W3.heap.size 77 2 (.slice sa sn sp) (askL bs pre).length (rowOf .i64 (askL bs pre))) := ⟨hbx, how⟩
  generalize askL bs pre = xs at HAL HBW hlen
  clear i1 hbx how hpk hpre
  gi_wp2
  refine wpIn_region_cut (R := Ext) [⟨12, fun v _ => v = .slice sa sn sp, fun _ _ _ _ h => h⟩, ⟨13, fun v _ => v = .pointer (some ⟨w.heap.size, 2, none⟩), fun _ _ _ _ h => h⟩, ⟨14, fun v _ => v = .int .u64 (bs : Int), fun _ _ _ _ h => h⟩, ⟨15, fun v _ => v = .int .u32 (x.val : Int), fun _ _ _ _ h => h⟩, ⟨16, fun v _ => v = .int .u64 (pk : Int), fun _ _ _ _ h => h⟩, ⟨17, fun v _ => v = .agg #[.int .u64 (pk : Int), .int .i64 3], fun _ _ _ _ h => h⟩, ⟨18, fun v w' => ∃ b, v = .slice (some ⟨b, 0, none⟩) 1 1 ∧ w'.cell? ⟨b, 0, none⟩ = some (.int .u64 (pk : Int)) ∧ w'.cell? ⟨b, 1, none⟩ = some (.int .i64 3), fun v w' w'' hb ⟨b, e, h1, h2⟩ => ⟨b, e, keep_cell hb h1, keep_cell hb h2⟩⟩] _ 7 (by kernel_rfl) rfl (by kernel_rfl) (by decide) (by kernel_rfl) (Below.drew (Below.refl _ _)) (fun _ _ _ h1 h2 => below_tr h1 h2) (fun QQ => ⟨?_, ?_, ?_, ?_, ?_, ?_, ?_, trivial⟩) (fun f wy hR hf A hA => ?_)
  ·intro A wx hR hout hdep K hK
   have h3 : A.tmps[3]?.getD undef = .pointer (some ⟨w.heap.size + 1, 0, none⟩) := hout 3 (by kernel_rfl)
   refine if_yes (by kernel_rfl) ?_
   have k0 := keep_cell hR k0
   have k1 := keep_cell hR k1
   simp [go_sem, h3, k0, k1]
   exact hK.out _ _ (Below.refl _ _) rfl
  ·intro A wx hR hout hdep K hK
   have h1 : A.tmps[1]?.getD undef = .pointer (some ⟨w.heap.size, 0, none⟩) := hout 1 (by kernel_rfl)
   refine if_yes (by kernel_rfl) ?_
   simp [go_sem, h1]
   exact hK.out _ _ (Below.refl _ _) rfl
  ·intro A wx hR hout hdep K hK
   have h13 : A.tmps[13]?.getD undef = .pointer (some ⟨w.heap.size, 2, none⟩) := hdep 13 (by kernel_rfl)
   refine if_yes (by kernel_rfl) ?_
   have k0 := keep_cell hR k0
   have k1 := keep_cell hR k1
   simp [go_sem, h13, k0, k1]
   exact hK.out _ _ (Below.refl _ _) rfl
  ·intro A wx hR hout hdep K hK
   have h5 : A.tmps[5]?.getD undef = .int .u32 (x.val : Int) := hout 5 (by kernel_rfl)
   refine if_yes (by kernel_rfl) ?_
   simp [go_sem, h5]
   exact hK.out _ _ (Below.refl _ _) rfl
  ·intro A wx hR hout hdep K hK
   have h14 : A.tmps[14]?.getD undef = .int .u64 (bs : Int) := hdep 14 (by kernel_rfl)
   have h15 : A.tmps[15]?.getD undef = .int .u32 (x.val : Int) := hdep 15 (by kernel_rfl)
   refine if_yes (by kernel_rfl) ?_
   simp [go_sem, h14, h15]
   refine ⟨trivial, (CallsIn.inRound l (callsIn_wide.2 (ghostPage59 bs x.val hbs hx4 wx))).mono ?_⟩
   rintro e wG ⟨rfl, rfl⟩
   rw [show bs / 16384 + x.val = pk from HPK.out.symm]
   exact hK.out _ _ (Below.refl _ _) rfl
  ·intro A wx hR hout hdep K hK
   have h16 : A.tmps[16]?.getD undef = .int .u64 (pk : Int) := hdep 16 (by kernel_rfl)
   refine if_yes (by kernel_rfl) ?_
   simp [go_sem, h16]
   exact hK.out _ _ (Below.refl _ _) rfl
  ·intro A wx hR hout hdep K hK
   have h17 : A.tmps[17]?.getD undef = .agg #[.int .u64 (pk : Int), .int .i64 3] := hdep 17 (by kernel_rfl)
   refine if_yes (by kernel_rfl) ?_
   simp [go_sem, h17]
   exact hK.out _ _ (below_alloc (Below.refl _ _) _) ⟨_, rfl, cell_newA wx _ _ _ 0 _ rfl rfl, cell_newA wx _ _ _ 1 _ rfl rfl⟩
  obtain ⟨nb, hv18, y0, y1⟩ : ∃ b, f 18 = .slice (some ⟨b, 0, none⟩) 1 1 ∧ wy.cell? ⟨b, 0, none⟩ = some (.int .u64 (pk : Int)) ∧ wy.cell? ⟨b, 1, none⟩ = some (.int .i64 3) := hf 18 (by kernel_rfl)
  have hv12 : f 12 = .slice sa sn sp := hf 12 (by kernel_rfl)
  simp only [putSl, List.take_succ_cons, List.take_zero, Act.put, List.setIfInBounds_toArray, List.set_cons_zero, List.set_cons_succ, hv18, hv12] at hA
  subst hA
  have how := own_keep HBW.out.2 hR
  have hwy := hR.size
  refine wpAnyIn_ready (rs := [7]) (by kernel_rfl) (by simp) ?_
  refine AllReadyIn.cons rfl (fun K hK => ?_) AllReadyIn.nil
  refine if_yes (by kernel_rfl) ?_
  refine wpIn_append_own' wy (.tmp 12) (.tmp 18) 22 rfl W3.heap.size 77 i0 _ 2 16 Tryz.underlying22 HI.out.1 HI.out.2.1 HI.out.2.2.1 HI.out.2.2.2 rfl (by decide) _ _ _ rfl how ⟨nb, 0, none⟩ 1 1 [.int .u64 (pk : Int), .int .i64 3] rfl rfl (cells2' y0 y1) (one2 _ _ _) (by unfold maxLen; omega) (by omega) (by omega) ?_
  intro v2 w2 how2 hgr2
  obtain ⟨sa2, sn2, sp2, rfl⟩ := own_shape how2
  refine hK _ _ ?_
  clear hK K
  have bx2 : Boxed w2 (w.heap.size + 1) 22 (.slice sa sn sp) := by
   have b1 : Boxed wy (w.heap.size + 1) 22 (.slice sa sn sp) := (hR.block _ HBW.out.1.lt).trans HBW.out.1
   exact b1.kept hgr2 (b1.not_row (by decide) how)
  have q0 := bx2.cell
  have q1 := bx2.frozen
  simp only [Act.put, List.setIfInBounds_toArray, List.set_cons_zero, List.set_cons_succ]
  refine wpAnyIn_ready (rs := [8]) (by kernel_rfl) (by simp) ?_
  refine AllReadyIn.cons rfl (fun K hK => ?_) AllReadyIn.nil
  refine if_yes (by kernel_rfl) ?_
  have HE : Hid (KeepsOthers Wx (w2.setCell ⟨w.heap.size + 1, 0, none⟩ (.slice sa2 sn2 sp2)) ∧ But W3.heap.size (w.heap.size + 1) Wx (w2.setCell ⟨w.heap.size + 1, 0, none⟩ (.slice sa2 sn2 sp2)) ∧ (But W3.heap.size (w.heap.size + 1) W3 (w2.setCell ⟨w.heap.size + 1, 0, none⟩ (.slice sa2 sn2 sp2)) ∧ AskI W3.heap.size (w.heap.size + 1) (w2.setCell ⟨w.heap.size + 1, 0, none⟩ (.slice sa2 sn2 sp2)) (askL bs (pre ++ [x])))) := by
   have hrow : ∀ r, (Value.slice sa sn sp).ownBlock = some r → W3.heap.size ≤ r := own_ge how
   have k1 : KeepsOthers Wx w2 := (KeepsOthers.of_below hR).trans (KeepsOthers.of_grownBy hgr2 (fun j o e ho => by
    obtain ⟨c, fz, q⟩ := Go.Lib.ownsRow_kind how j e
    rw [q] at ho; cases ho; rfl))
   have bt : But W3.heap.size (w.heap.size + 1) Wx (w2.setCell ⟨w.heap.size + 1, 0, none⟩ (.slice sa2 sn2 sp2)) := by
    refine ⟨hgr2.os.trans hR.os, hgr2.tape.trans hR.tape, hgr2.output.trans hR.output, ?_, fun k hk hne => ?_⟩
    ·have := hgr2.size; simp [World.setCell]; omega
    ·rw [Below.heap_setCell _ _ _ _ (by simpa using hne), hgr2.block k (by omega) (fun e => by have := hrow k e.symm; omega), hR.block k (by omega)]
   refine ⟨k1.trans (KeepsOthers.setCell _ _ _), bt, HI1.out.trans bt, ⟨_, bx2.set _, ?_⟩⟩
   rw [HAL.out]
   exact ownsRow_setCell_below (app_own how2) (by simp; omega) _
  clear how how2 hgr2 bx2 hR hwy
  simp [go_sem, q0, q1]
  refine hK _ _ ?_
  refine wpAnyIn_done (by kernel_rfl) ?_ _
  gi_wp2
  exact HE.out
 case done =>
  rintro D ys Wx hD rfl ⟨i1, v, hbx, how⟩ hKD
  obtain ⟨sa, sn, sp, rfl⟩ := own_shape how
  have hWx : W3.heap.size ≤ Wx.heap.size := i1.size
  have d0 := i1.cell (p := ⟨w.heap.size, 0, none⟩) (by simp; omega) (by simp) d0
  have d2 := i1.cell (p := ⟨w.heap.size, 2, none⟩) (by simp; omega) (by simp) d2
  have bel : Below w.heap.size w Wx := HB3.out.2.1.trans ⟨i1.os, i1.tape, i1.output, i1.size, fun k hk => i1.block k (by omega) (by omega)⟩
  have HXX : Hid (Wx.heap[D]? = some (.deferred (some [])) ∧ Below w.heap.size w Wx ∧ Boxed Wx (w.heap.size + 1) 22 (.slice sa sn sp) ∧ Wx.ownsRow W3.heap.size 77 2 (.slice sa sn sp) (askL bs (ksM ps ps.length)).length (rowOf .i64 (askL bs (ksM ps ps.length))) ∧ W3.heap.size ≤ D) := ⟨hKD, bel, hbx, how, hD⟩
  obtain ⟨w3, hw3⟩ : ∃ z, z = Wx := ⟨_, rfl⟩
  rw [← hw3] at d0 d2 HXX hWx ⊢
  have K59 : Hid (∀ w', Calls Tryz.prog 73 #[.int .u64 (bs : Int), .int .u32 0] w' fun e w'' => e = .returned (.int .u64 ((bs / 16384 : Nat) : Int)) ∧ w'' = w') := fun w' => by simpa using ghostPage59 bs 0 hbs (by decide) w'
  obtain ⟨bq, hbq⟩ : ∃ z, z = bs / 16384 := ⟨_, rfl⟩
  have HBQ : Hid (bq = bs / 16384 ∧ bq ≤ 281474976710656) := ⟨hbq, by omega⟩
  rw [← hbq] at K59
  clear hw3 hbx how hKD i1 bel hbq hseq d1 d3 hD
  have hD3 : W3.heap.size ≤ w3.heap.size := hWx
  go_wp2
  go_loopw [4, 24] (fun s i wr => ∃ m : Nat, m ≤ ms.length ∧ i = .int .i64 (m : Int) ∧ wr.ownsRow w3.heap.size 77 2 s (by_ (inP bs) (ms.take m)).length (rowOf .i64 (by_ (inP bs) (ms.take m))) ∧ Below w3.heap.size w3 wr) (fun _ i _ => ms.length - (intOf i).toNat)
  case atStart => exact ⟨0, Nat.zero_le _, rfl, World.ownsRow_nil _ _ _ _, Below.refl _ _⟩
  case round =>
   obtain ⟨m, hmle, rfl, how, hbr⟩ := hrel
   obtain ⟨ta, tn, tp, rfl⟩ := own_shape how
   have hlm : (by_ (inP bs) (ms.take m)).length ≤ m := Nat.le_trans (List.length_filter_le _ _) (by simp; omega)
   have e0 := keep_cell hbr d0
   have e2 := keep_cell hbr d2
   have hWr := hbr.size
   by_cases hml : m < ms.length
   ·obtain ⟨bb, o, rfl, D0, D1⟩ := HXM.out m hml
    have k0 := keep_cell (hbr) (keep_cell HXX.out.2.1 D0)
    have k1 := keep_cell (hbr) (keep_cell HXX.out.2.1 D1)
    have HSN := by_snoc (inP bs) ms m hml
    obtain ⟨p, hp⟩ : ∃ p, p = ms[m].1 := ⟨_, rfl⟩
    obtain ⟨r, hr⟩ : ∃ r, r = ms[m].2 := ⟨_, rfl⟩
    have hx : ms[m] = (p, r) := by rw [hp, hr]
    have hpl := HRM.out _ (List.getElem_mem hml)
    rw [hx] at HSN hpl
    simp only at HSN hpl
    rw [← hp] at k0
    rw [← hr] at k1
    clear hp hr hx D0 D1
    generalize by_ (inP bs) (ms.take m) = xs at how HSN hlm
    obtain ⟨W2, hW2, hb2, hsz2, m0, m1, mf0, mf1⟩ := box2 wr (.int .u64 (p : Int)) (.int .i64 r) 77
    have how2' := own_keep how hb2
    have hbr2 := below_tr hbr hb2
    have hW2z := hbr2.size
    have e0 := keep_cell hb2 e0
    have e2 := keep_cell hb2 e2
    obtain ⟨d, hd, hd2⟩ : ∃ d : Nat, IntKind.u64.wrap ((p : Int) - (bq : Int)) = (d : Int) ∧ (d < 262144 ↔ bq ≤ p ∧ p < bq + 262144) := by
     have := HBQ.out.2
     by_cases c : bq ≤ p
     ·exact ⟨p - bq, by rw [IntKind.wrap_u64]; omega, by omega⟩
     ·exact ⟨18446744073709551616 + p - bq, by rw [IntKind.wrap_u64]; omega, by omega⟩
    have HIN : Hid (inP bs p = decide (d < 262144)) := by show _ = _; rw [inP, Bool.eq_iff_iff]; simp only [decide_eq_true_eq]; rw [hd2, HBQ.out.1]
    rw [HIN.out] at HSN
    clear hsz2 how hbr hd2
    by_cases hin : d < 262144
    ·have HSN : Hid (by_ (inP bs) (ms.take (m + 1)) = xs ++ [(p, r)]) := by show _ = _; rw [HSN, if_pos (decide_eq_true hin)]
     have hinI : (d : Int) < 262144 := by omega
     have hinD : decide ((d : Int) < 262144) = true := decide_eq_true hinI
     go_wp2
     refine wp_region_slots (R := Ext) [⟨28, fun v _ => v = .pointer (some ⟨wr.heap.size, 0, none⟩), fun _ _ _ _ h => h⟩, ⟨29, fun v _ => v = .int .u64 (p : Int), fun _ _ _ _ h => h⟩, ⟨30, fun v _ => v = .pointer (some ⟨w.heap.size, 2, none⟩), fun _ _ _ _ h => h⟩, ⟨31, fun v _ => v = .int .u64 (bs : Int), fun _ _ _ _ h => h⟩, ⟨32, fun v _ => v = .int .u64 (bq : Int), fun _ _ _ _ h => h⟩, ⟨33, fun v _ => v = .int .u64 (d : Int), fun _ _ _ _ h => h⟩, ⟨34, fun v _ => v = .bool true, fun _ _ _ _ h => h⟩] _ (by kernel_rfl) rfl (by kernel_rfl) (Below.drew (Below.refl _ _)) (fun _ _ _ h1 h2 => below_tr h1 h2) (fun QQ => ⟨?_, ?_, ?_, ?_, ?_, ?_, ?_, trivial⟩) (fun f wy hR hf => ?_)
     ·intro A wx hR hout hdep K hK
      have h7 : A.tmps[7]?.getD undef = .pointer (some ⟨wr.heap.size, 0, none⟩) := hout 7 (by kernel_rfl)
      refine if_yes (by kernel_rfl) ?_
      simp [go_sem, h7, hd, hin, hinI, hinD]
      exact hK.out _ _ (Below.refl _ _) rfl
     ·intro A wx hR hout hdep K hK
      have h28 : A.tmps[28]?.getD undef = .pointer (some ⟨wr.heap.size, 0, none⟩) := hdep 28 (by kernel_rfl)
      refine if_yes (by kernel_rfl) ?_
      have m0 := keep_cell hR m0
      have m1 := keep_cell hR m1
      have e2 := keep_cell hR e2
      simp [go_sem, h28, m0, m1, e2, hd, hin, hinI, hinD]
      exact hK.out _ _ (Below.refl _ _) rfl
     ·intro A wx hR hout hdep K hK
      have h1 : A.tmps[1]?.getD undef = .pointer (some ⟨w.heap.size, 0, none⟩) := hout 1 (by kernel_rfl)
      refine if_yes (by kernel_rfl) ?_
      simp [go_sem, h1, hd, hin, hinI, hinD]
      exact hK.out _ _ (Below.refl _ _) rfl
     ·intro A wx hR hout hdep K hK
      have h30 : A.tmps[30]?.getD undef = .pointer (some ⟨w.heap.size, 2, none⟩) := hdep 30 (by kernel_rfl)
      refine if_yes (by kernel_rfl) ?_
      have m0 := keep_cell hR m0
      have m1 := keep_cell hR m1
      have e2 := keep_cell hR e2
      simp [go_sem, h30, m0, m1, e2, hd, hin, hinI, hinD]
      exact hK.out _ _ (Below.refl _ _) rfl
     ·intro A wx hR hout hdep K hK
      have h31 : A.tmps[31]?.getD undef = .int .u64 (bs : Int) := hdep 31 (by kernel_rfl)
      refine if_yes (by kernel_rfl) ?_
      simp [go_sem, h31, hd, hin, hinI, hinD]
      refine (K59.out wx).mono ?_
      rintro e wG ⟨rfl, rfl⟩
      exact hK.out _ _ (Below.refl _ _) rfl
     ·intro A wx hR hout hdep K hK
      have h29 : A.tmps[29]?.getD undef = .int .u64 (p : Int) := hdep 29 (by kernel_rfl)
      have h32 : A.tmps[32]?.getD undef = .int .u64 (bq : Int) := hdep 32 (by kernel_rfl)
      refine if_yes (by kernel_rfl) ?_
      simp [go_sem, h29, h32, hd, hin, hinI, hinD]
      exact hK.out _ _ (Below.refl _ _) rfl
     ·intro A wx hR hout hdep K hK
      have h33 : A.tmps[33]?.getD undef = .int .u64 (d : Int) := hdep 33 (by kernel_rfl)
      refine if_yes (by kernel_rfl) ?_
      simp [go_sem, h33, hd, hin, hinI, hinD]
      exact hK.out _ _ (Below.refl _ _) rfl

     simp only [putSl, Act.put, List.setIfInBounds_toArray, List.set_cons_zero, List.set_cons_succ]
     have hz : f 34 = .bool true := hf 34 (by kernel_rfl)
     rw [hz]
     have how2' := own_keep how2' hR
     have hbr2 := below_tr hbr2 hR
     have hW2z := hbr2.size
     have m0 := keep_cell hR m0
     have m1 := keep_cell hR m1
     clear hf hz
     obtain ⟨W2', hWW⟩ : ∃ z, z = wy := ⟨_, rfl⟩
     rw [← hWW] at how2' hbr2 hW2z m0 m1 ⊢
     clear hWW hR
     go_wp2_with (at_builtin; refine wpList_append_own _ rfl (.tmp 35) (.tmp 37) 22 rfl w3.heap.size 77 i0 _ 2 16 Tryz.underlying22 HI.out.1 HI.out.2.1 HI.out.2.2.1 HI.out.2.2.2 rfl (by decide) _ _ _ rfl (own_alloc how2' _) ⟨W2'.heap.size, 0, none⟩ 1 1 [.int .u64 (p : Int), .int .i64 r] rfl rfl (cells2 _ _ _ _) (one2 _ _ _) (by unfold maxLen; omega) (by omega) (by simp; omega) ?_; intro sv w2 how2 hgr2 _; obtain ⟨sa2, sn2, sp2, rfl⟩ := own_shape how2; have R2 := app_own how2; have B2 : Below w3.heap.size w3 w2 := app_below _ hbr2 hW2z hgr2 (own_ge how2'); have S2 := B2.size; have HR2 : Hid (w2.ownsRow w3.heap.size 77 2 (.slice sa2 sn2 sp2) (xs ++ [(p, r)]).length (rowOf .i64 (xs ++ [(p, r)]))) := R2; have HB2 : Hid (Below w3.heap.size w3 w2) := B2; clear R2 B2 how2 hgr2 S2)
     go_roundw
     case rel => exact ⟨m + 1, by omega, by go_num, by rw [HSN.out]; exact HR2.out, HB2.out⟩
     case measure => simp [intOf]; omega
    ·have HSN : Hid (by_ (inP bs) (ms.take (m + 1)) = xs) := by show _ = _; rw [HSN, if_neg (by simpa using hin), List.append_nil]
     have hinI : ¬ (d : Int) < 262144 := by omega
     have hinD : decide ((d : Int) < 262144) = false := decide_eq_false hinI
     go_wp2
     refine wp_region_slots (R := Ext) [⟨28, fun v _ => v = .pointer (some ⟨wr.heap.size, 0, none⟩), fun _ _ _ _ h => h⟩, ⟨29, fun v _ => v = .int .u64 (p : Int), fun _ _ _ _ h => h⟩, ⟨30, fun v _ => v = .pointer (some ⟨w.heap.size, 2, none⟩), fun _ _ _ _ h => h⟩, ⟨31, fun v _ => v = .int .u64 (bs : Int), fun _ _ _ _ h => h⟩, ⟨32, fun v _ => v = .int .u64 (bq : Int), fun _ _ _ _ h => h⟩, ⟨33, fun v _ => v = .int .u64 (d : Int), fun _ _ _ _ h => h⟩, ⟨34, fun v _ => v = .bool false, fun _ _ _ _ h => h⟩] _ (by kernel_rfl) rfl (by kernel_rfl) (Below.drew (Below.refl _ _)) (fun _ _ _ h1 h2 => below_tr h1 h2) (fun QQ => ⟨?_, ?_, ?_, ?_, ?_, ?_, ?_, trivial⟩) (fun f wy hR hf => ?_)
     ·intro A wx hR hout hdep K hK
      have h7 : A.tmps[7]?.getD undef = .pointer (some ⟨wr.heap.size, 0, none⟩) := hout 7 (by kernel_rfl)
      refine if_yes (by kernel_rfl) ?_
      simp [go_sem, h7, hd, hin, hinI, hinD]
      exact hK.out _ _ (Below.refl _ _) rfl
     ·intro A wx hR hout hdep K hK
      have h28 : A.tmps[28]?.getD undef = .pointer (some ⟨wr.heap.size, 0, none⟩) := hdep 28 (by kernel_rfl)
      refine if_yes (by kernel_rfl) ?_
      have m0 := keep_cell hR m0
      have m1 := keep_cell hR m1
      have e2 := keep_cell hR e2
      simp [go_sem, h28, m0, m1, e2, hd, hin, hinI, hinD]
      exact hK.out _ _ (Below.refl _ _) rfl
     ·intro A wx hR hout hdep K hK
      have h1 : A.tmps[1]?.getD undef = .pointer (some ⟨w.heap.size, 0, none⟩) := hout 1 (by kernel_rfl)
      refine if_yes (by kernel_rfl) ?_
      simp [go_sem, h1, hd, hin, hinI, hinD]
      exact hK.out _ _ (Below.refl _ _) rfl
     ·intro A wx hR hout hdep K hK
      have h30 : A.tmps[30]?.getD undef = .pointer (some ⟨w.heap.size, 2, none⟩) := hdep 30 (by kernel_rfl)
      refine if_yes (by kernel_rfl) ?_
      have m0 := keep_cell hR m0
      have m1 := keep_cell hR m1
      have e2 := keep_cell hR e2
      simp [go_sem, h30, m0, m1, e2, hd, hin, hinI, hinD]
      exact hK.out _ _ (Below.refl _ _) rfl
     ·intro A wx hR hout hdep K hK
      have h31 : A.tmps[31]?.getD undef = .int .u64 (bs : Int) := hdep 31 (by kernel_rfl)
      refine if_yes (by kernel_rfl) ?_
      simp [go_sem, h31, hd, hin, hinI, hinD]
      refine (K59.out wx).mono ?_
      rintro e wG ⟨rfl, rfl⟩
      exact hK.out _ _ (Below.refl _ _) rfl
     ·intro A wx hR hout hdep K hK
      have h29 : A.tmps[29]?.getD undef = .int .u64 (p : Int) := hdep 29 (by kernel_rfl)
      have h32 : A.tmps[32]?.getD undef = .int .u64 (bq : Int) := hdep 32 (by kernel_rfl)
      refine if_yes (by kernel_rfl) ?_
      simp [go_sem, h29, h32, hd, hin, hinI, hinD]
      exact hK.out _ _ (Below.refl _ _) rfl
     ·intro A wx hR hout hdep K hK
      have h33 : A.tmps[33]?.getD undef = .int .u64 (d : Int) := hdep 33 (by kernel_rfl)
      refine if_yes (by kernel_rfl) ?_
      simp [go_sem, h33, hd, hin, hinI, hinD]
      exact hK.out _ _ (Below.refl _ _) rfl

     simp only [putSl, Act.put, List.setIfInBounds_toArray, List.set_cons_zero, List.set_cons_succ]
     have hz : f 34 = .bool false := hf 34 (by kernel_rfl)
     rw [hz]
     have HR2 : Hid (wy.ownsRow w3.heap.size 77 2 (.slice ta tn tp) xs.length (rowOf .i64 xs)) := own_keep how2' hR
     have HB2 : Hid (Below w3.heap.size w3 wy) := below_tr hbr2 hR
     clear hf hz how2' hbr2
     go_wp2
     go_roundw
     case rel => exact ⟨m + 1, by omega, by go_num, by rw [HSN.out]; exact HR2.out, HB2.out⟩
     case measure => simp [intOf]; omega
   ·obtain rfl : m = ms.length := by omega
    rw [List.take_length] at how
    obtain ⟨hDD, hbel, hbx, hoa, hDl⟩ := HXX.out
    have hDs : D < w3.heap.size := (Array.getElem?_eq_some_iff.1 hDD).1
    have q0 := keep_cell hbr hbx.cell
    have K60 := equal34 (.slice sa sn sp) (.slice ta tn tp) _ _ wr (own_sl (own_keep hoa hbr)) (own_sl how) (by
     have h1 := HPS.out.1
     have h2 := ksM_len ps ps.length
     simp only [askL, List.length_map]; omega)
    rw [← HZ.out] at K60
    have HDW : Hid (wr.heap[D]? = some (.deferred (some [])) ∧ D < wr.heap.size ∧ Below w.heap.size w wr ∧ w.heap.size ≤ D) := ⟨(hbr.block D hDs).trans hDD, by omega, below_tr hbel hbr, by omega⟩
    clear hDD hbel hbx hoa hDl hDs how HXX hbr hlm hml hmle
    go_wp2_with fail
    refine K60.mono ?_
    rintro e w6 ⟨rfl, hb6⟩
    have HD6 : Hid (w6.heap[D]? = some (.deferred (some [])) ∧ Below w.heap.size w (w6.putObj D (.deferred none))) := by
     have h1 := HDW.out
     have h6 := below_tr h1.2.2.1 hb6
     refine ⟨(hb6.block D h1.2.1).trans h1.1, h6.trans (belowK_b (Nat.le_refl _) w6 D _ _ h1.2.2.2 ((hb6.block D h1.2.1).trans h1.1) rfl rfl)⟩
    clear K60 hb6 HDW q0
    go_wp2
    (try simp only [Exit.inBlock, Exit.then])
    refine ⟨by simp, .inl ⟨_, _, rfl, run_takeDeferred HD6.out.1, ?_⟩⟩
    refine ⟨.bool zr, ?_, rfl, HD6.out.2⟩
    rw [results_tmp rfl]
    rfl
 case stop =>
  rintro D c pre Wx hD hSp h _
  exact h.elim
end Go.Proofs.YtkpmkgkfpikpfaaGreat
namespace Go.Proofs.YtkpmkgkfpikpfaaGreat
open Go.RowKit
set_option linter.unusedVariables false
set_option linter.unusedSimpArgs false
set_option maxRecDepth 100000
theorem wanted_undef {ops : Array Oper} {o : Oper} {A : Act} {j t : Nat} {b : Bool} (hg : o.guard = some (j, b)) (hd : (ops[j]?).bind (·.dst) = some t) (hv : A.tmps[t]?.getD undef = undef) : Region.wanted o (yielded ops A.tmps) = false := by
 unfold Region.wanted yielded
 simp only [hg, hd, Option.bind_some]
 cases h : A.tmps[t]? with
 | none => rfl
 | some v => rw [h] at hv; simp at hv; subst hv; rfl
def PgOk (ps : List (Nat × Int)) : Prop := ps.length ≤ 256 ∧ (∀ x ∈ ps, x.1 < 1048576 ∧ 0 ≤ x.2 ∧ x.2 ≤ 7) ∧ Srt ps
open Classical in
noncomputable def pgB (ps : List (Nat × Int)) : Bool := decide (PgOk ps)
open Classical in
theorem pgB_no {ps : List (Nat × Int)} (h : ¬ PgOk ps) : pgB ps = false := decide_eq_false h
open Classical in
theorem pgB_yes {ps : List (Nat × Int)} (h : PgOk ps) : pgB ps = true := decide_eq_true h
def GoodAt (ps : List (Nat × Int)) (j : Nat) : Prop := (ps.getD j (0, 0)).1 < 1048576 ∧ 0 ≤ (ps.getD j (0, 0)).2 ∧ (ps.getD j (0, 0)).2 ≤ 7 ∧ (0 < j → (ps.getD (j - 1) (0, 0)).1 < (ps.getD j (0, 0)).1)
theorem pgOk_of {ps : List (Nat × Int)} (hl : ps.length ≤ 256) (h : ∀ j, j < ps.length → GoodAt ps j) : PgOk ps := by
 refine ⟨hl, fun x hx => ?_, srt_of (fun i hi h0 => (h i hi).2.2.2 h0)⟩
 obtain ⟨j, hj, rfl⟩ := List.getElem_of_mem hx
 have := h j hj
 rw [GoodAt, getD_at hj] at this
 exact ⟨this.1, this.2.1, this.2.2.1⟩
theorem good_of {ps : List (Nat × Int)} (h : PgOk ps) {j : Nat} (hj : j < ps.length) : GoodAt ps j := by
 have hx := h.2.1 _ (List.getElem_mem hj)
 refine ⟨by rw [getD_at hj]; exact hx.1, by rw [getD_at hj]; exact hx.2.1, by rw [getD_at hj]; exact hx.2.2, fun h0 => srt_get h.2.2 j hj h0⟩
set_option maxHeartbeats 2000000 in
theorem gareFit29 (vp : Value) (ps : List (Nat × Int)) (w : World) (hp : Pg.Sl .i64 w vp ps) (hpn : ∀ y ∈ ps, y.1 < 4294967296) :
  Calls Tryz.prog 40 #[vp] w fun e w' => e = .returned (.bool (pgB ps)) ∧ Below w.heap.size w w' := by
 obtain ⟨ao, cap, rfl, hc1, hc2, hc3, hc4⟩ := hp
 by_cases hlen : 256 < ps.length
 ·rw [pgB_no (fun h => by have := h.1; omega)]
  clear hc4 hpn
  go_enter Tryz.func40, Tryz.ntmps40
  go_wp2
  go_ret
  exact ⟨rfl, Below.refl _ _⟩
 have HX : Hid (∀ i (h : i < ps.length), ∃ b o, ao = some ⟨b, o, none⟩ ∧ w.cell? ⟨b, o + i * 2, none⟩ = some (.int .u32 (ps[i].1 : Int)) ∧ w.cell? ⟨b, o + i * 2 + 1, none⟩ = some (.int .i64 ps[i].2)) := hc4
 have HPN : Hid (∀ y ∈ ps, y.1 < 4294967296) := hpn
 have HLE : Hid (ps.length ≤ 256) := by show _ ≤ _; omega
 obtain ⟨zr, hzr⟩ : ∃ z, z = pgB ps := ⟨_, rfl⟩
 rw [← hzr]
 have HZ : Hid (zr = pgB ps) := hzr
 clear hc3 hc4 hpn hzr
 go_enter Tryz.func40, Tryz.ntmps40
 go_wp2
 go_loopw [10] (fun i wr => ∃ k : Nat, k ≤ ps.length ∧ i = .int .i64 (k : Int) ∧ (∀ j, j < k → GoodAt ps j) ∧ Below w.heap.size w wr) (fun i _ => ps.length - (intOf i).toNat)
 case atStart => exact ⟨0, Nat.zero_le _, rfl, fun j hj => by omega, Below.refl _ _⟩
 case round =>
  obtain ⟨k, hk, rfl, hgd, hbr⟩ := hrel
  have HG : Hid (∀ j, j < k → GoodAt ps j) := hgd
  clear hgd
  by_cases hkl : k < ps.length
  ·obtain ⟨b, o, rfl, D0, D1⟩ := HX.out k hkl
   have d0 := keep_cell hbr D0
   have d1 := keep_cell hbr D1
   have hpl := HPN.out _ (List.getElem_mem hkl)
   have HGK : Hid (∀ p r, ps[k].1 = p → ps[k].2 = r → (p < 1048576 ∧ protOk r = true ∧ (0 < k → (ps.getD (k - 1) (0, 0)).1 < p) ↔ GoodAt ps k)) := fun p r e1 e2 => by
    unfold GoodAt protOk
    rw [getD_at hkl, e1, e2]
    simp only [decide_eq_true_eq]
    constructor
    ·rintro ⟨a, b, c⟩; exact ⟨a, b.1, b.2, c⟩
    ·rintro ⟨a, b, c, d⟩; exact ⟨a, ⟨b, c⟩, d⟩
   obtain ⟨p, hp⟩ : ∃ p, p = ps[k].1 := ⟨_, rfl⟩
   obtain ⟨r, hr⟩ : ∃ r, r = ps[k].2 := ⟨_, rfl⟩
   have HGK := HGK.out p r hp.symm hr.symm
   have HGK : Hid (p < 1048576 ∧ protOk r = true ∧ (0 < k → (ps.getD (k - 1) (0, 0)).1 < p) ↔ GoodAt ps k) := HGK
   rw [← hp] at d0 hpl
   rw [← hr] at d1
   clear hp hr D0 D1
   obtain ⟨W2, hW2, hb2, hsz2, m0, m1, mf0, mf1⟩ := box2 wr (.int .u32 (p : Int)) (.int .i64 r) 53
   have NO : Hid (¬ GoodAt ps k → zr = false) := fun h => by rw [HZ.out]; exact pgB_no (fun g => h (good_of g hkl))
   have YES : Hid (GoodAt ps k → ∀ j, j < k + 1 → GoodAt ps j) := fun h j hj => by
    by_cases e : j = k
    ·subst e; exact h
    ·exact HG.out j (by omega)
   clear hsz2
   by_cases hA : 1048576 ≤ p
   ·have HNO : Hid (zr = false) := NO.out (fun h => by have := (HGK.out.2 h).1; omega)
    have hAI : (1048576 : Int) ≤ (p : Int) := by omega
    have hAD : decide ((1048576 : Int) ≤ (p : Int)) = true := decide_eq_true hAI
    go_wp2
    refine wp_region_slots (R := Ext) [⟨15, fun v _ => v = .pointer (some ⟨wr.heap.size, 0, none⟩), fun _ _ _ _ h => h⟩, ⟨16, fun v _ => v = .int .u32 (p : Int), fun _ _ _ _ h => h⟩, ⟨17, fun v _ => v = .bool true, fun _ _ _ _ h => h⟩, ⟨18, fun v _ => v = .bool true, fun _ _ _ _ h => h⟩, ⟨19, fun v _ => v = undef, fun _ _ _ _ h => h⟩, ⟨20, fun v _ => v = undef, fun _ _ _ _ h => h⟩, ⟨21, fun v _ => v = undef, fun _ _ _ _ h => h⟩, ⟨22, fun v _ => v = undef, fun _ _ _ _ h => h⟩, ⟨23, fun v _ => v = .bool true, fun _ _ _ _ h => h⟩, ⟨24, fun v _ => v = .bool true, fun _ _ _ _ h => h⟩, ⟨25, fun v _ => v = undef, fun _ _ _ _ h => h⟩, ⟨26, fun v _ => v = undef, fun _ _ _ _ h => h⟩, ⟨27, fun v _ => v = undef, fun _ _ _ _ h => h⟩, ⟨28, fun v _ => v = undef, fun _ _ _ _ h => h⟩, ⟨29, fun v _ => v = undef, fun _ _ _ _ h => h⟩, ⟨30, fun v _ => v = undef, fun _ _ _ _ h => h⟩, ⟨31, fun v _ => v = undef, fun _ _ _ _ h => h⟩, ⟨32, fun v _ => v = undef, fun _ _ _ _ h => h⟩, ⟨33, fun v _ => v = undef, fun _ _ _ _ h => h⟩, ⟨34, fun v _ => v = undef, fun _ _ _ _ h => h⟩, ⟨35, fun v _ => v = undef, fun _ _ _ _ h => h⟩, ⟨36, fun v _ => v = undef, fun _ _ _ _ h => h⟩, ⟨37, fun v _ => v = undef, fun _ _ _ _ h => h⟩, ⟨38, fun v _ => v = .bool true, fun _ _ _ _ h => h⟩] _ (by kernel_rfl) rfl (by kernel_rfl) (Below.drew (Below.refl _ _)) (fun _ _ _ h1 h2 => below_tr h1 h2) (fun QQ => ⟨?_, ?_, ?_, ?_, ?_, ?_, ?_, ?_, ?_, ?_, ?_, ?_, ?_, ?_, ?_, ?_, ?_, ?_, ?_, ?_, ?_, ?_, ?_, ?_, trivial⟩) (fun f wy hR hf => ?_)
    ·intro A wx hR hout hdep K hK
     have h4 : A.tmps[4]?.getD undef = .pointer (some ⟨wr.heap.size, 0, none⟩) := hout 4 (by kernel_rfl)
     refine if_yes (by kernel_rfl) ?_
     simp [go_sem, h4, hA, hAI, hAD]
     exact hK.out _ _ (Below.refl _ _) rfl
    ·intro A wx hR hout hdep K hK
     have h15 : A.tmps[15]?.getD undef = .pointer (some ⟨wr.heap.size, 0, none⟩) := hdep 15 (by kernel_rfl)
     refine if_yes (by kernel_rfl) ?_
     have m0 := keep_cell hR m0
     have m1 := keep_cell hR m1
     simp [go_sem, h15, m0, m1, hA, hAI, hAD]
     exact hK.out _ _ (Below.refl _ _) rfl
    ·intro A wx hR hout hdep K hK
     have h16 : A.tmps[16]?.getD undef = .int .u32 (p : Int) := hdep 16 (by kernel_rfl)
     refine if_yes (by kernel_rfl) ?_
     simp [go_sem, h16, hA, hAI, hAD]
     exact hK.out _ _ (Below.refl _ _) rfl
    ·intro A wx hR hout hdep K hK
     have h17 : A.tmps[17]?.getD undef = .bool true := hdep 17 (by kernel_rfl)
     refine if_yes (by kernel_rfl) ?_
     simp [go_sem, h17, hA, hAI, hAD]
     exact hK.out _ _ (Below.refl _ _) rfl
    iterate 4
     ·intro A wx hR hout hdep K hK
      have h18 : A.tmps[18]?.getD undef = .bool true := hdep 18 (by kernel_rfl)
      refine if_not (by rw [wanted_is (j := 3) (b := false) (by kernel_rfl) (by kernel_rfl) h18]; decide) ?_
      exact hK.out _ _ (Below.refl _ _) rfl
    ·intro A wx hR hout hdep K hK
     have h18 : A.tmps[18]?.getD undef = .bool true := hdep 18 (by kernel_rfl)
     have h22 : A.tmps[22]?.getD undef = undef := hdep 22 (by kernel_rfl)
     refine if_yes (by kernel_rfl) ?_
     simp [go_sem, h18, h22, hA, hAI, hAD]
     exact hK.out _ _ (Below.refl _ _) rfl
    ·intro A wx hR hout hdep K hK
     have h23 : A.tmps[23]?.getD undef = .bool true := hdep 23 (by kernel_rfl)
     refine if_yes (by kernel_rfl) ?_
     simp [go_sem, h23, hA, hAI, hAD]
     exact hK.out _ _ (Below.refl _ _) rfl
    iterate 3
     ·intro A wx hR hout hdep K hK
      have h24 : A.tmps[24]?.getD undef = .bool true := hdep 24 (by kernel_rfl)
      refine if_not (by rw [wanted_is (j := 9) (b := false) (by kernel_rfl) (by kernel_rfl) h24]; decide) ?_
      exact hK.out _ _ (Below.refl _ _) rfl
    iterate 9
     ·intro A wx hR hout hdep K hK
      have h27 : A.tmps[27]?.getD undef = undef := hdep 27 (by kernel_rfl)
      refine if_not (by rw [wanted_undef (j := 12) (b := true) (by kernel_rfl) (by kernel_rfl) h27]; decide) ?_
      exact hK.out _ _ (Below.refl _ _) rfl
    ·intro A wx hR hout hdep K hK
     have h24 : A.tmps[24]?.getD undef = .bool true := hdep 24 (by kernel_rfl)
     refine if_not (by rw [wanted_is (j := 9) (b := false) (by kernel_rfl) (by kernel_rfl) h24]; decide) ?_
     exact hK.out _ _ (Below.refl _ _) rfl
    ·intro A wx hR hout hdep K hK
     have h24 : A.tmps[24]?.getD undef = .bool true := hdep 24 (by kernel_rfl)
     have h37 : A.tmps[37]?.getD undef = undef := hdep 37 (by kernel_rfl)
     refine if_yes (by kernel_rfl) ?_
     simp [go_sem, h24, h37, hA, hAI, hAD]
     exact hK.out _ _ (Below.refl _ _) rfl
    simp only [putSl, Act.put, List.setIfInBounds_toArray, List.set_cons_zero, List.set_cons_succ]
    have hz : f 38 = .bool true := hf 38 (by kernel_rfl)
    rw [hz]
    have hbz := below_tr (below_tr hbr hb2) hR
    clear hf hz
    go_wp2
    go_ret
    exact ⟨by rw [HNO.out]; rfl, hbz⟩
   ·have hA : ¬ 1048576 ≤ p := hA
    have hAI : ¬ (1048576 : Int) ≤ (p : Int) := by omega
    have hAD : decide ((1048576 : Int) ≤ (p : Int)) = false := decide_eq_false hAI
    cases hpk : protOk r with
    | false =>
     have HNO : Hid (zr = false) := NO.out (fun h => by have := (HGK.out.2 h).2.1; rw [hpk] at this; cases this)
     go_wp2
     refine wp_region_slots (R := Ext) [⟨15, fun v _ => v = .pointer (some ⟨wr.heap.size, 0, none⟩), fun _ _ _ _ h => h⟩, ⟨16, fun v _ => v = .int .u32 (p : Int), fun _ _ _ _ h => h⟩, ⟨17, fun v _ => v = .bool false, fun _ _ _ _ h => h⟩, ⟨18, fun v _ => v = .bool false, fun _ _ _ _ h => h⟩, ⟨19, fun v _ => v = .pointer (some ⟨wr.heap.size, 1, none⟩), fun _ _ _ _ h => h⟩, ⟨20, fun v _ => v = .int .i64 r, fun _ _ _ _ h => h⟩, ⟨21, fun v _ => v = .bool false, fun _ _ _ _ h => h⟩, ⟨22, fun v _ => v = .bool true, fun _ _ _ _ h => h⟩, ⟨23, fun v _ => v = .bool true, fun _ _ _ _ h => h⟩, ⟨24, fun v _ => v = .bool true, fun _ _ _ _ h => h⟩, ⟨25, fun v _ => v = undef, fun _ _ _ _ h => h⟩, ⟨26, fun v _ => v = undef, fun _ _ _ _ h => h⟩, ⟨27, fun v _ => v = undef, fun _ _ _ _ h => h⟩, ⟨28, fun v _ => v = undef, fun _ _ _ _ h => h⟩, ⟨29, fun v _ => v = undef, fun _ _ _ _ h => h⟩, ⟨30, fun v _ => v = undef, fun _ _ _ _ h => h⟩, ⟨31, fun v _ => v = undef, fun _ _ _ _ h => h⟩, ⟨32, fun v _ => v = undef, fun _ _ _ _ h => h⟩, ⟨33, fun v _ => v = undef, fun _ _ _ _ h => h⟩, ⟨34, fun v _ => v = undef, fun _ _ _ _ h => h⟩, ⟨35, fun v _ => v = undef, fun _ _ _ _ h => h⟩, ⟨36, fun v _ => v = undef, fun _ _ _ _ h => h⟩, ⟨37, fun v _ => v = undef, fun _ _ _ _ h => h⟩, ⟨38, fun v _ => v = .bool true, fun _ _ _ _ h => h⟩] _ (by kernel_rfl) rfl (by kernel_rfl) (Below.drew (Below.refl _ _)) (fun _ _ _ h1 h2 => below_tr h1 h2) (fun QQ => ⟨?_, ?_, ?_, ?_, ?_, ?_, ?_, ?_, ?_, ?_, ?_, ?_, ?_, ?_, ?_, ?_, ?_, ?_, ?_, ?_, ?_, ?_, ?_, ?_, trivial⟩) (fun f wy hR hf => ?_)
     ·intro A wx hR hout hdep K hK
      have h4 : A.tmps[4]?.getD undef = .pointer (some ⟨wr.heap.size, 0, none⟩) := hout 4 (by kernel_rfl)
      refine if_yes (by kernel_rfl) ?_
      simp [go_sem, h4, hA, hAI, hAD]
      exact hK.out _ _ (Below.refl _ _) rfl
     ·intro A wx hR hout hdep K hK
      have h15 : A.tmps[15]?.getD undef = .pointer (some ⟨wr.heap.size, 0, none⟩) := hdep 15 (by kernel_rfl)
      refine if_yes (by kernel_rfl) ?_
      have m0 := keep_cell hR m0
      have m1 := keep_cell hR m1
      simp [go_sem, h15, m0, m1, hA, hAI, hAD]
      exact hK.out _ _ (Below.refl _ _) rfl
     ·intro A wx hR hout hdep K hK
      have h16 : A.tmps[16]?.getD undef = .int .u32 (p : Int) := hdep 16 (by kernel_rfl)
      refine if_yes (by kernel_rfl) ?_
      simp [go_sem, h16, hA, hAI, hAD]
      exact hK.out _ _ (Below.refl _ _) rfl
     ·intro A wx hR hout hdep K hK
      have h17 : A.tmps[17]?.getD undef = .bool false := hdep 17 (by kernel_rfl)
      refine if_yes (by kernel_rfl) ?_
      simp [go_sem, h17, hA, hAI, hAD]
      exact hK.out _ _ (Below.refl _ _) rfl
     ·intro A wx hR hout hdep K hK
      have h4 : A.tmps[4]?.getD undef = .pointer (some ⟨wr.heap.size, 0, none⟩) := hout 4 (by kernel_rfl)
      have h18 : A.tmps[18]?.getD undef = .bool false := hdep 18 (by kernel_rfl)
      refine if_yes ((wanted_is (j := 3) (b := false) (by kernel_rfl) (by kernel_rfl) h18).trans rfl) ?_
      simp [go_sem, h4, hA, hAI, hAD]
      exact hK.out _ _ (Below.refl _ _) rfl
     ·intro A wx hR hout hdep K hK
      have h19 : A.tmps[19]?.getD undef = .pointer (some ⟨wr.heap.size, 1, none⟩) := hdep 19 (by kernel_rfl)
      have h18 : A.tmps[18]?.getD undef = .bool false := hdep 18 (by kernel_rfl)
      refine if_yes ((wanted_is (j := 3) (b := false) (by kernel_rfl) (by kernel_rfl) h18).trans rfl) ?_
      have m0 := keep_cell hR m0
      have m1 := keep_cell hR m1
      simp [go_sem, h19, m0, m1, hA, hAI, hAD]
      exact hK.out _ _ (Below.refl _ _) rfl
     ·intro A wx hR hout hdep K hK
      have h20 : A.tmps[20]?.getD undef = .int .i64 r := hdep 20 (by kernel_rfl)
      have h18 : A.tmps[18]?.getD undef = .bool false := hdep 18 (by kernel_rfl)
      refine if_yes ((wanted_is (j := 3) (b := false) (by kernel_rfl) (by kernel_rfl) h18).trans rfl) ?_
      simp [go_sem, h20, hA, hAI, hAD]
      refine (gisProt39 r wx).mono ?_
      rintro e wG ⟨rfl, rfl⟩
      rw [hpk]
      exact hK.out _ _ (Below.refl _ _) rfl
     ·intro A wx hR hout hdep K hK
      have h21 : A.tmps[21]?.getD undef = .bool false := hdep 21 (by kernel_rfl)
      have h18 : A.tmps[18]?.getD undef = .bool false := hdep 18 (by kernel_rfl)
      refine if_yes ((wanted_is (j := 3) (b := false) (by kernel_rfl) (by kernel_rfl) h18).trans rfl) ?_
      simp [go_sem, h21, hA, hAI, hAD]
      exact hK.out _ _ (Below.refl _ _) rfl
     ·intro A wx hR hout hdep K hK
      have h18 : A.tmps[18]?.getD undef = .bool false := hdep 18 (by kernel_rfl)
      have h22 : A.tmps[22]?.getD undef = .bool true := hdep 22 (by kernel_rfl)
      refine if_yes (by kernel_rfl) ?_
      simp [go_sem, h18, h22, hA, hAI, hAD]
      exact hK.out _ _ (Below.refl _ _) rfl
     ·intro A wx hR hout hdep K hK
      have h23 : A.tmps[23]?.getD undef = .bool true := hdep 23 (by kernel_rfl)
      refine if_yes (by kernel_rfl) ?_
      simp [go_sem, h23, hA, hAI, hAD]
      exact hK.out _ _ (Below.refl _ _) rfl
     iterate 3
      ·intro A wx hR hout hdep K hK
       have h24 : A.tmps[24]?.getD undef = .bool true := hdep 24 (by kernel_rfl)
       refine if_not (by rw [wanted_is (j := 9) (b := false) (by kernel_rfl) (by kernel_rfl) h24]; decide) ?_
       exact hK.out _ _ (Below.refl _ _) rfl
     iterate 9
      ·intro A wx hR hout hdep K hK
       have h27 : A.tmps[27]?.getD undef = undef := hdep 27 (by kernel_rfl)
       refine if_not (by rw [wanted_undef (j := 12) (b := true) (by kernel_rfl) (by kernel_rfl) h27]; decide) ?_
       exact hK.out _ _ (Below.refl _ _) rfl
     ·intro A wx hR hout hdep K hK
      have h24 : A.tmps[24]?.getD undef = .bool true := hdep 24 (by kernel_rfl)
      refine if_not (by rw [wanted_is (j := 9) (b := false) (by kernel_rfl) (by kernel_rfl) h24]; decide) ?_
      exact hK.out _ _ (Below.refl _ _) rfl
     ·intro A wx hR hout hdep K hK
      have h24 : A.tmps[24]?.getD undef = .bool true := hdep 24 (by kernel_rfl)
      have h37 : A.tmps[37]?.getD undef = undef := hdep 37 (by kernel_rfl)
      refine if_yes (by kernel_rfl) ?_
      simp [go_sem, h24, h37, hA, hAI, hAD]
      exact hK.out _ _ (Below.refl _ _) rfl
     simp only [putSl, Act.put, List.setIfInBounds_toArray, List.set_cons_zero, List.set_cons_succ]
     have hz : f 38 = .bool true := hf 38 (by kernel_rfl)
     rw [hz]
     have hbz := below_tr (below_tr hbr hb2) hR
     clear hf hz
     go_wp2
     go_ret
     exact ⟨by rw [HNO.out]; rfl, hbz⟩
    | true =>
     by_cases hk0 : k = 0
     ·have HGD : Hid (∀ j, j < k + 1 → GoodAt ps j) := YES.out (HGK.out.1 ⟨by omega, hpk, fun h => by omega⟩)
      have hk0n : ¬ 0 < k := by omega
      have hk0I : ¬ (0 : Int) < (k : Int) := by omega
      clear hk0
      go_wp2
      refine wp_region_slots (R := Ext) [⟨15, fun v _ => v = .pointer (some ⟨wr.heap.size, 0, none⟩), fun _ _ _ _ h => h⟩, ⟨16, fun v _ => v = .int .u32 (p : Int), fun _ _ _ _ h => h⟩, ⟨17, fun v _ => v = .bool false, fun _ _ _ _ h => h⟩, ⟨18, fun v _ => v = .bool false, fun _ _ _ _ h => h⟩, ⟨19, fun v _ => v = .pointer (some ⟨wr.heap.size, 1, none⟩), fun _ _ _ _ h => h⟩, ⟨20, fun v _ => v = .int .i64 r, fun _ _ _ _ h => h⟩, ⟨21, fun v _ => v = .bool true, fun _ _ _ _ h => h⟩, ⟨22, fun v _ => v = .bool false, fun _ _ _ _ h => h⟩, ⟨23, fun v _ => v = .bool false, fun _ _ _ _ h => h⟩, ⟨24, fun v _ => v = .bool false, fun _ _ _ _ h => h⟩, ⟨25, fun v _ => v = .int .i64 (k : Int), fun _ _ _ _ h => h⟩, ⟨26, fun v _ => v = .bool false, fun _ _ _ _ h => h⟩, ⟨27, fun v _ => v = .bool false, fun _ _ _ _ h => h⟩, ⟨28, fun v _ => v = undef, fun _ _ _ _ h => h⟩, ⟨29, fun v _ => v = undef, fun _ _ _ _ h => h⟩, ⟨30, fun v _ => v = undef, fun _ _ _ _ h => h⟩, ⟨31, fun v _ => v = undef, fun _ _ _ _ h => h⟩, ⟨32, fun v _ => v = undef, fun _ _ _ _ h => h⟩, ⟨33, fun v _ => v = undef, fun _ _ _ _ h => h⟩, ⟨34, fun v _ => v = undef, fun _ _ _ _ h => h⟩, ⟨35, fun v _ => v = undef, fun _ _ _ _ h => h⟩, ⟨36, fun v _ => v = undef, fun _ _ _ _ h => h⟩, ⟨37, fun v _ => v = .bool false, fun _ _ _ _ h => h⟩, ⟨38, fun v _ => v = .bool false, fun _ _ _ _ h => h⟩] _ (by kernel_rfl) rfl (by kernel_rfl) (Below.drew (Below.refl _ _)) (fun _ _ _ h1 h2 => below_tr h1 h2) (fun QQ => ⟨?_, ?_, ?_, ?_, ?_, ?_, ?_, ?_, ?_, ?_, ?_, ?_, ?_, ?_, ?_, ?_, ?_, ?_, ?_, ?_, ?_, ?_, ?_, ?_, trivial⟩) (fun f wy hR hf => ?_)
      ·intro A wx hR hout hdep K hK
       have h4 : A.tmps[4]?.getD undef = .pointer (some ⟨wr.heap.size, 0, none⟩) := hout 4 (by kernel_rfl)
       refine if_yes (by kernel_rfl) ?_
       simp [go_sem, h4, hA, hAI, hAD, hk0n, hk0I]
       exact hK.out _ _ (Below.refl _ _) rfl
      ·intro A wx hR hout hdep K hK
       have h15 : A.tmps[15]?.getD undef = .pointer (some ⟨wr.heap.size, 0, none⟩) := hdep 15 (by kernel_rfl)
       refine if_yes (by kernel_rfl) ?_
       have m0 := keep_cell hR m0
       have m1 := keep_cell hR m1
       simp [go_sem, h15, m0, m1, hA, hAI, hAD, hk0n, hk0I]
       exact hK.out _ _ (Below.refl _ _) rfl
      ·intro A wx hR hout hdep K hK
       have h16 : A.tmps[16]?.getD undef = .int .u32 (p : Int) := hdep 16 (by kernel_rfl)
       refine if_yes (by kernel_rfl) ?_
       simp [go_sem, h16, hA, hAI, hAD, hk0n, hk0I]
       exact hK.out _ _ (Below.refl _ _) rfl
      ·intro A wx hR hout hdep K hK
       have h17 : A.tmps[17]?.getD undef = .bool false := hdep 17 (by kernel_rfl)
       refine if_yes (by kernel_rfl) ?_
       simp [go_sem, h17, hA, hAI, hAD, hk0n, hk0I]
       exact hK.out _ _ (Below.refl _ _) rfl
      ·intro A wx hR hout hdep K hK
       have h4 : A.tmps[4]?.getD undef = .pointer (some ⟨wr.heap.size, 0, none⟩) := hout 4 (by kernel_rfl)
       have h18 : A.tmps[18]?.getD undef = .bool false := hdep 18 (by kernel_rfl)
       refine if_yes ((wanted_is (j := 3) (b := false) (by kernel_rfl) (by kernel_rfl) h18).trans rfl) ?_
       simp [go_sem, h4, hA, hAI, hAD, hk0n, hk0I]
       exact hK.out _ _ (Below.refl _ _) rfl
      ·intro A wx hR hout hdep K hK
       have h19 : A.tmps[19]?.getD undef = .pointer (some ⟨wr.heap.size, 1, none⟩) := hdep 19 (by kernel_rfl)
       have h18 : A.tmps[18]?.getD undef = .bool false := hdep 18 (by kernel_rfl)
       refine if_yes ((wanted_is (j := 3) (b := false) (by kernel_rfl) (by kernel_rfl) h18).trans rfl) ?_
       have m0 := keep_cell hR m0
       have m1 := keep_cell hR m1
       simp [go_sem, h19, m0, m1, hA, hAI, hAD, hk0n, hk0I]
       exact hK.out _ _ (Below.refl _ _) rfl
      ·intro A wx hR hout hdep K hK
       have h20 : A.tmps[20]?.getD undef = .int .i64 r := hdep 20 (by kernel_rfl)
       have h18 : A.tmps[18]?.getD undef = .bool false := hdep 18 (by kernel_rfl)
       refine if_yes ((wanted_is (j := 3) (b := false) (by kernel_rfl) (by kernel_rfl) h18).trans rfl) ?_
       simp [go_sem, h20, hA, hAI, hAD, hk0n, hk0I]
       refine (gisProt39 r wx).mono ?_
       rintro e wG ⟨rfl, rfl⟩
       rw [hpk]
       exact hK.out _ _ (Below.refl _ _) rfl
      ·intro A wx hR hout hdep K hK
       have h21 : A.tmps[21]?.getD undef = .bool true := hdep 21 (by kernel_rfl)
       have h18 : A.tmps[18]?.getD undef = .bool false := hdep 18 (by kernel_rfl)
       refine if_yes ((wanted_is (j := 3) (b := false) (by kernel_rfl) (by kernel_rfl) h18).trans rfl) ?_
       simp [go_sem, h21, hA, hAI, hAD, hk0n, hk0I]
       exact hK.out _ _ (Below.refl _ _) rfl
      ·intro A wx hR hout hdep K hK
       have h18 : A.tmps[18]?.getD undef = .bool false := hdep 18 (by kernel_rfl)
       have h22 : A.tmps[22]?.getD undef = .bool false := hdep 22 (by kernel_rfl)
       refine if_yes (by kernel_rfl) ?_
       simp [go_sem, h18, h22, hA, hAI, hAD, hk0n, hk0I]
       exact hK.out _ _ (Below.refl _ _) rfl
      ·intro A wx hR hout hdep K hK
       have h23 : A.tmps[23]?.getD undef = .bool false := hdep 23 (by kernel_rfl)
       refine if_yes (by kernel_rfl) ?_
       simp [go_sem, h23, hA, hAI, hAD, hk0n, hk0I]
       exact hK.out _ _ (Below.refl _ _) rfl
      ·intro A wx hR hout hdep K hK
       have h3 : A.tmps[3]?.getD undef = .int .i64 (k : Int) := hout 3 (by kernel_rfl)
       have h24 : A.tmps[24]?.getD undef = .bool false := hdep 24 (by kernel_rfl)
       refine if_yes ((wanted_is (j := 9) (b := false) (by kernel_rfl) (by kernel_rfl) h24).trans rfl) ?_
       simp [go_sem, h3, hA, hAI, hAD, hk0n, hk0I]
       exact hK.out _ _ (Below.refl _ _) rfl
      ·intro A wx hR hout hdep K hK
       have h25 : A.tmps[25]?.getD undef = .int .i64 (k : Int) := hdep 25 (by kernel_rfl)
       have h24 : A.tmps[24]?.getD undef = .bool false := hdep 24 (by kernel_rfl)
       refine if_yes ((wanted_is (j := 9) (b := false) (by kernel_rfl) (by kernel_rfl) h24).trans rfl) ?_
       simp [go_sem, h25, hA, hAI, hAD, hk0n, hk0I]
       exact hK.out _ _ (Below.refl _ _) rfl
      ·intro A wx hR hout hdep K hK
       have h26 : A.tmps[26]?.getD undef = .bool false := hdep 26 (by kernel_rfl)
       have h24 : A.tmps[24]?.getD undef = .bool false := hdep 24 (by kernel_rfl)
       refine if_yes ((wanted_is (j := 9) (b := false) (by kernel_rfl) (by kernel_rfl) h24).trans rfl) ?_
       simp [go_sem, h26, hA, hAI, hAD, hk0n, hk0I]
       exact hK.out _ _ (Below.refl _ _) rfl
      iterate 9
       ·intro A wx hR hout hdep K hK
        have h27 : A.tmps[27]?.getD undef = .bool false := hdep 27 (by kernel_rfl)
        refine if_not (by rw [wanted_is (j := 12) (b := true) (by kernel_rfl) (by kernel_rfl) h27]; decide) ?_
        exact hK.out _ _ (Below.refl _ _) rfl
      ·intro A wx hR hout hdep K hK
       have h27 : A.tmps[27]?.getD undef = .bool false := hdep 27 (by kernel_rfl)
       have h36 : A.tmps[36]?.getD undef = undef := hdep 36 (by kernel_rfl)
       have h24 : A.tmps[24]?.getD undef = .bool false := hdep 24 (by kernel_rfl)
       refine if_yes ((wanted_is (j := 9) (b := false) (by kernel_rfl) (by kernel_rfl) h24).trans rfl) ?_
       simp [go_sem, h27, h36, hA, hAI, hAD, hk0n, hk0I]
       exact hK.out _ _ (Below.refl _ _) rfl
      ·intro A wx hR hout hdep K hK
       have h24 : A.tmps[24]?.getD undef = .bool false := hdep 24 (by kernel_rfl)
       have h37 : A.tmps[37]?.getD undef = .bool false := hdep 37 (by kernel_rfl)
       refine if_yes (by kernel_rfl) ?_
       simp [go_sem, h24, h37, hA, hAI, hAD, hk0n, hk0I]
       exact hK.out _ _ (Below.refl _ _) rfl
      simp only [putSl, Act.put, List.setIfInBounds_toArray, List.set_cons_zero, List.set_cons_succ]
      have hz : f 38 = .bool false := hf 38 (by kernel_rfl)
      rw [hz]
      have hbz := below_tr (below_tr hbr hb2) hR
      clear hf hz
      go_wp2
      go_roundw
      case rel => exact ⟨k + 1, by omega, by go_num, HGD.out, hbz⟩
      case measure => simp [intOf]; omega
     ·have hk1l : k - 1 < ps.length := by omega
      obtain ⟨b', o', e1, zz, zy⟩ := HX.out (k - 1) hk1l
      cases e1
      have z0 := keep_cell hb2 (keep_cell hbr zz)
      clear zz zy
      have hgq : (ps.getD (k - 1) (0, 0)).1 = ps[k - 1].1 := by rw [getD_at hk1l]
      obtain ⟨q, hq0⟩ : ∃ q, q = ps[k - 1].1 := ⟨_, rfl⟩
      rw [← hq0] at z0 hgq
      rw [hgq] at HGK
      obtain ⟨k1, hk1e⟩ : ∃ k1, k1 = k - 1 := ⟨_, rfl⟩
      rw [← hk1e] at z0
      have hk0' : (0 : Int) < (k : Int) := by omega
      have hk1 : wrap64 ((k : Int) - 1) = (k1 : Int) := by unfold wrap64; omega
      have hk1' : (k : Int) - 1 = (k1 : Int) := by omega
      have hk6 : IntKind.i64.wrap (k1 : Int) = (k1 : Int) := by rw [IntKind.wrap_i64]; omega
      have hk2 : (k1 : Int) < (ps.length : Int) := by omega
      have hk3 : (0 : Int) ≤ (k1 : Int) := by omega
      have hk4 : 0 < k := by omega
      have hk5 : k1 < ps.length := by omega
      clear hgq hq0 hk1l hk1e
      by_cases hq : p ≤ q
      ·have HNO : Hid (zr = false) := NO.out (fun h => by have := (HGK.out.2 h).2.2 hk4; omega)
       have hqI : (p : Int) ≤ (q : Int) := by omega
       go_wp2
       refine wp_region_slots (R := Ext) [⟨15, fun v _ => v = .pointer (some ⟨wr.heap.size, 0, none⟩), fun _ _ _ _ h => h⟩, ⟨16, fun v _ => v = .int .u32 (p : Int), fun _ _ _ _ h => h⟩, ⟨17, fun v _ => v = .bool false, fun _ _ _ _ h => h⟩, ⟨18, fun v _ => v = .bool false, fun _ _ _ _ h => h⟩, ⟨19, fun v _ => v = .pointer (some ⟨wr.heap.size, 1, none⟩), fun _ _ _ _ h => h⟩, ⟨20, fun v _ => v = .int .i64 r, fun _ _ _ _ h => h⟩, ⟨21, fun v _ => v = .bool true, fun _ _ _ _ h => h⟩, ⟨22, fun v _ => v = .bool false, fun _ _ _ _ h => h⟩, ⟨23, fun v _ => v = .bool false, fun _ _ _ _ h => h⟩, ⟨24, fun v _ => v = .bool false, fun _ _ _ _ h => h⟩, ⟨25, fun v _ => v = .int .i64 (k : Int), fun _ _ _ _ h => h⟩, ⟨26, fun v _ => v = .bool true, fun _ _ _ _ h => h⟩, ⟨27, fun v _ => v = .bool true, fun _ _ _ _ h => h⟩, ⟨28, fun v _ => v = .slice (some ⟨b, o, none⟩) ps.length cap, fun _ _ _ _ h => h⟩, ⟨29, fun v _ => v = .int .i64 (k : Int), fun _ _ _ _ h => h⟩, ⟨30, fun v _ => v = .int .i64 (k1 : Int), fun _ _ _ _ h => h⟩, ⟨31, fun v _ => v = .pointer (some ⟨b, o + k1 * 2, none⟩), fun _ _ _ _ h => h⟩, ⟨32, fun v _ => v = .pointer (some ⟨b, o + k1 * 2, none⟩), fun _ _ _ _ h => h⟩, ⟨33, fun v _ => v = .int .u32 (q : Int), fun _ _ _ _ h => h⟩, ⟨34, fun v _ => v = .pointer (some ⟨wr.heap.size, 0, none⟩), fun _ _ _ _ h => h⟩, ⟨35, fun v _ => v = .int .u32 (p : Int), fun _ _ _ _ h => h⟩, ⟨36, fun v _ => v = .bool true, fun _ _ _ _ h => h⟩, ⟨37, fun v _ => v = .bool true, fun _ _ _ _ h => h⟩, ⟨38, fun v _ => v = .bool true, fun _ _ _ _ h => h⟩] _ (by kernel_rfl) rfl (by kernel_rfl) (Below.drew (Below.refl _ _)) (fun _ _ _ h1 h2 => below_tr h1 h2) (fun QQ => ⟨?_, ?_, ?_, ?_, ?_, ?_, ?_, ?_, ?_, ?_, ?_, ?_, ?_, ?_, ?_, ?_, ?_, ?_, ?_, ?_, ?_, ?_, ?_, ?_, trivial⟩) (fun f wy hR hf => ?_)
       ·intro A wx hR hout hdep K hK
        have h4 : A.tmps[4]?.getD undef = .pointer (some ⟨wr.heap.size, 0, none⟩) := hout 4 (by kernel_rfl)
        refine if_yes (by kernel_rfl) ?_
        simp [go_sem, h4, hA, hAI, hAD, hk0', hk4, hk1, hk1', hk2, hk3, hk5, hk6, hq, hqI]
        exact hK.out _ _ (Below.refl _ _) rfl
       ·intro A wx hR hout hdep K hK
        have h15 : A.tmps[15]?.getD undef = .pointer (some ⟨wr.heap.size, 0, none⟩) := hdep 15 (by kernel_rfl)
        refine if_yes (by kernel_rfl) ?_
        have m0 := keep_cell hR m0
        have m1 := keep_cell hR m1
        have z0 := keep_cell hR z0
        simp [go_sem, h15, m0, m1, z0, hA, hAI, hAD, hk0', hk4, hk1, hk1', hk2, hk3, hk5, hk6, hq, hqI]
        exact hK.out _ _ (Below.refl _ _) rfl
       ·intro A wx hR hout hdep K hK
        have h16 : A.tmps[16]?.getD undef = .int .u32 (p : Int) := hdep 16 (by kernel_rfl)
        refine if_yes (by kernel_rfl) ?_
        simp [go_sem, h16, hA, hAI, hAD, hk0', hk4, hk1, hk1', hk2, hk3, hk5, hk6, hq, hqI]
        exact hK.out _ _ (Below.refl _ _) rfl
       ·intro A wx hR hout hdep K hK
        have h17 : A.tmps[17]?.getD undef = .bool false := hdep 17 (by kernel_rfl)
        refine if_yes (by kernel_rfl) ?_
        simp [go_sem, h17, hA, hAI, hAD, hk0', hk4, hk1, hk1', hk2, hk3, hk5, hk6, hq, hqI]
        exact hK.out _ _ (Below.refl _ _) rfl
       ·intro A wx hR hout hdep K hK
        have h4 : A.tmps[4]?.getD undef = .pointer (some ⟨wr.heap.size, 0, none⟩) := hout 4 (by kernel_rfl)
        have h18 : A.tmps[18]?.getD undef = .bool false := hdep 18 (by kernel_rfl)
        refine if_yes ((wanted_is (j := 3) (b := false) (by kernel_rfl) (by kernel_rfl) h18).trans rfl) ?_
        simp [go_sem, h4, hA, hAI, hAD, hk0', hk4, hk1, hk1', hk2, hk3, hk5, hk6, hq, hqI]
        exact hK.out _ _ (Below.refl _ _) rfl
       ·intro A wx hR hout hdep K hK
        have h19 : A.tmps[19]?.getD undef = .pointer (some ⟨wr.heap.size, 1, none⟩) := hdep 19 (by kernel_rfl)
        have h18 : A.tmps[18]?.getD undef = .bool false := hdep 18 (by kernel_rfl)
        refine if_yes ((wanted_is (j := 3) (b := false) (by kernel_rfl) (by kernel_rfl) h18).trans rfl) ?_
        have m0 := keep_cell hR m0
        have m1 := keep_cell hR m1
        have z0 := keep_cell hR z0
        simp [go_sem, h19, m0, m1, z0, hA, hAI, hAD, hk0', hk4, hk1, hk1', hk2, hk3, hk5, hk6, hq, hqI]
        exact hK.out _ _ (Below.refl _ _) rfl
       ·intro A wx hR hout hdep K hK
        have h20 : A.tmps[20]?.getD undef = .int .i64 r := hdep 20 (by kernel_rfl)
        have h18 : A.tmps[18]?.getD undef = .bool false := hdep 18 (by kernel_rfl)
        refine if_yes ((wanted_is (j := 3) (b := false) (by kernel_rfl) (by kernel_rfl) h18).trans rfl) ?_
        simp [go_sem, h20, hA, hAI, hAD, hk0', hk4, hk1, hk1', hk2, hk3, hk5, hk6, hq, hqI]
        refine (gisProt39 r wx).mono ?_
        rintro e wG ⟨rfl, rfl⟩
        rw [hpk]
        exact hK.out _ _ (Below.refl _ _) rfl
       ·intro A wx hR hout hdep K hK
        have h21 : A.tmps[21]?.getD undef = .bool true := hdep 21 (by kernel_rfl)
        have h18 : A.tmps[18]?.getD undef = .bool false := hdep 18 (by kernel_rfl)
        refine if_yes ((wanted_is (j := 3) (b := false) (by kernel_rfl) (by kernel_rfl) h18).trans rfl) ?_
        simp [go_sem, h21, hA, hAI, hAD, hk0', hk4, hk1, hk1', hk2, hk3, hk5, hk6, hq, hqI]
        exact hK.out _ _ (Below.refl _ _) rfl
       ·intro A wx hR hout hdep K hK
        have h18 : A.tmps[18]?.getD undef = .bool false := hdep 18 (by kernel_rfl)
        have h22 : A.tmps[22]?.getD undef = .bool false := hdep 22 (by kernel_rfl)
        refine if_yes (by kernel_rfl) ?_
        simp [go_sem, h18, h22, hA, hAI, hAD, hk0', hk4, hk1, hk1', hk2, hk3, hk5, hk6, hq, hqI]
        exact hK.out _ _ (Below.refl _ _) rfl
       ·intro A wx hR hout hdep K hK
        have h23 : A.tmps[23]?.getD undef = .bool false := hdep 23 (by kernel_rfl)
        refine if_yes (by kernel_rfl) ?_
        simp [go_sem, h23, hA, hAI, hAD, hk0', hk4, hk1, hk1', hk2, hk3, hk5, hk6, hq, hqI]
        exact hK.out _ _ (Below.refl _ _) rfl
       ·intro A wx hR hout hdep K hK
        have h3 : A.tmps[3]?.getD undef = .int .i64 (k : Int) := hout 3 (by kernel_rfl)
        have h24 : A.tmps[24]?.getD undef = .bool false := hdep 24 (by kernel_rfl)
        refine if_yes ((wanted_is (j := 9) (b := false) (by kernel_rfl) (by kernel_rfl) h24).trans rfl) ?_
        simp [go_sem, h3, hA, hAI, hAD, hk0', hk4, hk1, hk1', hk2, hk3, hk5, hk6, hq, hqI]
        exact hK.out _ _ (Below.refl _ _) rfl
       ·intro A wx hR hout hdep K hK
        have h25 : A.tmps[25]?.getD undef = .int .i64 (k : Int) := hdep 25 (by kernel_rfl)
        have h24 : A.tmps[24]?.getD undef = .bool false := hdep 24 (by kernel_rfl)
        refine if_yes ((wanted_is (j := 9) (b := false) (by kernel_rfl) (by kernel_rfl) h24).trans rfl) ?_
        simp [go_sem, h25, hA, hAI, hAD, hk0', hk4, hk1, hk1', hk2, hk3, hk5, hk6, hq, hqI]
        exact hK.out _ _ (Below.refl _ _) rfl
       ·intro A wx hR hout hdep K hK
        have h26 : A.tmps[26]?.getD undef = .bool true := hdep 26 (by kernel_rfl)
        have h24 : A.tmps[24]?.getD undef = .bool false := hdep 24 (by kernel_rfl)
        refine if_yes ((wanted_is (j := 9) (b := false) (by kernel_rfl) (by kernel_rfl) h24).trans rfl) ?_
        simp [go_sem, h26, hA, hAI, hAD, hk0', hk4, hk1, hk1', hk2, hk3, hk5, hk6, hq, hqI]
        exact hK.out _ _ (Below.refl _ _) rfl
       ·intro A wx hR hout hdep K hK
        have h0 : A.tmps[0]?.getD undef = .slice (some ⟨b, o, none⟩) ps.length cap := hout 0 (by kernel_rfl)
        have h27 : A.tmps[27]?.getD undef = .bool true := hdep 27 (by kernel_rfl)
        refine if_yes ((wanted_is (j := 12) (b := true) (by kernel_rfl) (by kernel_rfl) h27).trans rfl) ?_
        simp [go_sem, h0, hA, hAI, hAD, hk0', hk4, hk1, hk1', hk2, hk3, hk5, hk6, hq, hqI]
        exact hK.out _ _ (Below.refl _ _) rfl
       ·intro A wx hR hout hdep K hK
        have h3 : A.tmps[3]?.getD undef = .int .i64 (k : Int) := hout 3 (by kernel_rfl)
        have h27 : A.tmps[27]?.getD undef = .bool true := hdep 27 (by kernel_rfl)
        refine if_yes ((wanted_is (j := 12) (b := true) (by kernel_rfl) (by kernel_rfl) h27).trans rfl) ?_
        simp [go_sem, h3, hA, hAI, hAD, hk0', hk4, hk1, hk1', hk2, hk3, hk5, hk6, hq, hqI]
        exact hK.out _ _ (Below.refl _ _) rfl
       ·intro A wx hR hout hdep K hK
        have h29 : A.tmps[29]?.getD undef = .int .i64 (k : Int) := hdep 29 (by kernel_rfl)
        have h27 : A.tmps[27]?.getD undef = .bool true := hdep 27 (by kernel_rfl)
        refine if_yes ((wanted_is (j := 12) (b := true) (by kernel_rfl) (by kernel_rfl) h27).trans rfl) ?_
        simp [go_sem, h29, hA, hAI, hAD, hk0', hk4, hk1, hk1', hk2, hk3, hk5, hk6, hq, hqI]
        exact hK.out _ _ (Below.refl _ _) rfl
       ·intro A wx hR hout hdep K hK
        have h28 : A.tmps[28]?.getD undef = .slice (some ⟨b, o, none⟩) ps.length cap := hdep 28 (by kernel_rfl)
        have h30 : A.tmps[30]?.getD undef = .int .i64 (k1 : Int) := hdep 30 (by kernel_rfl)
        have h27 : A.tmps[27]?.getD undef = .bool true := hdep 27 (by kernel_rfl)
        refine if_yes ((wanted_is (j := 12) (b := true) (by kernel_rfl) (by kernel_rfl) h27).trans rfl) ?_
        simp [go_sem, h28, h30, hA, hAI, hAD, hk0', hk4, hk1, hk1', hk2, hk3, hk5, hk6, hq, hqI]
        exact hK.out _ _ (Below.refl _ _) rfl
       ·intro A wx hR hout hdep K hK
        have h31 : A.tmps[31]?.getD undef = .pointer (some ⟨b, o + k1 * 2, none⟩) := hdep 31 (by kernel_rfl)
        have h27 : A.tmps[27]?.getD undef = .bool true := hdep 27 (by kernel_rfl)
        refine if_yes ((wanted_is (j := 12) (b := true) (by kernel_rfl) (by kernel_rfl) h27).trans rfl) ?_
        simp [go_sem, h31, hA, hAI, hAD, hk0', hk4, hk1, hk1', hk2, hk3, hk5, hk6, hq, hqI]
        exact hK.out _ _ (Below.refl _ _) rfl
       ·intro A wx hR hout hdep K hK
        have h32 : A.tmps[32]?.getD undef = .pointer (some ⟨b, o + k1 * 2, none⟩) := hdep 32 (by kernel_rfl)
        have h27 : A.tmps[27]?.getD undef = .bool true := hdep 27 (by kernel_rfl)
        refine if_yes ((wanted_is (j := 12) (b := true) (by kernel_rfl) (by kernel_rfl) h27).trans rfl) ?_
        have m0 := keep_cell hR m0
        have m1 := keep_cell hR m1
        have z0 := keep_cell hR z0
        simp [go_sem, h32, m0, m1, z0, hA, hAI, hAD, hk0', hk4, hk1, hk1', hk2, hk3, hk5, hk6, hq, hqI]
        exact hK.out _ _ (Below.refl _ _) rfl
       ·intro A wx hR hout hdep K hK
        have h4 : A.tmps[4]?.getD undef = .pointer (some ⟨wr.heap.size, 0, none⟩) := hout 4 (by kernel_rfl)
        have h27 : A.tmps[27]?.getD undef = .bool true := hdep 27 (by kernel_rfl)
        refine if_yes ((wanted_is (j := 12) (b := true) (by kernel_rfl) (by kernel_rfl) h27).trans rfl) ?_
        simp [go_sem, h4, hA, hAI, hAD, hk0', hk4, hk1, hk1', hk2, hk3, hk5, hk6, hq, hqI]
        exact hK.out _ _ (Below.refl _ _) rfl
       ·intro A wx hR hout hdep K hK
        have h34 : A.tmps[34]?.getD undef = .pointer (some ⟨wr.heap.size, 0, none⟩) := hdep 34 (by kernel_rfl)
        have h27 : A.tmps[27]?.getD undef = .bool true := hdep 27 (by kernel_rfl)
        refine if_yes ((wanted_is (j := 12) (b := true) (by kernel_rfl) (by kernel_rfl) h27).trans rfl) ?_
        have m0 := keep_cell hR m0
        have m1 := keep_cell hR m1
        have z0 := keep_cell hR z0
        simp [go_sem, h34, m0, m1, z0, hA, hAI, hAD, hk0', hk4, hk1, hk1', hk2, hk3, hk5, hk6, hq, hqI]
        exact hK.out _ _ (Below.refl _ _) rfl
       ·intro A wx hR hout hdep K hK
        have h33 : A.tmps[33]?.getD undef = .int .u32 (q : Int) := hdep 33 (by kernel_rfl)
        have h35 : A.tmps[35]?.getD undef = .int .u32 (p : Int) := hdep 35 (by kernel_rfl)
        have h27 : A.tmps[27]?.getD undef = .bool true := hdep 27 (by kernel_rfl)
        refine if_yes ((wanted_is (j := 12) (b := true) (by kernel_rfl) (by kernel_rfl) h27).trans rfl) ?_
        simp [go_sem, h33, h35, hA, hAI, hAD, hk0', hk4, hk1, hk1', hk2, hk3, hk5, hk6, hq, hqI]
        exact hK.out _ _ (Below.refl _ _) rfl
       ·intro A wx hR hout hdep K hK
        have h27 : A.tmps[27]?.getD undef = .bool true := hdep 27 (by kernel_rfl)
        have h36 : A.tmps[36]?.getD undef = .bool true := hdep 36 (by kernel_rfl)
        have h24 : A.tmps[24]?.getD undef = .bool false := hdep 24 (by kernel_rfl)
        refine if_yes ((wanted_is (j := 9) (b := false) (by kernel_rfl) (by kernel_rfl) h24).trans rfl) ?_
        simp [go_sem, h27, h36, hA, hAI, hAD, hk0', hk4, hk1, hk1', hk2, hk3, hk5, hk6, hq, hqI]
        exact hK.out _ _ (Below.refl _ _) rfl
       ·intro A wx hR hout hdep K hK
        have h24 : A.tmps[24]?.getD undef = .bool false := hdep 24 (by kernel_rfl)
        have h37 : A.tmps[37]?.getD undef = .bool true := hdep 37 (by kernel_rfl)
        refine if_yes (by kernel_rfl) ?_
        simp [go_sem, h24, h37, hA, hAI, hAD, hk0', hk4, hk1, hk1', hk2, hk3, hk5, hk6, hq, hqI]
        exact hK.out _ _ (Below.refl _ _) rfl
       simp only [putSl, Act.put, List.setIfInBounds_toArray, List.set_cons_zero, List.set_cons_succ]
       have hz : f 38 = .bool true := hf 38 (by kernel_rfl)
       rw [hz]
       have hbz := below_tr (below_tr hbr hb2) hR
       clear hf hz
       go_wp2
       go_ret
       exact ⟨by rw [HNO.out]; rfl, hbz⟩
      ·have HGD : Hid (∀ j, j < k + 1 → GoodAt ps j) := YES.out (HGK.out.1 ⟨by omega, hpk, fun h => by omega⟩)
       have hqI : ¬ (p : Int) ≤ (q : Int) := by omega
       go_wp2
       refine wp_region_slots (R := Ext) [⟨15, fun v _ => v = .pointer (some ⟨wr.heap.size, 0, none⟩), fun _ _ _ _ h => h⟩, ⟨16, fun v _ => v = .int .u32 (p : Int), fun _ _ _ _ h => h⟩, ⟨17, fun v _ => v = .bool false, fun _ _ _ _ h => h⟩, ⟨18, fun v _ => v = .bool false, fun _ _ _ _ h => h⟩, ⟨19, fun v _ => v = .pointer (some ⟨wr.heap.size, 1, none⟩), fun _ _ _ _ h => h⟩, ⟨20, fun v _ => v = .int .i64 r, fun _ _ _ _ h => h⟩, ⟨21, fun v _ => v = .bool true, fun _ _ _ _ h => h⟩, ⟨22, fun v _ => v = .bool false, fun _ _ _ _ h => h⟩, ⟨23, fun v _ => v = .bool false, fun _ _ _ _ h => h⟩, ⟨24, fun v _ => v = .bool false, fun _ _ _ _ h => h⟩, ⟨25, fun v _ => v = .int .i64 (k : Int), fun _ _ _ _ h => h⟩, ⟨26, fun v _ => v = .bool true, fun _ _ _ _ h => h⟩, ⟨27, fun v _ => v = .bool true, fun _ _ _ _ h => h⟩, ⟨28, fun v _ => v = .slice (some ⟨b, o, none⟩) ps.length cap, fun _ _ _ _ h => h⟩, ⟨29, fun v _ => v = .int .i64 (k : Int), fun _ _ _ _ h => h⟩, ⟨30, fun v _ => v = .int .i64 (k1 : Int), fun _ _ _ _ h => h⟩, ⟨31, fun v _ => v = .pointer (some ⟨b, o + k1 * 2, none⟩), fun _ _ _ _ h => h⟩, ⟨32, fun v _ => v = .pointer (some ⟨b, o + k1 * 2, none⟩), fun _ _ _ _ h => h⟩, ⟨33, fun v _ => v = .int .u32 (q : Int), fun _ _ _ _ h => h⟩, ⟨34, fun v _ => v = .pointer (some ⟨wr.heap.size, 0, none⟩), fun _ _ _ _ h => h⟩, ⟨35, fun v _ => v = .int .u32 (p : Int), fun _ _ _ _ h => h⟩, ⟨36, fun v _ => v = .bool false, fun _ _ _ _ h => h⟩, ⟨37, fun v _ => v = .bool false, fun _ _ _ _ h => h⟩, ⟨38, fun v _ => v = .bool false, fun _ _ _ _ h => h⟩] _ (by kernel_rfl) rfl (by kernel_rfl) (Below.drew (Below.refl _ _)) (fun _ _ _ h1 h2 => below_tr h1 h2) (fun QQ => ⟨?_, ?_, ?_, ?_, ?_, ?_, ?_, ?_, ?_, ?_, ?_, ?_, ?_, ?_, ?_, ?_, ?_, ?_, ?_, ?_, ?_, ?_, ?_, ?_, trivial⟩) (fun f wy hR hf => ?_)
       ·intro A wx hR hout hdep K hK
        have h4 : A.tmps[4]?.getD undef = .pointer (some ⟨wr.heap.size, 0, none⟩) := hout 4 (by kernel_rfl)
        refine if_yes (by kernel_rfl) ?_
        simp [go_sem, h4, hA, hAI, hAD, hk0', hk4, hk1, hk1', hk2, hk3, hk5, hk6, hq, hqI]
        exact hK.out _ _ (Below.refl _ _) rfl
       ·intro A wx hR hout hdep K hK
        have h15 : A.tmps[15]?.getD undef = .pointer (some ⟨wr.heap.size, 0, none⟩) := hdep 15 (by kernel_rfl)
        refine if_yes (by kernel_rfl) ?_
        have m0 := keep_cell hR m0
        have m1 := keep_cell hR m1
        have z0 := keep_cell hR z0
        simp [go_sem, h15, m0, m1, z0, hA, hAI, hAD, hk0', hk4, hk1, hk1', hk2, hk3, hk5, hk6, hq, hqI]
        exact hK.out _ _ (Below.refl _ _) rfl
       ·intro A wx hR hout hdep K hK
        have h16 : A.tmps[16]?.getD undef = .int .u32 (p : Int) := hdep 16 (by kernel_rfl)
        refine if_yes (by kernel_rfl) ?_
        simp [go_sem, h16, hA, hAI, hAD, hk0', hk4, hk1, hk1', hk2, hk3, hk5, hk6, hq, hqI]
        exact hK.out _ _ (Below.refl _ _) rfl
       ·intro A wx hR hout hdep K hK
        have h17 : A.tmps[17]?.getD undef = .bool false := hdep 17 (by kernel_rfl)
        refine if_yes (by kernel_rfl) ?_
        simp [go_sem, h17, hA, hAI, hAD, hk0', hk4, hk1, hk1', hk2, hk3, hk5, hk6, hq, hqI]
        exact hK.out _ _ (Below.refl _ _) rfl
       ·intro A wx hR hout hdep K hK
        have h4 : A.tmps[4]?.getD undef = .pointer (some ⟨wr.heap.size, 0, none⟩) := hout 4 (by kernel_rfl)
        have h18 : A.tmps[18]?.getD undef = .bool false := hdep 18 (by kernel_rfl)
        refine if_yes ((wanted_is (j := 3) (b := false) (by kernel_rfl) (by kernel_rfl) h18).trans rfl) ?_
        simp [go_sem, h4, hA, hAI, hAD, hk0', hk4, hk1, hk1', hk2, hk3, hk5, hk6, hq, hqI]
        exact hK.out _ _ (Below.refl _ _) rfl
       ·intro A wx hR hout hdep K hK
        have h19 : A.tmps[19]?.getD undef = .pointer (some ⟨wr.heap.size, 1, none⟩) := hdep 19 (by kernel_rfl)
        have h18 : A.tmps[18]?.getD undef = .bool false := hdep 18 (by kernel_rfl)
        refine if_yes ((wanted_is (j := 3) (b := false) (by kernel_rfl) (by kernel_rfl) h18).trans rfl) ?_
        have m0 := keep_cell hR m0
        have m1 := keep_cell hR m1
        have z0 := keep_cell hR z0
        simp [go_sem, h19, m0, m1, z0, hA, hAI, hAD, hk0', hk4, hk1, hk1', hk2, hk3, hk5, hk6, hq, hqI]
        exact hK.out _ _ (Below.refl _ _) rfl
       ·intro A wx hR hout hdep K hK
        have h20 : A.tmps[20]?.getD undef = .int .i64 r := hdep 20 (by kernel_rfl)
        have h18 : A.tmps[18]?.getD undef = .bool false := hdep 18 (by kernel_rfl)
        refine if_yes ((wanted_is (j := 3) (b := false) (by kernel_rfl) (by kernel_rfl) h18).trans rfl) ?_
        simp [go_sem, h20, hA, hAI, hAD, hk0', hk4, hk1, hk1', hk2, hk3, hk5, hk6, hq, hqI]
        refine (gisProt39 r wx).mono ?_
        rintro e wG ⟨rfl, rfl⟩
        rw [hpk]
        exact hK.out _ _ (Below.refl _ _) rfl
       ·intro A wx hR hout hdep K hK
        have h21 : A.tmps[21]?.getD undef = .bool true := hdep 21 (by kernel_rfl)
        have h18 : A.tmps[18]?.getD undef = .bool false := hdep 18 (by kernel_rfl)
        refine if_yes ((wanted_is (j := 3) (b := false) (by kernel_rfl) (by kernel_rfl) h18).trans rfl) ?_
        simp [go_sem, h21, hA, hAI, hAD, hk0', hk4, hk1, hk1', hk2, hk3, hk5, hk6, hq, hqI]
        exact hK.out _ _ (Below.refl _ _) rfl
       ·intro A wx hR hout hdep K hK
        have h18 : A.tmps[18]?.getD undef = .bool false := hdep 18 (by kernel_rfl)
        have h22 : A.tmps[22]?.getD undef = .bool false := hdep 22 (by kernel_rfl)
        refine if_yes (by kernel_rfl) ?_
        simp [go_sem, h18, h22, hA, hAI, hAD, hk0', hk4, hk1, hk1', hk2, hk3, hk5, hk6, hq, hqI]
        exact hK.out _ _ (Below.refl _ _) rfl
       ·intro A wx hR hout hdep K hK
        have h23 : A.tmps[23]?.getD undef = .bool false := hdep 23 (by kernel_rfl)
        refine if_yes (by kernel_rfl) ?_
        simp [go_sem, h23, hA, hAI, hAD, hk0', hk4, hk1, hk1', hk2, hk3, hk5, hk6, hq, hqI]
        exact hK.out _ _ (Below.refl _ _) rfl
       ·intro A wx hR hout hdep K hK
        have h3 : A.tmps[3]?.getD undef = .int .i64 (k : Int) := hout 3 (by kernel_rfl)
        have h24 : A.tmps[24]?.getD undef = .bool false := hdep 24 (by kernel_rfl)
        refine if_yes ((wanted_is (j := 9) (b := false) (by kernel_rfl) (by kernel_rfl) h24).trans rfl) ?_
        simp [go_sem, h3, hA, hAI, hAD, hk0', hk4, hk1, hk1', hk2, hk3, hk5, hk6, hq, hqI]
        exact hK.out _ _ (Below.refl _ _) rfl
       ·intro A wx hR hout hdep K hK
        have h25 : A.tmps[25]?.getD undef = .int .i64 (k : Int) := hdep 25 (by kernel_rfl)
        have h24 : A.tmps[24]?.getD undef = .bool false := hdep 24 (by kernel_rfl)
        refine if_yes ((wanted_is (j := 9) (b := false) (by kernel_rfl) (by kernel_rfl) h24).trans rfl) ?_
        simp [go_sem, h25, hA, hAI, hAD, hk0', hk4, hk1, hk1', hk2, hk3, hk5, hk6, hq, hqI]
        exact hK.out _ _ (Below.refl _ _) rfl
       ·intro A wx hR hout hdep K hK
        have h26 : A.tmps[26]?.getD undef = .bool true := hdep 26 (by kernel_rfl)
        have h24 : A.tmps[24]?.getD undef = .bool false := hdep 24 (by kernel_rfl)
        refine if_yes ((wanted_is (j := 9) (b := false) (by kernel_rfl) (by kernel_rfl) h24).trans rfl) ?_
        simp [go_sem, h26, hA, hAI, hAD, hk0', hk4, hk1, hk1', hk2, hk3, hk5, hk6, hq, hqI]
        exact hK.out _ _ (Below.refl _ _) rfl
       ·intro A wx hR hout hdep K hK
        have h0 : A.tmps[0]?.getD undef = .slice (some ⟨b, o, none⟩) ps.length cap := hout 0 (by kernel_rfl)
        have h27 : A.tmps[27]?.getD undef = .bool true := hdep 27 (by kernel_rfl)
        refine if_yes ((wanted_is (j := 12) (b := true) (by kernel_rfl) (by kernel_rfl) h27).trans rfl) ?_
        simp [go_sem, h0, hA, hAI, hAD, hk0', hk4, hk1, hk1', hk2, hk3, hk5, hk6, hq, hqI]
        exact hK.out _ _ (Below.refl _ _) rfl
       ·intro A wx hR hout hdep K hK
        have h3 : A.tmps[3]?.getD undef = .int .i64 (k : Int) := hout 3 (by kernel_rfl)
        have h27 : A.tmps[27]?.getD undef = .bool true := hdep 27 (by kernel_rfl)
        refine if_yes ((wanted_is (j := 12) (b := true) (by kernel_rfl) (by kernel_rfl) h27).trans rfl) ?_
        simp [go_sem, h3, hA, hAI, hAD, hk0', hk4, hk1, hk1', hk2, hk3, hk5, hk6, hq, hqI]
        exact hK.out _ _ (Below.refl _ _) rfl
       ·intro A wx hR hout hdep K hK
        have h29 : A.tmps[29]?.getD undef = .int .i64 (k : Int) := hdep 29 (by kernel_rfl)
        have h27 : A.tmps[27]?.getD undef = .bool true := hdep 27 (by kernel_rfl)
        refine if_yes ((wanted_is (j := 12) (b := true) (by kernel_rfl) (by kernel_rfl) h27).trans rfl) ?_
        simp [go_sem, h29, hA, hAI, hAD, hk0', hk4, hk1, hk1', hk2, hk3, hk5, hk6, hq, hqI]
        exact hK.out _ _ (Below.refl _ _) rfl
       ·intro A wx hR hout hdep K hK
        have h28 : A.tmps[28]?.getD undef = .slice (some ⟨b, o, none⟩) ps.length cap := hdep 28 (by kernel_rfl)
        have h30 : A.tmps[30]?.getD undef = .int .i64 (k1 : Int) := hdep 30 (by kernel_rfl)
        have h27 : A.tmps[27]?.getD undef = .bool true := hdep 27 (by kernel_rfl)
        refine if_yes ((wanted_is (j := 12) (b := true) (by kernel_rfl) (by kernel_rfl) h27).trans rfl) ?_
        simp [go_sem, h28, h30, hA, hAI, hAD, hk0', hk4, hk1, hk1', hk2, hk3, hk5, hk6, hq, hqI]
        exact hK.out _ _ (Below.refl _ _) rfl
       ·intro A wx hR hout hdep K hK
        have h31 : A.tmps[31]?.getD undef = .pointer (some ⟨b, o + k1 * 2, none⟩) := hdep 31 (by kernel_rfl)
        have h27 : A.tmps[27]?.getD undef = .bool true := hdep 27 (by kernel_rfl)
        refine if_yes ((wanted_is (j := 12) (b := true) (by kernel_rfl) (by kernel_rfl) h27).trans rfl) ?_
        simp [go_sem, h31, hA, hAI, hAD, hk0', hk4, hk1, hk1', hk2, hk3, hk5, hk6, hq, hqI]
        exact hK.out _ _ (Below.refl _ _) rfl
       ·intro A wx hR hout hdep K hK
        have h32 : A.tmps[32]?.getD undef = .pointer (some ⟨b, o + k1 * 2, none⟩) := hdep 32 (by kernel_rfl)
        have h27 : A.tmps[27]?.getD undef = .bool true := hdep 27 (by kernel_rfl)
        refine if_yes ((wanted_is (j := 12) (b := true) (by kernel_rfl) (by kernel_rfl) h27).trans rfl) ?_
        have m0 := keep_cell hR m0
        have m1 := keep_cell hR m1
        have z0 := keep_cell hR z0
        simp [go_sem, h32, m0, m1, z0, hA, hAI, hAD, hk0', hk4, hk1, hk1', hk2, hk3, hk5, hk6, hq, hqI]
        exact hK.out _ _ (Below.refl _ _) rfl
       ·intro A wx hR hout hdep K hK
        have h4 : A.tmps[4]?.getD undef = .pointer (some ⟨wr.heap.size, 0, none⟩) := hout 4 (by kernel_rfl)
        have h27 : A.tmps[27]?.getD undef = .bool true := hdep 27 (by kernel_rfl)
        refine if_yes ((wanted_is (j := 12) (b := true) (by kernel_rfl) (by kernel_rfl) h27).trans rfl) ?_
        simp [go_sem, h4, hA, hAI, hAD, hk0', hk4, hk1, hk1', hk2, hk3, hk5, hk6, hq, hqI]
        exact hK.out _ _ (Below.refl _ _) rfl
       ·intro A wx hR hout hdep K hK
        have h34 : A.tmps[34]?.getD undef = .pointer (some ⟨wr.heap.size, 0, none⟩) := hdep 34 (by kernel_rfl)
        have h27 : A.tmps[27]?.getD undef = .bool true := hdep 27 (by kernel_rfl)
        refine if_yes ((wanted_is (j := 12) (b := true) (by kernel_rfl) (by kernel_rfl) h27).trans rfl) ?_
        have m0 := keep_cell hR m0
        have m1 := keep_cell hR m1
        have z0 := keep_cell hR z0
        simp [go_sem, h34, m0, m1, z0, hA, hAI, hAD, hk0', hk4, hk1, hk1', hk2, hk3, hk5, hk6, hq, hqI]
        exact hK.out _ _ (Below.refl _ _) rfl
       ·intro A wx hR hout hdep K hK
        have h33 : A.tmps[33]?.getD undef = .int .u32 (q : Int) := hdep 33 (by kernel_rfl)
        have h35 : A.tmps[35]?.getD undef = .int .u32 (p : Int) := hdep 35 (by kernel_rfl)
        have h27 : A.tmps[27]?.getD undef = .bool true := hdep 27 (by kernel_rfl)
        refine if_yes ((wanted_is (j := 12) (b := true) (by kernel_rfl) (by kernel_rfl) h27).trans rfl) ?_
        simp [go_sem, h33, h35, hA, hAI, hAD, hk0', hk4, hk1, hk1', hk2, hk3, hk5, hk6, hq, hqI]
        exact hK.out _ _ (Below.refl _ _) rfl
       ·intro A wx hR hout hdep K hK
        have h27 : A.tmps[27]?.getD undef = .bool true := hdep 27 (by kernel_rfl)
        have h36 : A.tmps[36]?.getD undef = .bool false := hdep 36 (by kernel_rfl)
        have h24 : A.tmps[24]?.getD undef = .bool false := hdep 24 (by kernel_rfl)
        refine if_yes ((wanted_is (j := 9) (b := false) (by kernel_rfl) (by kernel_rfl) h24).trans rfl) ?_
        simp [go_sem, h27, h36, hA, hAI, hAD, hk0', hk4, hk1, hk1', hk2, hk3, hk5, hk6, hq, hqI]
        exact hK.out _ _ (Below.refl _ _) rfl
       ·intro A wx hR hout hdep K hK
        have h24 : A.tmps[24]?.getD undef = .bool false := hdep 24 (by kernel_rfl)
        have h37 : A.tmps[37]?.getD undef = .bool false := hdep 37 (by kernel_rfl)
        refine if_yes (by kernel_rfl) ?_
        simp [go_sem, h24, h37, hA, hAI, hAD, hk0', hk4, hk1, hk1', hk2, hk3, hk5, hk6, hq, hqI]
        exact hK.out _ _ (Below.refl _ _) rfl
       simp only [putSl, Act.put, List.setIfInBounds_toArray, List.set_cons_zero, List.set_cons_succ]
       have hz : f 38 = .bool false := hf 38 (by kernel_rfl)
       rw [hz]
       have hbz := below_tr (below_tr hbr hb2) hR
       clear hf hz
       go_wp2
       go_roundw
       case rel => exact ⟨k + 1, by omega, by go_num, HGD.out, hbz⟩
       case measure => simp [intOf]; omega
  ·obtain rfl : k = ps.length := by omega
   have HR : Hid (zr = true) := by show _ = _; rw [HZ.out]; exact pgB_yes (pgOk_of HLE.out HG.out)
   go_wp2
   go_ret
   exact ⟨by rw [HR.out]; rfl, hbr⟩
def ZeroE (cs ps : List (Nat × Int)) (bs : Nat) : Prop := ∀ c ∈ cs, inB bs c.1 = true → 0 ≤ protN ps ((c.1 - bs) / 4096)
open Classical in
noncomputable def zeB (cs ps : List (Nat × Int)) (bs : Nat) : Bool := decide (ZeroE cs ps bs)
open Classical in
theorem zeB_no {cs ps : List (Nat × Int)} {bs : Nat} (h : ¬ ZeroE cs ps bs) : zeB cs ps bs = false := decide_eq_false h
open Classical in
theorem zeB_yes {cs ps : List (Nat × Int)} {bs : Nat} (h : ZeroE cs ps bs) : zeB cs ps bs = true := decide_eq_true h
set_option maxHeartbeats 2000000 in
theorem gisZero31 (vm vc vp : Value) (ms cs ps : List (Nat × Int)) (bs : Nat) (w : World) (hsl : SlG w vm vc vp ms cs ps) (hrc : ∀ y ∈ cs, y.1 < 18446744073709551616) (hs : Srt ps) (lp : ps.length ≤ 1073741824) (hbs : bs ≤ 4611686018427387904) :
  Calls Tryz.prog 42 #[.agg #[vm, vc, .int .u64 (bs : Int), vp]] w fun e w' => e = .returned (.bool (zeB cs ps bs)) ∧ Below w.heap.size w w' := by
 obtain ⟨W, hW, hb, hsz, c0, c1, c2, c3, _⟩ := box4 w vm vc (.int .u64 (bs : Int)) vp 29
 obtain ⟨am, nm, pm, rfl⟩ : ∃ a n p, vm = .slice a n p := by obtain ⟨a, p, h, _⟩ := hsl.1; exact ⟨_, _, _, h⟩
 obtain ⟨ac, pc, rfl, x1, x2, x4⟩ : ∃ ao cap, vc = .slice ao cs.length cap ∧ cs.length ≤ cap ∧ cap ≤ 9223372036854775807 ∧ ∀ i (h : i < cs.length), ∃ b o, ao = some ⟨b, o, none⟩ ∧ W.cell? ⟨b, o + i * 2, none⟩ = some (.int .u64 (cs[i].1 : Int)) ∧ W.cell? ⟨b, o + i * 2 + 1, none⟩ = some (.int .u64 cs[i].2) := by
  obtain ⟨ao, cap, e, q1, q2, _, q4⟩ := hsl.2.1.keep hb
  exact ⟨ao, cap, e, q1, q2, q4⟩
 obtain ⟨ap, np, pp, rfl⟩ : ∃ a n p, vp = .slice a n p := by obtain ⟨a, p, h, _⟩ := hsl.2.2; exact ⟨_, _, _, h⟩
 have HX : Hid (∀ i (h : i < cs.length), ∃ b o, ac = some ⟨b, o, none⟩ ∧ W.cell? ⟨b, o + i * 2, none⟩ = some (.int .u64 (cs[i].1 : Int)) ∧ W.cell? ⟨b, o + i * 2 + 1, none⟩ = some (.int .u64 cs[i].2)) := x4
 have HRC : Hid (∀ y ∈ cs, y.1 < 18446744073709551616) := hrc
 have HSP : Hid (Pg.Sl .i64 W (.slice ap np pp) ps ∧ Srt ps ∧ ps.length ≤ 1073741824) := ⟨hsl.2.2.keep hb, hs, lp⟩
 obtain ⟨zr, hzr⟩ : ∃ z, z = zeB cs ps bs := ⟨_, rfl⟩
 rw [← hzr]
 have HZ : Hid (zr = zeB cs ps bs) := hzr
 clear x4 hsl hrc hs lp hzr
 go_enter Tryz.func42, Tryz.ntmps42
 go_wp2
 go_loopw [10] (fun i wr => ∃ k : Nat, k ≤ cs.length ∧ i = .int .i64 (k : Int) ∧ (∀ j (hj : j < cs.length), j < k → inB bs cs[j].1 = true → 0 ≤ protN ps ((cs[j].1 - bs) / 4096)) ∧ Below W.heap.size W wr) (fun i _ => cs.length - (intOf i).toNat)
 case atStart => exact ⟨0, Nat.zero_le _, rfl, fun j _ hj => by omega, Below.refl _ _⟩
 case round =>
  obtain ⟨k, hk, rfl, hgd, hbr⟩ := hrel
  have HG : Hid (∀ j (hj : j < cs.length), j < k → inB bs cs[j].1 = true → 0 ≤ protN ps ((cs[j].1 - bs) / 4096)) := hgd
  clear hgd
  have e0 := keep_cell hbr c0
  have e1 := keep_cell hbr c1
  have e2 := keep_cell hbr c2
  have e3 := keep_cell hbr c3
  by_cases hkl : k < cs.length
  ·obtain ⟨b, o, rfl, D0, D1⟩ := HX.out k hkl
   have d0 := keep_cell hbr D0
   have d1 := keep_cell hbr D1
   have hpl := HRC.out _ (List.getElem_mem hkl)
   have NO : Hid (inB bs cs[k].1 = true → protN ps ((cs[k].1 - bs) / 4096) < 0 → zr = false) := fun h1 h2 => by
    rw [HZ.out]; exact zeB_no (fun g => by have := g _ (List.getElem_mem hkl) h1; omega)
   have YES : Hid ((inB bs cs[k].1 = true → 0 ≤ protN ps ((cs[k].1 - bs) / 4096)) → ∀ j (hj : j < cs.length), j < k + 1 → inB bs cs[j].1 = true → 0 ≤ protN ps ((cs[j].1 - bs) / 4096)) := fun h j hj hjk => by
    by_cases e : j = k
    ·subst e; exact h
    ·exact HG.out j hj (by omega)
   obtain ⟨p, hp⟩ : ∃ p, p = cs[k].1 := ⟨_, rfl⟩
   rw [← hp] at d0 hpl NO YES
   generalize cs[k].2 = r at d1
   clear hp D0 D1
   obtain ⟨W2, hW2, hb2, hsz2, m0, m1, mf0, mf1⟩ := box2 wr (.int .u64 (p : Int)) (.int .u64 r) 82
   have e0 := keep_cell hb2 e0
   have e1 := keep_cell hb2 e1
   have e2 := keep_cell hb2 e2
   have e3 := keep_cell hb2 e3
   have hbr2 := below_tr hbr hb2
   obtain ⟨d, hd, hd2⟩ : ∃ d : Nat, IntKind.u64.wrap ((p : Int) - (bs : Int)) = (d : Int) ∧ (inB bs p = true → d = p - bs) ∧ (inB bs p = false → 4294967296 ≤ d) := by
    by_cases c : bs ≤ p
    ·exact ⟨p - bs, by rw [IntKind.wrap_u64]; omega, fun _ => rfl, fun h => by simp [inB] at h; omega⟩
    ·exact ⟨18446744073709551616 + p - bs, by rw [IntKind.wrap_u64]; omega, fun h => by simp [inB] at h; omega, fun h => by omega⟩
   obtain ⟨pg, hpg⟩ : ∃ z, z = d / 4096 := ⟨_, rfl⟩
   have y1 : (d : Int) / 4096 = (pg : Int) := by omega
   have HPG : Hid (pg = d / 4096) := hpg
   have HD2 : Hid ((inB bs p = true → d = p - bs) ∧ (inB bs p = false → 4294967296 ≤ d)) := hd2
   have hdl : d < 18446744073709551616 := by
    have := hd2
    cases c : inB bs p with
    | true => have := hd2.1 c; omega
    | false => rw [IntKind.wrap_u64] at hd; omega
   have y3 : IntKind.u64.wrap (pg : Int) = (pg : Int) := by rw [IntKind.wrap_u64]; omega
   clear hsz2 hd2 hpg hpl
   cases hin : inB bs p with
   | false =>
    have hpgl : ¬ pg < 1048576 := by have := HPG.out; have := HD2.out.2 hin; omega
    have hpgI : ¬ (pg : Int) < 1048576 := by omega
    have HGD : Hid (∀ j (hj : j < cs.length), j < k + 1 → inB bs cs[j].1 = true → 0 ≤ protN ps ((cs[j].1 - bs) / 4096)) := YES.out (fun h => by rw [hin] at h; cases h)
    clear hin hdl
    go_wp2
    go_roundw
    case rel => exact ⟨k + 1, by omega, by go_num, HGD.out, hbr2⟩
    case measure => simp [intOf]; omega
   | true =>
    have hpgl : pg < 1048576 := by have h1 := HPG.out; have h2 := HD2.out.1 hin; simp [inB] at hin; omega
    have hpgI : (pg : Int) < 1048576 := by omega
    have y2 : IntKind.u32.wrap (pg : Int) = (pg : Int) := by rw [IntKind.wrap_u32]; omega
    have y2' : (pg : Int) % 4294967296 = (pg : Int) := by omega
    have HE : Hid ((p - bs) / 4096 = pg) := by show _ = _; rw [HPG.out, HD2.out.1 hin]
    have NO2 : Hid (protN ps pg < 0 → zr = false) := fun h => NO.out hin (by rw [HE.out]; exact h)
    have YES2 : Hid (0 ≤ protN ps pg → ∀ j (hj : j < cs.length), j < k + 1 → inB bs cs[j].1 = true → 0 ≤ protN ps ((cs[j].1 - bs) / 4096)) := fun h => YES.out (fun _ => by rw [HE.out]; exact h)
    have K14 := gprot14 (.slice am nm pm) (.slice (some ⟨b, o, none⟩) cs.length pc) (.slice ap np pp) bs pg ps W2 ⟨_, _, _, rfl⟩ ⟨_, _, _, rfl⟩ (HSP.out.1.keep hbr2) HSP.out.2.1 HSP.out.2.2
    clear hin hdl
    generalize protN ps pg = pr at K14 NO2 YES2
    go_wp2_with fail
    refine K14.mono ?_
    rintro e w5 ⟨rfl, hb5⟩
    have hbr5 := below_tr hbr2 hb5
    clear K14 e0 e1 e2 e3 hpgl y3 y2 y2' hd y1
    by_cases hneg : pr < 0
    ·have HN : Hid (zr = false) := NO2.out hneg
     go_wp2
     go_ret
     exact ⟨by rw [HN.out]; rfl, below_tr hb hbr5⟩
    ·have HGD : Hid (∀ j (hj : j < cs.length), j < k + 1 → inB bs cs[j].1 = true → 0 ≤ protN ps ((cs[j].1 - bs) / 4096)) := YES2.out (by omega)
     have hneg1 : decide (pr < 0) = false := decide_eq_false hneg
     have hneg2 : 0 ≤ pr := by omega
     clear hneg NO2 YES2 hpgI
     go_wp2
     go_roundw
     case rel => exact ⟨k + 1, by omega, by go_num, HGD.out, hbr5⟩
     case measure => simp [intOf]; omega
  ·obtain rfl : k = cs.length := by omega
   have HR : Hid (zr = true) := by
    show _ = _
    rw [HZ.out]
    exact zeB_yes (fun c hc h => by obtain ⟨j, hj, rfl⟩ := List.getElem_of_mem hc; exact HG.out j hj hj h)
   go_wp2
   go_ret
   exact ⟨by rw [HR.out]; rfl, below_tr hb hbr⟩
theorem inP_inB {bs p : Nat} (hal : bs % 16384 = 0) : inP bs p = inB bs (p * 16384) := by
 rw [Bool.eq_iff_iff]; simp only [inP, inB, decide_eq_true_eq]; omega
theorem askL_srt {ps : List (Nat × Int)} {bs : Nat} (hs : Srt ps) (hb : ∀ x ∈ ps, x.1 < 1048576) : Srt (askL bs (ksM ps ps.length)) := by
 have h := (ksM_rise hs hb ps.length (Nat.le_refl _)).1
 unfold Srt askL
 rw [List.pairwise_map]
 exact h.imp (fun {a b} hab => by simp only; unfold hp; omega)
theorem askL_mem {ps : List (Nat × Int)} {bs : Nat} (hs : Srt ps) (hb : ∀ x ∈ ps, x.1 < 1048576) {y : Nat × Int} : y ∈ askL bs (ksM ps ps.length) ↔ ∃ x ∈ ps, y = (hp bs (x.1 / 4), 3) := by
 constructor
 ·intro h
  obtain ⟨k, hk, rfl⟩ := List.mem_map.1 h
  obtain ⟨j, hj, e⟩ := (ksM_rise hs hb ps.length (Nat.le_refl _)).2 k hk
  exact ⟨_, List.getElem_mem hj, by rw [e, getD_at hj]⟩
 ·rintro ⟨x, hx, rfl⟩
  refine List.mem_map.2 ⟨_, ksM_of hx, ?_⟩
  rw [toK_val (by have := hb x hx; omega)]
theorem fitG_iff {ms cs ps : List (Nat × Int)} {bs : Nat} : FitG ms cs ps bs ↔ FitQ ms cs ∧ bs % 16384 = 0 ∧ bs ≤ 4611686018427387904 ∧ PgOk ps ∧ askL bs (ksM ps ps.length) = by_ (inP bs) ms ∧ ZeroE cs ps bs := by
 constructor
 ·intro h
  have hb : ∀ x ∈ ps, x.1 < 1048576 := fun x hx => (h.pg x hx).1
  refine ⟨h.fq, h.al, h.le, ⟨h.lp, fun x hx => ⟨(h.pg x hx).1, (h.pg x hx).2.1, (h.pg x hx).2.2.1⟩, h.sp⟩, ?_, h.rc⟩
  refine srt_ext _ _ (askL_srt h.sp hb) (h.fq.2.2.1.sublist List.filter_sublist) (fun y => ?_)
  rw [askL_mem h.sp hb]
  constructor
  ·rintro ⟨x, hx, rfl⟩
   obtain ⟨hx1, _, _, z, hz, e⟩ := h.pg x hx
   have hin : inP bs z.1 = true := by rw [e]; simp only [inP, decide_eq_true_eq]; unfold hp; omega
   have h3 := (h.rm z hz (by rw [← inP_inB h.al]; exact hin)).1
   have : z = (hp bs (x.1 / 4), 3) := by rw [← e, ← h3]
   rw [← this]
   exact List.mem_filter.2 ⟨hz, hin⟩
  ·intro hy
   obtain ⟨hy, hin⟩ := List.mem_filter.1 hy
   obtain ⟨h3, ha⟩ := h.rm y hy (by rw [← inP_inB h.al]; exact hin)
   obtain ⟨x, hx, e⟩ := List.any_eq_true.1 ha
   refine ⟨x, hx, ?_⟩
   rw [show hp bs (x.1 / 4) = y.1 by simpa using e, ← h3]
 ·rintro ⟨hq, hal, hle, ⟨hl, hpg, hsp⟩, he, hz⟩
  have hb : ∀ x ∈ ps, x.1 < 1048576 := fun x hx => (hpg x hx).1
  refine ⟨hq, hal, hle, hl, hsp, fun x hx => ⟨(hpg x hx).1, (hpg x hx).2.1, (hpg x hx).2.2, ?_⟩, fun y hy hin => ?_, hz⟩
  ·have : (hp bs (x.1 / 4), (3 : Int)) ∈ by_ (inP bs) ms := by rw [← he]; exact (askL_mem hsp hb).2 ⟨x, hx, rfl⟩
   exact ⟨_, (List.mem_filter.1 this).1, rfl⟩
  ·have : y ∈ askL bs (ksM ps ps.length) := by rw [he]; exact List.mem_filter.2 ⟨hy, by rw [inP_inB hal]; exact hin⟩
   obtain ⟨x, hx, rfl⟩ := (askL_mem hsp hb).1 this
   exact ⟨rfl, List.any_eq_true.2 ⟨x, hx, by simp⟩⟩
set_option maxHeartbeats 2000000 in
theorem gfit10 (vm vc vp : Value) (ms cs ps : List (Nat × Int)) (bs : Nat) (w : World) (hsl : SlG w vm vc vp ms cs ps) (hrc : ∀ y ∈ cs, y.1 < 18446744073709551616) (hpn : ∀ y ∈ ps, y.1 < 4294967296) (hbs : bs < 18446744073709551616) :
  Calls Tryz.prog 22 #[.agg #[vm, vc, .int .u64 (bs : Int), vp]] w fun e w' => e = .returned (.bool (fitGB ms cs ps bs)) ∧ Below w.heap.size w w' := by
 obtain ⟨W, hW, hb, hsz, c0, c1, c2, c3, _⟩ := box4 w vm vc (.int .u64 (bs : Int)) vp 29
 obtain ⟨am, nm, pm, rfl⟩ : ∃ a n p, vm = .slice a n p := by obtain ⟨a, p, h, _⟩ := hsl.1; exact ⟨_, _, _, h⟩
 obtain ⟨ac, nc, pc, rfl⟩ : ∃ a n p, vc = .slice a n p := by obtain ⟨a, p, h, _⟩ := hsl.2.1; exact ⟨_, _, _, h⟩
 obtain ⟨ap, np, pp, rfl⟩ : ∃ a n p, vp = .slice a n p := by obtain ⟨a, p, h, _⟩ := hsl.2.2; exact ⟨_, _, _, h⟩
 have K28 := fit9 (.slice am nm pm) (.slice ac nc pc) ms cs W (hsl.1.keep hb) (hsl.2.1.keep hb) hrc
 have K29 : Hid (∀ w', Below W.heap.size W w' → Calls Tryz.prog 40 #[.slice ap np pp] w' fun e w'' => e = .returned (.bool (pgB ps)) ∧ Below w'.heap.size w' w'') := fun w' h => gareFit29 _ ps w' (hsl.2.2.keep (below_tr hb h)) hpn
 have HSL : Hid (SlG w (.slice am nm pm) (.slice ac nc pc) (.slice ap np pp) ms cs ps) := hsl
 have HRC : Hid (∀ y ∈ cs, y.1 < 18446744073709551616) := hrc
 obtain ⟨zr, hzr⟩ : ∃ z, z = fitGB ms cs ps bs := ⟨_, rfl⟩
 rw [← hzr]
 have NO : Hid (¬ (FitQ ms cs ∧ bs % 16384 = 0 ∧ bs ≤ 4611686018427387904 ∧ PgOk ps ∧ askL bs (ksM ps ps.length) = by_ (inP bs) ms ∧ ZeroE cs ps bs) → zr = false) := fun h => by rw [hzr]; exact fitGB_no (fun g => h (fitG_iff.1 g))
 have YES : Hid ((FitQ ms cs ∧ bs % 16384 = 0 ∧ bs ≤ 4611686018427387904 ∧ PgOk ps ∧ askL bs (ksM ps ps.length) = by_ (inP bs) ms ∧ ZeroE cs ps bs) → zr = true) := fun h => by rw [hzr]; exact fitGB_yes (fitG_iff.2 h)
 clear hsl hrc hpn hzr
 cases hq : fitB ms cs with
 | false =>
  rw [hq] at K28
  have HN : Hid (zr = false) := NO.out (fun h => by rw [fitB_q h.1] at hq; cases hq)
  clear hq
  go_enter Tryz.func22, Tryz.ntmps22
  go_wp2_with fail
  refine K28.mono ?_
  rintro e w1 ⟨rfl, hb1⟩
  go_wp2
  go_ret
  exact ⟨by rw [HN.out]; rfl, below_tr hb hb1⟩
 | true =>
 rw [hq] at K28
 have HQ : Hid (FitQ ms cs) := q_fitB hq
 clear hq
 by_cases hal : bs % 16384 = 0
 case neg =>
  have HN : Hid (zr = false) := NO.out (fun h => hal h.2.1)
  have a1 : ((bs : Int) % 16384 == 0) = false := by simp; omega
  have a2 : ((bs : Int).tmod 16384 == 0) = false := by rw [Int.tmod_eq_emod_of_nonneg (by omega)]; exact a1
  have a3 : ¬ (bs : Int) % 16384 = 0 := by omega
  clear hal
  go_enter Tryz.func22, Tryz.ntmps22
  go_wp2_with fail
  refine K28.mono ?_
  rintro e w1 ⟨rfl, hb1⟩
  have c2 := keep_cell hb1 c2
  go_wp2
  go_ret
  exact ⟨by rw [HN.out]; rfl, below_tr hb hb1⟩
 have a1 : ((bs : Int) % 16384 == 0) = true := by simp; omega
 have a2 : (bs : Int).tmod 16384 = 0 := by rw [Int.tmod_eq_emod_of_nonneg (by omega)]; omega
 have a3 : (bs : Int) % 16384 = 0 := by omega
 have HAL : Hid (bs % 16384 = 0) := hal
 clear hal
 by_cases hle : bs ≤ 4611686018427387904
 case neg =>
  have HN : Hid (zr = false) := NO.out (fun h => hle h.2.2.1)
  have b1 : ¬ (bs : Int) ≤ 4611686018427387904 := by omega
  go_enter Tryz.func22, Tryz.ntmps22
  go_wp2_with fail
  refine K28.mono ?_
  rintro e w1 ⟨rfl, hb1⟩
  have c2 := keep_cell hb1 c2
  go_wp2
  go_ret
  exact ⟨by rw [HN.out]; rfl, below_tr hb hb1⟩
 have b1 : (bs : Int) ≤ 4611686018427387904 := by omega
 cases hpg : pgB ps with
 | false =>
  rw [hpg] at K29
  have HN : Hid (zr = false) := NO.out (fun h => by rw [pgB_yes h.2.2.2.1] at hpg; cases hpg)
  clear hpg
  go_enter Tryz.func22, Tryz.ntmps22
  go_wp2_with fail
  refine K28.mono ?_
  rintro e w1 ⟨rfl, hb1⟩
  have c2 := keep_cell hb1 c2
  have c3 := keep_cell hb1 c3
  go_wp2_with fail
  refine (K29.out _ hb1).mono ?_
  rintro e w2 ⟨rfl, hb2⟩
  go_wp2
  go_ret
  exact ⟨by rw [HN.out]; rfl, below_tr (below_tr hb hb1) hb2⟩
 | true =>
 rw [hpg] at K29
 have HPG : Hid (PgOk ps) := by
  rcases Classical.em (PgOk ps) with h | h
  ·exact h
  ·rw [pgB_no h] at hpg; cases hpg
 clear hpg
 have K30 : Hid (∀ w', Below w.heap.size w w' → Calls Tryz.prog 41 #[.agg #[.slice am nm pm, .slice ac nc pc, .int .u64 (bs : Int), .slice ap np pp]] w' fun e w'' => e = .returned (.bool (decide (askL bs (ksM ps ps.length) = by_ (inP bs) ms))) ∧ Below w'.heap.size w' w'') := fun w' h =>
  gisBacked30 _ _ _ ms cs ps bs w' (HSL.out.keep h) HQ.out.1 HPG.out.1 (fun x hx => (HPG.out.2.1 x hx).1) (fun y hy => (HQ.out.2.2.2.2.1 y hy).1) hle
 have K31 : Hid (∀ w', Below w.heap.size w w' → Calls Tryz.prog 42 #[.agg #[.slice am nm pm, .slice ac nc pc, .int .u64 (bs : Int), .slice ap np pp]] w' fun e w'' => e = .returned (.bool (zeB cs ps bs)) ∧ Below w'.heap.size w' w'') := fun w' h =>
  gisZero31 _ _ _ ms cs ps bs w' (HSL.out.keep h) HRC.out HPG.out.2.2 (Nat.le_trans HPG.out.1 (by decide)) hle
 by_cases hbk : askL bs (ksM ps ps.length) = by_ (inP bs) ms
 case neg =>
  rw [decide_eq_false hbk] at K30
  have HN : Hid (zr = false) := NO.out (fun h => hbk h.2.2.2.2.1)
  clear hbk
  go_enter Tryz.func22, Tryz.ntmps22
  go_wp2_with fail
  refine K28.mono ?_
  rintro e w1 ⟨rfl, hb1⟩
  have c0 := keep_cell hb1 c0
  have c1 := keep_cell hb1 c1
  have c2 := keep_cell hb1 c2
  have c3 := keep_cell hb1 c3
  go_wp2_with fail
  refine (K29.out _ hb1).mono ?_
  rintro e w2 ⟨rfl, hb2⟩
  have c0 := keep_cell hb2 c0
  have c1 := keep_cell hb2 c1
  have c2 := keep_cell hb2 c2
  have c3 := keep_cell hb2 c3
  have hbw := below_tr (below_tr hb hb1) hb2
  go_wp2_with fail
  refine (K30.out _ hbw).mono ?_
  rintro e w3 ⟨rfl, hb3⟩
  go_wp2
  go_ret
  exact ⟨by rw [HN.out]; rfl, below_tr hbw hb3⟩
 rw [decide_eq_true hbk] at K30
 have HE : Hid (zr = zeB cs ps bs) := by
  show _ = _
  rcases Classical.em (ZeroE cs ps bs) with h | h
  ·rw [zeB_yes h]; exact YES.out ⟨HQ.out, HAL.out, hle, HPG.out, hbk, h⟩
  ·rw [zeB_no h]; exact NO.out (fun g => h g.2.2.2.2.2)
 rw [← HE.out] at K31
 clear hbk
 go_enter Tryz.func22, Tryz.ntmps22
 go_wp2_with fail
 refine K28.mono ?_
 rintro e w1 ⟨rfl, hb1⟩
 have c0 := keep_cell hb1 c0
 have c1 := keep_cell hb1 c1
 have c2 := keep_cell hb1 c2
 have c3 := keep_cell hb1 c3
 go_wp2_with fail
 refine (K29.out _ hb1).mono ?_
 rintro e w2 ⟨rfl, hb2⟩
 have c0 := keep_cell hb2 c0
 have c1 := keep_cell hb2 c1
 have c2 := keep_cell hb2 c2
 have c3 := keep_cell hb2 c3
 have hbw := below_tr (below_tr hb hb1) hb2
 go_wp2_with fail
 refine (K30.out _ hbw).mono ?_
 rintro e w3 ⟨rfl, hb3⟩
 have c0 := keep_cell hb3 c0
 have c1 := keep_cell hb3 c1
 have c2 := keep_cell hb3 c2
 have c3 := keep_cell hb3 c3
 have hbw := below_tr hbw hb3
 go_wp2_with fail
 refine (K31.out _ hbw).mono ?_
 rintro e w4 ⟨rfl, hb4⟩
 go_wp2
 go_ret
 exact ⟨rfl, below_tr hbw hb4⟩
end Go.Proofs.YtkpmkgkfpikpfaaGreat
