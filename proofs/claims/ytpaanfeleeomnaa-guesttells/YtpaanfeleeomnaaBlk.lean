/- What is proved here: blocks of two cells that a statement lays, among rows of one's own. -/
import Derived.Test.YtpaanfeleeomnaaCopied
import Derived.Lib.OwnKind
import Derived.OneCell
import Derived.Test.YtpaanfeleeomnaaGplain
import Derived.Test.YtpaanfeleeomnaaApp
import Derived.Laws.OwnMore
import Derived.LoopTactic
namespace Go.Proofs.Ytpaanfeleeomnaa
open Go.RowKit
set_option maxRecDepth 100000
set_option linter.unusedVariables false
/-- A block of two cells, of a memory's type. -/
def Blk (w : World) (b : Nat) (x y : Value) : Prop := w.heap[b]? = some (.cells #[x, y] 25 (0, 0))
theorem Blk.lt {w : World} {b : Nat} {x y : Value} (h : Blk w b x y) : b < w.heap.size := by
  rw [Blk, Array.getElem?_eq_some_iff] at h
  exact h.1
theorem Blk.c0 {w : World} {b : Nat} {x y : Value} (h : Blk w b x y) : w.cell? ⟨b, 0, none⟩ = some x := by
  rw [Blk] at h; simp [World.cell?, h]
theorem Blk.c1 {w : World} {b : Nat} {x y : Value} (h : Blk w b x y) : w.cell? ⟨b, 1, none⟩ = some y := by
  rw [Blk] at h; simp [World.cell?, h]
theorem Blk.f0 {w : World} {b : Nat} {x y : Value} (h : Blk w b x y) : w.frozen? ⟨b, 0, none⟩ = false := by
  rw [Blk] at h; simp [World.frozen?, h]
theorem Blk.f1 {w : World} {b : Nat} {x y : Value} (h : Blk w b x y) : w.frozen? ⟨b, 1, none⟩ = false := by
  rw [Blk] at h; simp [World.frozen?, h]
theorem Blk.new {w : World} {x y : Value} {n : Nat} (h : n = w.heap.size) : Blk (w.alloc (.cells #[x, y] 25)) n x y := by
  subst h
  show (w.heap.push _)[w.heap.size]? = _
  simp
theorem Blk.keep {w w' : World} {b : Nat} {x y : Value} (hb : Below w.heap.size w w') (h : Blk w b x y) : Blk w' b x y := (hb.block b h.lt).trans h
theorem Blk.alloc {w : World} {b : Nat} {x y : Value} (h : Blk w b x y) (o : Obj) : Blk (w.alloc o) b x y := h.keep ((Below.refl _ _).alloc (Nat.le_refl _) _)
theorem Blk.drew {w : World} {b : Nat} {x y : Value} (h : Blk w b x y) : Blk w.drew b x y := h.keep (Below.refl _ _).drew
theorem Blk.setA {w : World} {b : Nat} {x y : Value} (h : Blk w b x y) (u : Value) : Blk (w.setCell ⟨b, 0, none⟩ u) b u y := heap_setCell_same w b 0 _ _ u h
theorem Blk.setB {w : World} {b : Nat} {x y : Value} (h : Blk w b x y) (u : Value) : Blk (w.setCell ⟨b, 1, none⟩ u) b x u := heap_setCell_same w b 1 _ _ u h
theorem Blk.setO {w : World} {b c i : Nat} {x y : Value} (h : Blk w b x y) (hn : b ≠ c) (u : Value) : Blk (w.setCell ⟨c, i, none⟩ u) b x y := (Below.heap_setCell w ⟨c, i, none⟩ u b hn).trans h
theorem Blk.own {w : World} {b B e n i : Nat} {x y v : Value} {xs : List Value} (hb : Blk w b x y) (he : e ≠ 25) (h : w.ownsRow B e 2 v n xs) (u : Value) : (w.setCell ⟨b, i, none⟩ u).ownsRow B e 2 v n xs := by
  refine ownsRow_setCell_other h (fun e' => ?_) u
  obtain ⟨c, fz, hk⟩ := Go.Lib.ownsRow_kind h b e'
  rw [Blk] at hb
  rw [hb] at hk
  simp at hk
  exact he hk.2.1.symm
theorem OwnH.blk {w : World} {b B i : Nat} {x y vm vc : Value} {ms cs : List (Nat × Int)} (h : OwnH B w vm vc ms cs) (hb : Blk w b x y) (u : Value) : OwnH B (w.setCell ⟨b, i, none⟩ u) vm vc ms cs :=
  ⟨hb.own (by decide) h.1 u, hb.own (by decide) h.2 u⟩
theorem Blk.set2 {w : World} {b : Nat} {x y : Value} (h : Blk w b (.slice none 0 0) (.slice none 0 0)) : Blk ((w.setCell ⟨b, 0, none⟩ x).setCell ⟨b, 1, none⟩ y) b x y := (h.setA x).setB y
theorem Blk.setO2 {w : World} {b c : Nat} {x y u v : Value} (h : Blk w b x y) (hn : b ≠ c) : Blk ((w.setCell ⟨c, 0, none⟩ u).setCell ⟨c, 1, none⟩ v) b x y := (h.setO hn u).setO hn v
theorem OwnH.blk2 {w : World} {b B : Nat} {x y vm vc : Value} {ms cs : List (Nat × Int)} (h : OwnH B w vm vc ms cs) (hb : Blk w b (.slice none 0 0) (.slice none 0 0)) : OwnH B ((w.setCell ⟨b, 0, none⟩ x).setCell ⟨b, 1, none⟩ y) vm vc ms cs := (h.blk hb x).blk (hb.setA x) y
theorem Blk.own2 {w : World} {b B e n : Nat} {x y v : Value} {xs : List Value} (hb : Blk w b (.slice none 0 0) (.slice none 0 0)) (he : e ≠ 25) (h : w.ownsRow B e 2 v n xs) : ((w.setCell ⟨b, 0, none⟩ x).setCell ⟨b, 1, none⟩ y).ownsRow B e 2 v n xs := (hb.setA x).own he (hb.own he h x) y
end Go.Proofs.Ytpaanfeleeomnaa
namespace Go.Proofs.Ytpaanfeleeomnaa
open Go.RowKit
set_option linter.unusedVariables false
set_option linter.unusedSimpArgs false
set_option maxRecDepth 100000
/-- The keys of pages, and of cells, that are out of reach. -/
def farP (bs p : Nat) : Bool := !inB bs (p * 16384)
def farC (bs p : Nat) : Bool := !inB bs p
theorem by_snoc (Q : Nat → Bool) (xs : List (Nat × Int)) (m : Nat) (h : m < xs.length) : by_ Q (xs.take (m + 1)) = by_ Q (xs.take m) ++ (if Q xs[m].1 = true then [xs[m]] else []) := by
  rw [by_, List.take_add_one, List.getElem?_eq_getElem h, List.filter_append]
  cases c : Q xs[m].1 <;> simp [by_, c]
theorem own_apart {w : World} {B B' e e' n n' : Nat} {v v' : Value} {xs xs' : List Value} (h : w.ownsRow B e 2 v n xs) (h' : w.ownsRow B' e' 2 v' n' xs') (he : e ≠ e') : v.ownBlock = none ∨ v.ownBlock ≠ v'.ownBlock := by
  cases k : v.ownBlock with
  | none => exact Or.inl rfl
  | some g =>
    refine Or.inr (fun e2 => ?_)
    obtain ⟨c, fz, q⟩ := Go.Lib.ownsRow_kind h g k
    obtain ⟨c', fz', q'⟩ := Go.Lib.ownsRow_kind h' g e2.symm
    rw [q] at q'
    cases q'
    exact he rfl
/-- The state of a round. -/
def FarI (n0 : Nat) (W wr : World) (s t : Value) (A C : List (Nat × Int)) : Prop := Blk wr (n0 + 2) s t ∧ OwnH (n0 + 3) wr s t A C ∧ Below (n0 + 2) W wr ∧ n0 + 3 ≤ wr.heap.size
theorem FarI.grownBlk {n0 : Nat} {w w2 : World} {x y : Value} {row : Option Nat} (h : Blk w (n0 + 2) x y) (hg : w.grownBy w2 row) (hr : ∀ k, row = some k → n0 + 3 ≤ k) : Blk w2 (n0 + 2) x y :=
  (hg.block (n0 + 2) h.lt (fun e => by have := hr _ e.symm; omega)).trans h
theorem FarI.stepA {n0 : Nat} {W wr w2 : World} {s t s2 : Value} {A C : List (Nat × Int)} {p : Nat} {r : Int} (o' : Obj) (h : FarI n0 W wr s t A C) (hg : (wr.alloc o').grownBy w2 s.ownBlock) (hown : w2.ownsRow (n0 + 3) 56 2 s2 (A.length + 1) (rowOf .i64 A ++ [.int .u64 (p : Int), .int .i64 r])) :
    FarI n0 W (w2.setCell ⟨n0 + 2, 0, none⟩ s2) s2 t (A ++ [(p, r)]) C := by
  obtain ⟨hb, ho, hbel, hsz⟩ := h
  have hr : ∀ k, s.ownBlock = some k → n0 + 3 ≤ k := own_ge ho.1
  have b2 := FarI.grownBlk (hb.alloc o') hg hr
  have t2 := World.ownsRow.kept (own_alloc ho.2 o') hg (own_apart (own_alloc ho.2 o') (own_alloc ho.1 o') (by decide))
  refine ⟨b2.setA s2, ⟨b2.own (by decide) (app_own hown) s2, b2.own (by decide) t2 s2⟩, below_set (app_below o' hbel (by omega) hg (fun k e => by have := hr k e; omega)) (by simp) _, ?_⟩
  have := hg.size
  simp at this ⊢
  omega
theorem FarI.stepC {n0 : Nat} {W wr w2 : World} {s t t2 : Value} {A C : List (Nat × Int)} {p : Nat} {r : Int} (o' : Obj) (h : FarI n0 W wr s t A C) (hg : (wr.alloc o').grownBy w2 t.ownBlock) (hown : w2.ownsRow (n0 + 3) 61 2 t2 (C.length + 1) (rowOf .u64 C ++ [.int .u64 (p : Int), .int .u64 r])) :
    FarI n0 W (w2.setCell ⟨n0 + 2, 1, none⟩ t2) s t2 A (C ++ [(p, r)]) := by
  obtain ⟨hb, ho, hbel, hsz⟩ := h
  have hr : ∀ k, t.ownBlock = some k → n0 + 3 ≤ k := own_ge ho.2
  have b2 := FarI.grownBlk (hb.alloc o') hg hr
  have s2 := World.ownsRow.kept (own_alloc ho.1 o') hg (own_apart (own_alloc ho.1 o') (own_alloc ho.2 o') (by decide))
  refine ⟨b2.setB t2, ⟨b2.own (by decide) s2 t2, b2.own (by decide) (app_own hown) t2⟩, below_set (app_below o' hbel (by omega) hg (fun k e => by have := hr k e; omega)) (by simp) _, ?_⟩
  have := hg.size
  simp at this ⊢
  omega
theorem FarI.box {n0 : Nat} {W wr : World} {s t : Value} {A C : List (Nat × Int)} (o : Obj) (h : FarI n0 W wr s t A C) : FarI n0 W (wr.alloc o) s t A C :=
  ⟨h.1.alloc o, ⟨own_alloc h.2.1.1 o, own_alloc h.2.1.2 o⟩, h.2.2.1.alloc (by have := h.2.2.2; omega) o, by have := h.2.2.2; simp; omega⟩
set_option maxHeartbeats 8000000 in
theorem far26 (vm vc vp : Value) (ms cs ps : List (Nat × Int)) (bs : Nat) (w : World) (hsl : SlG w vm vc vp ms cs ps) (lm : ms.length ≤ 64) (lc : cs.length ≤ 65536) (hpm : ∀ x ∈ ms, x.1 < 1125899906842624) (hrc : ∀ y ∈ cs, y.1 < 18446744073709551616) (hbs : bs < 18446744073709551616) :
    Calls Try.prog 26 #[.agg #[vm, vc, .int .u64 (bs : Int), vp]] w fun e w' => ∃ am nm pm ac nc pc, e = .returned (.agg #[.slice am nm pm, .slice ac nc pc]) ∧ OwnH w.heap.size w' (.slice am nm pm) (.slice ac nc pc) (by_ (farP bs) ms) (by_ (farC bs) cs) ∧ Below w.heap.size w w' := by
  obtain ⟨X, hX, hx, hxs, c0, c1, c2, c3, _⟩ := box4 w vm vc (.int .u64 (bs : Int)) vp 29
  obtain ⟨Y, hY, hy, hys, u0, u1, g0, g1⟩ := box2 X (.slice none 0 0) (.slice none 0 0) 25
  obtain ⟨W, hW, hz, hzs, k0, k1, k2, k3⟩ := box2 Y (.slice none 0 0) (.slice none 0 0) 25
  rw [hxs] at hys g0 g1 u0 u1
  have hys : Y.heap.size = w.heap.size + 2 := by omega
  have hzs : W.heap.size = w.heap.size + 3 := by omega
  have hB : Blk W (w.heap.size + 2) (.slice none 0 0) (.slice none 0 0) := by rw [← hW]; exact Blk.new hys.symm
  have hb := below_tr (below_tr hx hy) hz
  have c0 := keep_cell hz (keep_cell hy c0)
  have c1 := keep_cell hz (keep_cell hy c1)
  have c2 := keep_cell hz (keep_cell hy c2)
  have c3 := keep_cell hz (keep_cell hy c3)
  have F0 : FarI w.heap.size W W (.slice none 0 0) (.slice none 0 0) [] [] := ⟨hB, ⟨World.ownsRow_nil _ _ _ _, World.ownsRow_nil _ _ _ _⟩, Below.refl _ _, by omega⟩
  have GR : Hid (Free W ⟨w.heap.size + 1, 0, none⟩ ∧ Free W ⟨w.heap.size + 1, 1, none⟩) := ⟨Free.keep hz ⟨⟨_, u0⟩, g0⟩, Free.keep hz ⟨⟨_, u1⟩, g1⟩⟩
  obtain ⟨am, pm, rfl, x1, x2⟩ : ∃ a p, vm = .slice a ms.length p ∧ ms.length ≤ p ∧ p ≤ 9223372036854775807 := by obtain ⟨a, p, h, h1, h2, _⟩ := id hsl.1; exact ⟨_, _, h, h1, h2⟩
  obtain ⟨ac, pc, rfl, z1, z2⟩ : ∃ a p, vc = .slice a cs.length p ∧ cs.length ≤ p ∧ p ≤ 9223372036854775807 := by obtain ⟨a, p, h, h1, h2, _⟩ := id hsl.2.1; exact ⟨_, _, h, h1, h2⟩
  obtain ⟨ap, np, pp, rfl⟩ : ∃ a n p, vp = .slice a n p := by obtain ⟨_, _, _, _, _, _, a, n, p, _, _, h⟩ := hsl.shape; exact ⟨a, n, p, h⟩
  have HXM : Hid (∀ i (h : i < ms.length), ∃ b o, am = some ⟨b, o, none⟩ ∧ W.cell? ⟨b, o + i * 2, none⟩ = some (.int .u64 (ms[i].1 : Int)) ∧ W.cell? ⟨b, o + i * 2 + 1, none⟩ = some (.int .i64 ms[i].2) ∧ b < w.heap.size) := fun i hi => by
    obtain ⟨ao, cap, e, _, _, _, g⟩ := hsl.1
    cases e
    obtain ⟨b, o, e, x, y⟩ := g i hi
    exact ⟨b, o, e, keep_cell hb x, keep_cell hb y, World.block_lt_of_cell? w _ x⟩
  have HXC : Hid (∀ i (h : i < cs.length), ∃ b o, ac = some ⟨b, o, none⟩ ∧ W.cell? ⟨b, o + i * 2, none⟩ = some (.int .u64 (cs[i].1 : Int)) ∧ W.cell? ⟨b, o + i * 2 + 1, none⟩ = some (.int .u64 cs[i].2) ∧ b < w.heap.size) := fun i hi => by
    obtain ⟨ao, cap, e, _, _, _, g⟩ := hsl.2.1
    cases e
    obtain ⟨b, o, e, x, y⟩ := g i hi
    exact ⟨b, o, e, keep_cell hb x, keep_cell hb y, World.block_lt_of_cell? w _ x⟩
  obtain ⟨i0, hi, hz0, hz1, hz2⟩ := info_parts info54
  have HI : Hid (Try.prog.info? 56 = some i0 ∧ i0.zero = some (.agg #[.int .u64 0, .int .i64 0]) ∧ i0.size = 2 ∧ i0.bytes = 16) := ⟨hi, hz0, hz1, hz2⟩
  clear hi hz0 hz1 hz2
  obtain ⟨j0, hi, hz0, hz1, hz2⟩ := info_parts info58
  have HJ : Hid (Try.prog.info? 61 = some j0 ∧ j0.zero = some (.agg #[.int .u64 0, .int .u64 0]) ∧ j0.size = 2 ∧ j0.bytes = 16) := ⟨hi, hz0, hz1, hz2⟩
  clear hi hz0 hz1 hz2
  have HPM : Hid (∀ x ∈ ms, x.1 < 1125899906842624) := hpm
  have HRC : Hid (∀ x ∈ cs, x.1 < 18446744073709551616) := hrc
  obtain ⟨zm, hzm⟩ : ∃ z, z = by_ (farP bs) ms := ⟨_, rfl⟩
  obtain ⟨zc, hzc⟩ : ∃ z, z = by_ (farC bs) cs := ⟨_, rfl⟩
  rw [← hzm, ← hzc]
  have HZ : Hid (zm = by_ (farP bs) ms ∧ zc = by_ (farC bs) cs) := ⟨hzm, hzc⟩
  have HF0 : Hid _ := F0
  clear hpm hrc hzm hzc hsl hB F0 hx hy hz g0 g1 u0 u1
  go_enter Try.func26, Try.ntmps26
  go_wp2
  clear hX hY hW hxs hys
  go_loopw [13] (fun i wr => ∃ (m : Nat) (s : Value), m ≤ ms.length ∧ i = .int .i64 (m : Int) ∧ FarI w.heap.size W wr s (.slice none 0 0) (by_ (farP bs) (ms.take m)) []) (fun i _ => ms.length - (intOf i).toNat)
  case atStart => exact ⟨0, _, Nat.zero_le _, rfl, HF0.out⟩
  case round =>
    obtain ⟨m, s, hmle, rfl, hfi⟩ := hrel
    obtain ⟨sa, sn, sp, rfl⟩ := own_shape hfi.2.1.1
    have hlm : (by_ (farP bs) (ms.take m)).length ≤ m := Nat.le_trans (List.length_filter_le _ _) (by simp; omega)
    have FI : Hid (FarI w.heap.size W wr (.slice sa sn sp) (.slice none 0 0) (by_ (farP bs) (ms.take m)) []) := hfi
    by_cases hml : m < ms.length
    · obtain ⟨bb, o, rfl, D0, D1, hlt⟩ := HXM.out m hml
      have d0 := (hfi.2.2.1.cell (p := ⟨bb, o + m * 2, none⟩) (by simp; omega)).trans D0
      have d1 := (hfi.2.2.1.cell (p := ⟨bb, o + m * 2 + 1, none⟩) (by simp; omega)).trans D1
      have HSN := by_snoc (farP bs) ms m hml
      obtain ⟨p, hp⟩ : ∃ p, p = ms[m].1 := ⟨_, rfl⟩
      obtain ⟨r, hr⟩ : ∃ r, r = ms[m].2 := ⟨_, rfl⟩
      have hx : ms[m] = (p, r) := by rw [hp, hr]
      have hpl := HPM.out _ (List.getElem_mem hml)
      rw [hx] at HSN hpl
      simp only at HSN hpl
      rw [← hp] at d0
      rw [← hr] at d1
      clear hp hr hx D0 D1 hlt
      generalize by_ (farP bs) (ms.take m) = xs at hfi FI HSN hlm
      obtain ⟨W5, hW5, hb5, hsz5, l0, l1, _, _⟩ := box2 wr (.int .u64 (p : Int)) (.int .i64 r) 56
      have FI5 : Hid (FarI w.heap.size W W5 (.slice sa sn sp) (.slice none 0 0) xs []) := by rw [← hW5]; exact FI.out.box _
      have how := FI5.out.2.1.1
      have k0 := FI5.out.1.c0
      have k1 := FI5.out.1.c1
      have k2 := FI5.out.1.f0
      have k3 := FI5.out.1.f1
      have e2 := (FI5.out.2.2.1.cell (p := ⟨w.heap.size, 2, none⟩) (by simp)).trans c2
      have hw5 := FI5.out.2.2.2
      clear hfi hb5 hsz5
      obtain ⟨a, ha⟩ : ∃ a, a = p * 16384 := ⟨_, rfl⟩
      have y1 : IntKind.u64.wrap ((p : Int) * 16384) = (a : Int) := by rw [IntKind.wrap_u64]; omega
      have hal : a < 18446744073709551616 := by omega
      by_cases q1 : a < bs
      · have HSN : Hid (by_ (farP bs) (ms.take (m + 1)) = xs ++ [(p, r)]) := by show _ = _; rw [HSN, if_pos (by simp [farP, inB, ← ha]; omega)]
        have n1 : decide ((a : Int) < (bs : Int)) = true := decide_eq_true (by omega)
        have n1' : (a : Int) < (bs : Int) := by omega
        clear hpl ha hal
        go_wp2_with (at_builtin; refine wpList_append_own _ rfl (.tmp 32) (.tmp 34) 22 rfl (w.heap.size + 3) 56 i0 _ 2 16 Try.underlying22 HI.out.1 HI.out.2.1 HI.out.2.2.1 HI.out.2.2.2 rfl (by decide) _ _ _ rfl (own_alloc how _) ⟨W5.heap.size, 0, none⟩ 1 1 [.int .u64 (p : Int), .int .i64 r] rfl rfl (cells2 _ _ _ _) (one2 _ _ _) (by unfold maxLen; omega) (by omega) (by simp; omega) ?_; intro sv w2 how2 hgr2 _; obtain ⟨sa2, sn2, sp2, rfl⟩ := own_shape how2; have FI2 : Hid (FarI w.heap.size W (w2.setCell ⟨w.heap.size + 2, 0, none⟩ (.slice sa2 sn2 sp2)) (.slice sa2 sn2 sp2) (.slice none 0 0) (xs ++ [(p, r)]) []) := FarI.stepA _ FI5.out hgr2 how2; have b2 := FarI.grownBlk (FI5.out.1.alloc _) hgr2 (own_ge how); have y0 := b2.c0; have y1 := b2.c1; have y2 := b2.f0; have y3 := b2.f1; clear b2 how2 hgr2 how)
        go_roundw
        case rel => exact ⟨m + 1, _, by omega, by go_num, by rw [HSN.out]; exact FI2.out⟩
        case measure => simp [intOf]; omega
      · obtain ⟨d, hd, hd2⟩ : ∃ d : Nat, IntKind.u64.wrap ((a : Int) - (bs : Int)) = (d : Int) ∧ d = a - bs := ⟨a - bs, by rw [IntKind.wrap_u64]; omega, rfl⟩
        have n1 : ¬ (a : Int) < (bs : Int) := by omega
        by_cases q2 : 4294967296 ≤ d
        · have HSN : Hid (by_ (farP bs) (ms.take (m + 1)) = xs ++ [(p, r)]) := by show _ = _; rw [HSN, if_pos (by simp [farP, inB, ← ha]; omega)]
          have n2 : (4294967296 : Int) ≤ IntKind.u64.wrap ((a : Int) - (bs : Int)) := by omega
          have n3 : ¬ (IntKind.u64.wrap ((a : Int) - (bs : Int)) < 4294967296) := by omega
          clear hd hd2 q2 hpl ha hal
          go_wp2_with (at_builtin; refine wpList_append_own _ rfl (.tmp 32) (.tmp 34) 22 rfl (w.heap.size + 3) 56 i0 _ 2 16 Try.underlying22 HI.out.1 HI.out.2.1 HI.out.2.2.1 HI.out.2.2.2 rfl (by decide) _ _ _ rfl (own_alloc how _) ⟨W5.heap.size, 0, none⟩ 1 1 [.int .u64 (p : Int), .int .i64 r] rfl rfl (cells2 _ _ _ _) (one2 _ _ _) (by unfold maxLen; omega) (by omega) (by simp; omega) ?_; intro sv w2 how2 hgr2 _; obtain ⟨sa2, sn2, sp2, rfl⟩ := own_shape how2; have FI2 : Hid (FarI w.heap.size W (w2.setCell ⟨w.heap.size + 2, 0, none⟩ (.slice sa2 sn2 sp2)) (.slice sa2 sn2 sp2) (.slice none 0 0) (xs ++ [(p, r)]) []) := FarI.stepA _ FI5.out hgr2 how2; have b2 := FarI.grownBlk (FI5.out.1.alloc _) hgr2 (own_ge how); have y0 := b2.c0; have y1 := b2.c1; have y2 := b2.f0; have y3 := b2.f1; clear b2 how2 hgr2 how)
          go_roundw
          case rel => exact ⟨m + 1, _, by omega, by go_num, by rw [HSN.out]; exact FI2.out⟩
          case measure => simp [intOf]; omega
        · have HSN : Hid (by_ (farP bs) (ms.take (m + 1)) = xs) := by show _ = _; rw [HSN, if_neg (by simp [farP, inB, ← ha]; omega), List.append_nil]
          have n2 : ¬ (4294967296 : Int) ≤ IntKind.u64.wrap ((a : Int) - (bs : Int)) := by omega
          have n3 : IntKind.u64.wrap ((a : Int) - (bs : Int)) < 4294967296 := by omega
          clear hd hd2 how q2 hpl ha hal
          go_wp2
          go_roundw
          case rel => exact ⟨m + 1, _, by omega, by go_num, by rw [HSN.out]; exact FI5.out⟩
          case measure => simp [intOf]; omega
    · obtain rfl : m = ms.length := by omega
      rw [List.take_length] at hfi FI
      clear hlm
      have FI1 : Hid (FarI w.heap.size W wr (.slice sa sn sp) (.slice none 0 0) zm []) := by rw [HZ.out.1]; exact hfi
      clear hfi FI hmle hml
      obtain ⟨sa0, hsa0⟩ : ∃ z, z = sa := ⟨_, rfl⟩
      obtain ⟨sn0, hsn0⟩ : ∃ z, z = sn := ⟨_, rfl⟩
      obtain ⟨sp0, hsp0⟩ : ∃ z, z = sp := ⟨_, rfl⟩
      rw [← hsa0, ← hsn0, ← hsp0] at FI1
      clear hsa0 hsn0 hsp0
      obtain ⟨w1, hw1⟩ : ∃ x, x = wr := ⟨_, rfl⟩
      rw [← hw1] at FI1 ⊢
      clear hw1
      have e1 := (FI1.out.2.2.1.cell (p := ⟨w.heap.size, 1, none⟩) (by simp)).trans c1
      have hw1 := FI1.out.2.2.2
      go_wp2
      go_loopw [42] (fun i wr => ∃ (m : Nat) (s : Value), m ≤ cs.length ∧ i = .int .i64 (m : Int) ∧ FarI w.heap.size W wr (.slice sa0 sn0 sp0) s zm (by_ (farC bs) (cs.take m))) (fun i _ => cs.length - (intOf i).toNat)
      case atStart => exact ⟨0, _, Nat.zero_le _, rfl, FI1.out⟩
      case round =>
        obtain ⟨m, s, hmle, rfl, hfi⟩ := hrel
        obtain ⟨sa, sn, sp, rfl⟩ := own_shape hfi.2.1.2
        have hlm : (by_ (farC bs) (cs.take m)).length ≤ m := Nat.le_trans (List.length_filter_le _ _) (by simp; omega)
        have FI : Hid (FarI w.heap.size W wr (.slice sa0 sn0 sp0) (.slice sa sn sp) zm (by_ (farC bs) (cs.take m))) := hfi
        by_cases hml : m < cs.length
        · obtain ⟨bb, o, rfl, D0, D1, hlt⟩ := HXC.out m hml
          have d0 := (hfi.2.2.1.cell (p := ⟨bb, o + m * 2, none⟩) (by simp; omega)).trans D0
          have d1 := (hfi.2.2.1.cell (p := ⟨bb, o + m * 2 + 1, none⟩) (by simp; omega)).trans D1
          have HSN := by_snoc (farC bs) cs m hml
          obtain ⟨p, hp⟩ : ∃ p, p = cs[m].1 := ⟨_, rfl⟩
          obtain ⟨r, hr⟩ : ∃ r, r = cs[m].2 := ⟨_, rfl⟩
          have hx : cs[m] = (p, r) := by rw [hp, hr]
          have hpl := HRC.out _ (List.getElem_mem hml)
          rw [hx] at HSN hpl
          simp only at HSN hpl
          rw [← hp] at d0
          rw [← hr] at d1
          clear hp hr hx D0 D1 hlt
          generalize by_ (farC bs) (cs.take m) = xs at hfi FI HSN hlm
          obtain ⟨W5, hW5, hb5, hsz5, l0, l1, _, _⟩ := box2 wr (.int .u64 (p : Int)) (.int .u64 r) 61
          have FI5 : Hid (FarI w.heap.size W W5 (.slice sa0 sn0 sp0) (.slice sa sn sp) zm xs) := by rw [← hW5]; exact FI.out.box _
          have how := FI5.out.2.1.2
          have k0 := FI5.out.1.c0
          have k1 := FI5.out.1.c1
          have k2 := FI5.out.1.f0
          have k3 := FI5.out.1.f1
          have e2 := (FI5.out.2.2.1.cell (p := ⟨w.heap.size, 2, none⟩) (by simp)).trans c2
          have hw5 := FI5.out.2.2.2
          clear hfi hb5 hsz5
          by_cases q1 : p < bs
          · have HSN : Hid (by_ (farC bs) (cs.take (m + 1)) = xs ++ [(p, r)]) := by show _ = _; rw [HSN, if_pos (by simp [farC, inB]; omega)]
            have n1 : decide ((p : Int) < (bs : Int)) = true := decide_eq_true (by omega)
            have n1' : (p : Int) < (bs : Int) := by omega
            clear hpl
            go_wp2_with (at_builtin; refine wpList_append_own _ rfl (.tmp 60) (.tmp 62) 23 rfl (w.heap.size + 3) 61 j0 _ 2 16 Try.underlying23 HJ.out.1 HJ.out.2.1 HJ.out.2.2.1 HJ.out.2.2.2 rfl (by decide) _ _ _ rfl (own_alloc how _) ⟨W5.heap.size, 0, none⟩ 1 1 [.int .u64 (p : Int), .int .u64 r] rfl rfl (cells2 _ _ _ _) (one2 _ _ _) (by unfold maxLen; omega) (by omega) (by simp; omega) ?_; intro sv w2 how2 hgr2 _; obtain ⟨sa2, sn2, sp2, rfl⟩ := own_shape how2; have FI2 : Hid (FarI w.heap.size W (w2.setCell ⟨w.heap.size + 2, 1, none⟩ (.slice sa2 sn2 sp2)) (.slice sa0 sn0 sp0) (.slice sa2 sn2 sp2) zm (xs ++ [(p, r)])) := FarI.stepC _ FI5.out hgr2 how2; have b2 := FarI.grownBlk (FI5.out.1.alloc _) hgr2 (own_ge how); have y0 := b2.c0; have y1 := b2.c1; have y2 := b2.f0; have y3 := b2.f1; clear b2 how2 hgr2 how)
            go_roundw
            case rel => exact ⟨m + 1, _, by omega, by go_num, by rw [HSN.out]; exact FI2.out⟩
            case measure => simp [intOf]; omega
          · obtain ⟨d, hd, hd2⟩ : ∃ d : Nat, IntKind.u64.wrap ((p : Int) - (bs : Int)) = (d : Int) ∧ d = p - bs := ⟨p - bs, by rw [IntKind.wrap_u64]; omega, rfl⟩
            have n1 : ¬ (p : Int) < (bs : Int) := by omega
            by_cases q2 : 4294967296 ≤ d
            · have HSN : Hid (by_ (farC bs) (cs.take (m + 1)) = xs ++ [(p, r)]) := by show _ = _; rw [HSN, if_pos (by simp [farC, inB]; omega)]
              have n2 : (4294967296 : Int) ≤ IntKind.u64.wrap ((p : Int) - (bs : Int)) := by omega
              have n3 : ¬ (IntKind.u64.wrap ((p : Int) - (bs : Int)) < 4294967296) := by omega
              clear hd hd2 q2 hpl
              go_wp2_with (at_builtin; refine wpList_append_own _ rfl (.tmp 60) (.tmp 62) 23 rfl (w.heap.size + 3) 61 j0 _ 2 16 Try.underlying23 HJ.out.1 HJ.out.2.1 HJ.out.2.2.1 HJ.out.2.2.2 rfl (by decide) _ _ _ rfl (own_alloc how _) ⟨W5.heap.size, 0, none⟩ 1 1 [.int .u64 (p : Int), .int .u64 r] rfl rfl (cells2 _ _ _ _) (one2 _ _ _) (by unfold maxLen; omega) (by omega) (by simp; omega) ?_; intro sv w2 how2 hgr2 _; obtain ⟨sa2, sn2, sp2, rfl⟩ := own_shape how2; have FI2 : Hid (FarI w.heap.size W (w2.setCell ⟨w.heap.size + 2, 1, none⟩ (.slice sa2 sn2 sp2)) (.slice sa0 sn0 sp0) (.slice sa2 sn2 sp2) zm (xs ++ [(p, r)])) := FarI.stepC _ FI5.out hgr2 how2; have b2 := FarI.grownBlk (FI5.out.1.alloc _) hgr2 (own_ge how); have y0 := b2.c0; have y1 := b2.c1; have y2 := b2.f0; have y3 := b2.f1; clear b2 how2 hgr2 how)
              go_roundw
              case rel => exact ⟨m + 1, _, by omega, by go_num, by rw [HSN.out]; exact FI2.out⟩
              case measure => simp [intOf]; omega
            · have HSN : Hid (by_ (farC bs) (cs.take (m + 1)) = xs) := by show _ = _; rw [HSN, if_neg (by simp [farC, inB]; omega), List.append_nil]
              have n2 : ¬ (4294967296 : Int) ≤ IntKind.u64.wrap ((p : Int) - (bs : Int)) := by omega
              have n3 : IntKind.u64.wrap ((p : Int) - (bs : Int)) < 4294967296 := by omega
              clear hd hd2 how q2 hpl
              go_wp2
              go_roundw
              case rel => exact ⟨m + 1, _, by omega, by go_num, by rw [HSN.out]; exact FI5.out⟩
              case measure => simp [intOf]; omega
        · obtain rfl : m = cs.length := by omega
          rw [List.take_length] at hfi FI
          clear hlm

          have FI2 : Hid (FarI w.heap.size W wr (.slice sa0 sn0 sp0) (.slice sa sn sp) zm zc) := by rw [HZ.out.2]; exact hfi
          clear hfi FI hmle hml
          have k0 := FI2.out.1.c0
          have k1 := FI2.out.1.c1
          have HG : Hid (∀ i, Free W ⟨w.heap.size + 1, i, none⟩ → Free wr ⟨w.heap.size + 1, i, none⟩) := fun i hf => ⟨⟨_, (FI2.out.2.2.1.cell (p := ⟨w.heap.size + 1, i, none⟩) (by simp)).trans hf.cell⟩, (FI2.out.2.2.1.frozen (p := ⟨w.heap.size + 1, i, none⟩) (by simp)).trans hf.frozen⟩
          have G0 := HG.out _ GR.out.1
          have G1 := HG.out _ GR.out.2
          have q0 := G0.cell
          have q1 := G1.cell
          have q2 := G0.frozen
          have q3 := G1.frozen
          have SM : Hid (OwnH w.heap.size ((wr.setCell ⟨w.heap.size + 1, 0, none⟩ (.slice sa0 sn0 sp0)).setCell ⟨w.heap.size + 1, 1, none⟩ (.slice sa sn sp)) (.slice sa0 sn0 sp0) (.slice sa sn sp) zm zc) := ⟨res2_own FI2.out.2.1.1 (by omega) (by omega), res2_own FI2.out.2.1.2 (by omega) (by omega)⟩
          have SB : Hid (Below w.heap.size w ((wr.setCell ⟨w.heap.size + 1, 0, none⟩ (.slice sa0 sn0 sp0)).setCell ⟨w.heap.size + 1, 1, none⟩ (.slice sa sn sp))) := below_set (below_set (hb.trans (FI2.out.2.2.1.mono (by omega))) (by simp) _) (by simp) _
          go_wp2
          (try simp only [Exit.inBlock, Exit.then])
          obtain ⟨r0, r1⟩ := res2 wr (w.heap.size + 1) (.slice sa0 sn0 sp0) (.slice sa sn sp) G0 G1
          refine bodyPost_ret (v := .agg #[.slice sa0 sn0 sp0, .slice sa sn sp]) ?_ rfl ⟨_, _, _, _, _, _, rfl, SM.out, SB.out⟩
          rw [results_cell1 rfl]; simp [go_sem, r0, r1]
end Go.Proofs.Ytpaanfeleeomnaa
