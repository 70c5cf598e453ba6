/- What is proved here: the worker adds pages. -/
import Derived.Test.YtkpmkgkfpikpfaaGreatGp
import Derived.Test.YtkpmkgkfpikpfaaGreatEach
import Derived.Test.YtkpmkgkfpikpfaaGreatMapOk
namespace Go.Proofs.YtkpmkgkfpikpfaaGreat
open Go.RowKit Go.Shelf
set_option linter.unusedVariables false
set_option linter.unusedSimpArgs false
set_option maxRecDepth 100000
attribute [local go_sem] Oper.semAt_some
theorem box11 (w : World) (x y : Value) (t s : Nat) : ∃ W, (w.alloc (.cells #[x] t)).alloc (.cells #[y] s) = W ∧ Below w.heap.size w W ∧ W.heap.size = w.heap.size + 1 + 1 ∧
  W.cell? ⟨w.heap.size, 0, none⟩ = some x ∧ W.cell? ⟨w.heap.size + 1, 0, none⟩ = some y ∧ Free W ⟨w.heap.size, 0, none⟩ ∧ Free W ⟨w.heap.size + 1, 0, none⟩ ∧ Boxed W (w.heap.size + 1) s y := by
 have a1 : (w.alloc (.cells #[x] t)).cell? ⟨w.heap.size, 0, none⟩ = some x := cell_newA w _ t _ 0 x rfl rfl
 have a2 : Free (w.alloc (.cells #[x] t)) ⟨w.heap.size, 0, none⟩ := ⟨⟨_, a1⟩, by rw [World.frozen?_alloc_at _ _ _ _ (by simp)]⟩
 have b1 : ((w.alloc (.cells #[x] t)).alloc (.cells #[y] s)).cell? ⟨w.heap.size + 1, 0, none⟩ = some y := cell_newA _ _ s _ 0 y (by simp) rfl
 exact ⟨_, rfl, ((Below.refl _ _).alloc (Nat.le_refl _) _).alloc (by simp) _, by simp, cell_old a1 _, b1, a2.alloc _, ⟨⟨_, b1⟩, by rw [World.frozen?_alloc_at _ _ _ _ (by simp)]⟩, by have h := Boxed.new (w.alloc (.cells #[x] t)) s y; rw [World.size_alloc] at h; exact h⟩
set_option maxHeartbeats 1000000 in
theorem hostPages58 (v : Value) (w : World) (hv : ∃ a n p, v = .slice a n p) :
  Calls Tryz.prog 72 #[v] w fun e w' => e = .returned (.func (.func 88) #[] #[.pointer (some ⟨w.heap.size, 0, none⟩)]) ∧ w' = w.alloc (.cells #[v] 27) := by
 obtain ⟨_, _, _, rfl⟩ := hv
 go_enter Tryz.func72, Tryz.ntmps72
 go_wp2
 go_ret
 exact ⟨rfl, rfl⟩
theorem own_row' {w w' : World} {B e n wb : Nat} {v : Value} {xs : List Value} (h : w.ownsRow B e 2 v n xs) (hg : w.grownBy w' (some wb)) (hr : v.ownBlock ≠ some wb) : w'.ownsRow B e 2 v n xs := h.kept hg (Or.inr hr)
theorem hostPages_stops (m : Nat) (hm : 1 ≤ m) (Bn n₀ wb : Nat) (v : Value) (ps : List (Nat × Int)) (hl : ps.length ≤ 1000000) (hps : ∀ x ∈ ps, x.1 < 1048576) (w : World) (hn₀ : n₀ ≤ w.heap.size) (hB1 : Bn < n₀) (hB2 : Bn ≠ wb) (hBn : w.cell? ⟨Bn, 0, none⟩ = some v) (hv : Pg.Sl .i64 w v ps) (hvb : ∀ g, v.ownBlock = some g → 0 < ps.length → g < n₀ ∧ g ≠ wb) :
  SeqStopsK Fence.wide m Tryz.prog 88 #[.pointer (some ⟨Bn, 0, none⟩)] encK (But n₀ wb) (fun ys => ys = ksM ps ps.length) (fun pre => pre <+: ksM ps ps.length) ps.length w := fun l J Jx W hW hJ hJx hY h0 =>
 hostPages1_in Fence.wide m trivial rfl hm l Bn n₀ wb v ps hl hps J Jx hY W (Nat.le_trans hn₀ hW.size) hJ hB1 hB2 (keep_cell hW hBn) (hv.keep hW) hvb h0
set_option maxHeartbeats 8000000 in
theorem gadd41 (B wb first n bs a m last : Nat) (prot : Int) (ms cs ps : List (Nat × Int)) (w : World) (hW : Wk B w wb ms cs ps bs) (hs : Srt ps) (hpl : ps.length ≤ 256) (hfit : FitQ ms cs) (hw : Words cs) (hrc : ∀ y ∈ cs, y.1 < 18446744073709551616) (hbs : bs ≤ 4611686018427387904) (hg : gpagesOk first n = true) (hla : last = first + n - 1) (hroom : ps.length - (mid ps first last).length + n ≤ 256) (hreach : Reach ps bs ms) (ha : a = bs + first * 4096) (hm : m = n * 4096) :
  Calls Tryz.prog 53 #[.pointer (some ⟨wb, 0, none⟩), .int .u32 (first : Int), .int .u32 (n : Int), .int .i64 prot] w fun e w' =>
   (e = .returned (.int .i64 0) ∧ (msF ps bs ms (ksM (added first prot n) n)).length ≤ 64 ∧ Wk B w' wb (msF ps bs ms (ksM (added first prot n) n)) (clearN cs a m) (lo ps first ++ added first prot n ++ hi ps last) bs ∧ w.grownBy w' (some wb)) ∨
   (e = .returned (.int .i64 105) ∧ 64 < (msF ps bs ms (ksM (added first prot n) n)).length ∧ w.grownBy w' (some wb)) := by
 have hgg : n ≠ 0 ∧ first + n ≤ 1048576 := by simpa [gpagesOk] using hg
 have HWK : Hid (Wk B w wb ms cs ps bs) := hW
 obtain ⟨vm, vc, vp, hb, ho, hB⟩ := hW
 obtain ⟨W, hWW, hbW, hsz, c4, c8, g4, g8, bx8⟩ := box11 w (.pointer (some ⟨wb, 0, none⟩)) (.int .i64 0) 121 35
 have K67 := gspan67 vp ps first n last W (ho.p.keep hbW) hs (by omega) hgg.1 (by omega) hla
 have hlen : (lo ps first).length + (mid ps first last).length ≤ ps.length := by
  have := parts_len ps hs first last (by omega)
  omega
 obtain ⟨ap, pp, hvp, lp1, lp2⟩ : ∃ a p, vp = .slice a ps.length p ∧ ps.length ≤ p ∧ p ≤ 9223372036854775807 := by obtain ⟨a, p, h, h1, h2, _⟩ := ho.p; exact ⟨_, _, h, h1, h2⟩
 subst hvp
 have hbk := hb.keep hbW
 have C3 := hbk.c3
 obtain ⟨f, hf⟩ : ∃ f, f = (lo ps first).length := ⟨_, rfl⟩
 obtain ⟨md, hmd⟩ : ∃ f, f = (mid ps first last).length := ⟨_, rfl⟩
 rw [← hf, ← hmd] at K67 hlen
 rw [← hmd] at hroom
 obtain ⟨t, ht⟩ : ∃ t, t = f + md := ⟨_, rfl⟩
 rw [← ht] at K67 hlen
 obtain ⟨r, hr⟩ : ∃ r, r = ps.length - md := ⟨_, rfl⟩
 obtain ⟨z, hz⟩ : ∃ z, z = r + n := ⟨_, rfl⟩
 have y1 : (t : Int) - (f : Int) = (md : Int) := by omega
 have y2 : (ps.length : Int) - (md : Int) = (r : Int) := by omega
 have y3 : (r : Int) + (n : Int) = (z : Int) := by omega
 have y4 : ¬ (256 : Int) < (z : Int) := by omega
 have y5 : IntKind.i64.wrap (n : Int) = (n : Int) := by rw [IntKind.wrap_i64]; omega
 have hn256 : n ≤ 256 := by omega
 have HLF : Hid (f = (lo ps first).length ∧ md = (mid ps first last).length ∧ t = f + md ∧ t ≤ ps.length) := ⟨hf, hmd, ht, hlen⟩
 have HGG : Hid (n ≠ 0 ∧ first + n ≤ 1048576 ∧ last = first + n - 1) := ⟨hgg.1, hgg.2, hla⟩
 have HARG : Hid (Srt ps ∧ ps.length ≤ 256 ∧ FitQ ms cs ∧ Words cs ∧ (∀ y ∈ cs, y.1 < 18446744073709551616) ∧ bs ≤ 4611686018427387904 ∧ Reach ps bs ms ∧ a = bs + first * 4096 ∧ m = n * 4096) := ⟨hs, hpl, hfit, hw, hrc, hbs, hreach, ha, hm⟩
 have HOG : Hid (OwnG B w vm vc (.slice ap ps.length pp) ms cs ps ∧ B ≤ w.heap.size ∧ Wb w wb vm vc (.int .u64 (bs : Int)) (.slice ap ps.length pp)) := ⟨ho, hB, hb⟩
 obtain ⟨zm, hzm⟩ : ∃ z, z = msF ps bs ms (ksM (added first prot n) n) := ⟨_, rfl⟩
 obtain ⟨zc, hzc⟩ : ∃ z, z = clearN cs a m := ⟨_, rfl⟩
 obtain ⟨zp, hzp⟩ : ∃ z, z = lo ps first ++ added first prot n ++ hi ps last := ⟨_, rfl⟩
 rw [← hzm, ← hzc, ← hzp]
 have HZ : Hid (zm = msF ps bs ms (ksM (added first prot n) n) ∧ zc = clearN cs a m ∧ zp = lo ps first ++ added first prot n ++ hi ps last) := ⟨hzm, hzc, hzp⟩
 obtain ⟨i0, hi, hz0, hz1, hz2⟩ := info_parts Pg.info54
 have HI : Hid (Tryz.prog.info? 53 = some i0 ∧ i0.zero = some (.agg #[.int .u32 0, .int .i64 0]) ∧ i0.size = 2 ∧ i0.bytes = 16) := ⟨hi, hz0, hz1, hz2⟩
 have HSZ : Hid (W.heap.size = w.heap.size + 2) := by show _ = _; omega
 clear hi hz0 hz1 hz2 hzm hzc hzp ho hB hb hs hpl hfit hw hrc hbs hreach ha hm hg hgg hla hroom hlen hf hmd ht hr hz hbk hsz
 refine callsIn_wide.1 (callsIn_of_wp_marks (F := Fence.wide) (n := 3) Tryz.func53 rfl trivial ?_ rfl)
 simp only [Tryz.ntmps53, List.size_toArray, List.length_cons, List.length_nil, Nat.reduceAdd, Nat.reduceSub, Array.replicate_succ, Array.replicate_zero, List.push_toArray, List.append_toArray, List.nil_append, List.cons_append]
 refine wpIn_wide.2 ?_
 go_wp2_with fail
 refine K67.mono ?_
 rintro e w1 ⟨rfl, hb1⟩
 clear K67
 have c4' := keep_cell hb1 c4
 have C3' := keep_cell hb1 C3
 have hsz1 : w.heap.size + 2 ≤ w1.heap.size := by have := hb1.size; have := HSZ.out; omega
 go_wp2_with (at_make; refine wpList_make_full _ rfl (.tmp 40) (.tmp 40) 27 rfl (w.heap.size + 2) 53 i0 _ 2 Tryz.underlying27 HI.out.1 HI.out.2.1 HI.out.2.2.1 _ _ _ _ n rfl rfl rfl rfl (by rw [HI.out.2.2.2]; omega) (by unfold maxLen; omega) hsz1 ?_; intro w2 hmk hgr)
 generalize hgq : w1.heap.size = g at hmk ⊢
 have hgsz : w.heap.size + 2 ≤ g := by omega
 have hb2 : Below W.heap.size W w2 := below_grown hb1 hgr
 have HO : Hid (w2.ownsRow (w.heap.size + 2) 53 2 (.slice (some ⟨g, 0, none⟩) n n) n (Pg.rowOf .i64 (filled first prot n 0))) := by
  have h := hmk
  rw [show (Value.agg #[.int .u32 0, .int .i64 0]).cells = #[.int .u32 0, .int .i64 0] by rfl, Pg.rowOf_made] at h
  exact h
 clear hmk hgr hgq hb1 c4' C3' hsz1
 go_wp2
 go_loopw [44] (fun i wr => ∃ k : Nat, k ≤ n ∧ i = .int .i64 (k : Int) ∧ wr.ownsRow (w.heap.size + 2) 53 2 (.slice (some ⟨g, 0, none⟩) n n) n (Pg.rowOf .i64 (filled first prot n k)) ∧ Below W.heap.size W wr) (fun i _ => n - (intOf i).toNat)
 case atStart => exact ⟨0, Nat.zero_le _, rfl, HO.out, hb2⟩
 case round =>
  obtain ⟨k, hk, rfl, ho, hbr⟩ := hrel
  by_cases hkn : k < n
  ·obtain ⟨pk, hpk⟩ : ∃ pk, pk = first + k := ⟨_, rfl⟩
   have x2 : IntKind.u32.wrap (k : Int) = (k : Int) := by rw [IntKind.wrap_u32]; omega
   have x3 : IntKind.u32.wrap ((first : Int) + (k : Int)) = (pk : Int) := by have := HGG.out; rw [IntKind.wrap_u32]; omega
   have hget := filled_get first prot n k k hkn
   obtain ⟨r0, r1⟩ := Pg.rowOf_even .i64 (filled first prot n k) k (by rw [filled_length]; exact hkn)
   have d0 := ho.cellAt (k * 2) (by omega)
   have d1 := ho.cellAt (k * 2 + 1) (by omega)
   rw [r0] at d0
   rw [r1] at d1
   have f0 := ho.frozenAt (k * 2)
   have f1 := ho.frozenAt (k * 2 + 1)
   have hgW : W.heap.size ≤ g := by have := HSZ.out; omega
   have HR : Hid (((wr.setCell ⟨g, k * 2, none⟩ (.int .u32 (pk : Int))).setCell ⟨g, k * 2 + 1, none⟩ (.int .i64 prot)).ownsRow (w.heap.size + 2) 53 2 (.slice (some ⟨g, 0, none⟩) n n) n (Pg.rowOf .i64 (filled first prot n (k + 1)))) := by
    have h := ((ho.stored (k * 2) (.int .u32 (pk : Int))).1.stored (k * 2 + 1) (.int .i64 prot)).1
    rw [Pg.rowOf_set, hpk] at h
    rw [hpk]
    exact h
   have HB : Hid (Below W.heap.size W ((wr.setCell ⟨g, k * 2, none⟩ (.int .u32 (pk : Int))).setCell ⟨g, k * 2 + 1, none⟩ (.int .i64 prot))) := below_set (below_set hbr (by simp; omega) _) (by simp; omega) _
   clear hget r0 r1 ho hbr hpk hgW
   go_wp2
   go_roundw
   case rel => exact ⟨k + 1, by omega, by go_num, HR.out, HB.out⟩
   case measure => simp [intOf]; omega
  ·obtain rfl : k = n := by omega
   rw [filled_all] at ho
   have hal : (added first prot k).length = k := by simp [added]
   rw [← hal] at ho
   have HAD : Hid (wr.ownsRow (w.heap.size + 2) 53 2 (.slice (some ⟨g, 0, none⟩) k k) (added first prot k).length (Pg.rowOf .i64 (added first prot k)) ∧ Below W.heap.size W wr) := ⟨by rw [hal] at ho ⊢; exact ho, hbr⟩
   have K58 := hostPages58 (.slice (some ⟨g, 0, none⟩) k k) wr ⟨_, _, _, rfl⟩
   clear ho hbr hk hkn hb2 HO
   go_wp2_with fail
   refine K58.mono ?_
   rintro e w3 ⟨rfl, rfl⟩
   clear K58
   go_wp2
   obtain ⟨W3, hW3⟩ : ∃ x, wr.alloc (.cells #[.slice (some ⟨g, 0, none⟩) k k] 27) = x := ⟨_, rfl⟩
   have hb3 : Below wr.heap.size wr W3 := by rw [← hW3]; exact (Below.refl _ _).alloc (Nat.le_refl _) _
   have hs3 : W3.heap.size = wr.heap.size + 1 := by rw [← hW3]; simp
   have cB3 : W3.cell? ⟨wr.heap.size, 0, none⟩ = some (.slice (some ⟨g, 0, none⟩) k k) := by rw [← hW3]; exact cell_newA wr _ 27 _ 0 _ rfl rfl
   rw [hW3]
   have hbw3 : Below w.heap.size w W3 := below_tr (below_tr hbW HAD.out.2) hb3
   have hbW3 : Below W.heap.size W W3 := below_tr HAD.out.2 hb3
   have HWK3 : Hid (Wk B W3 wb ms cs ps bs) := HWK.out.keep hbw3
   have HAD3 : Hid (W3.ownsRow (w.heap.size + 2) 53 2 (.slice (some ⟨g, 0, none⟩) k k) (added first prot k).length (Pg.rowOf .i64 (added first prot k))) := own_keep HAD.out.1 hb3
   have hwlt := HWK.out.lt
   have hc4 := keep_cell hbW3 c4
   have hg8 := g8.keep hbW3
   have hszW := HSZ.out
   have hszr := HAD.out.2.size
   have hgl : g < W3.heap.size := (HAD3.out.lt g rfl).2
   have hseq := hostPages_stops (3 - 1) (by omega) wr.heap.size W3.heap.size wb (.slice (some ⟨g, 0, none⟩) k k) (added first prot k) (by rw [hal]; omega) (added_bound HGG.out.2.1) W3 (Nat.le_refl _) (by omega) (by omega) cB3 (Pg.own_sl HAD3.out) (by intro g' e _; cases e; exact ⟨hgl, by show g ≠ wb; omega⟩)
   rw [hal] at hseq
   clear cB3 hs3 hW3
   refine wpIn_wide.1 (wpIn_rangeFunc_ownF (F := Fence.wide) (n := 3) rfl (by omega) (gf := 88) (lb := #[.pointer (some ⟨wr.heap.size, 0, none⟩)]) rfl trivial (enters_of Tryz.func88 (by kernel_rfl) rfl)
    hseq (fun h k => But.trans h k) (butK_b (Nat.le_refl _)) (Below.refl _ _) (fun _ => rfl)
    (fun pre Wx => But W3.heap.size wb W3 Wx ∧ Wk B Wx wb (msF ps bs ms pre) cs ps bs ∧ MsI ps bs ms cs pre)
    (fun c pre Wx => c = .ret ∧ ∃ init kx code, pre = init ++ [kx] ∧ MsI ps bs ms cs init ∧ usedN ps kx.val = false ∧ ((code = 105 ∧ mid (msF ps bs ms init) (hp bs kx.val) (hp bs kx.val + 1 - 1) = [] ∧ 64 < (msF ps bs ms init).length + 1) ∨ (code = 17 ∧ (mid (msF ps bs ms init) (hp bs kx.val) (hp bs kx.val + 1 - 1)).length ≠ 0)) ∧ Wx.cell? ⟨w.heap.size + 1, 0, none⟩ = some (.int .i64 code) ∧ w.grownBy Wx (some wb))
    (fun pre A C row hh hgr hrr => ⟨hh.1.row hgr hh.1.size (fun r e => (hrr r e).1), hh.2.1.row hgr (fun r e => (hrr r e).2), hh.2.2⟩)
    (fun c pre A C row hh hgr hrr => ?hIx)
    ⟨But.refl _ _ _, HWK3.out, msI_nil HARG.out.2.2.1⟩ ?a1 ?assign ?body ?done ?stop)
   case hIx =>
    obtain ⟨e1, init, kx, code, e2, e3, e4, e5, e6, e7⟩ := hh
    exact ⟨e1, init, kx, code, e2, e3, e4, e5, hgr.cell e6 (fun e => by have := (hrr _ e.symm).1; simp at this; omega), grown_row e7 hgr (fun r e => by have := (hrr r e).1; omega)⟩
   case assign =>
    intro l x Wx K hK
    simp only [encK]
    gi_wp2
    exact hK
   case body =>
    rintro l pre x Wx ⟨i1, i2, i3⟩ hpre
    have c4x := i1.cell (p := ⟨w.heap.size, 0, none⟩) (by simp; omega) (by simp; omega) hc4
    have hxl := x.isLt
    have g8x : Free Wx ⟨w.heap.size + 1, 0, none⟩ := ⟨⟨_, i1.cell (p := ⟨w.heap.size + 1, 0, none⟩) (by simp; omega) (by simp; omega) hg8.cell⟩, (World.frozen?_of_block (i1.block (w.heap.size + 1) (by omega) (by omega))).trans hg8.frozen⟩
    have hWx : W3.heap.size ≤ Wx.heap.size := i1.size
    obtain ⟨a1, a2, a3, a4, a5, a6, a7, a8, a9⟩ := HARG.out
    cases hu : usedN ps x.val with
    | true =>
     obtain ⟨u1, u2⟩ := msI_used i3 hu
     have KK := gback68_used B wb x.val bs (msF ps bs ms pre) cs ps Wx i2 a1 (by omega) (by omega) hu
     have HE : Hid (∀ w', Wk B w' wb (msF ps bs ms pre) cs ps bs → Wx.grownBy w' (some wb) → KeepsOthers Wx w' ∧ But W3.heap.size wb Wx w' ∧ (But W3.heap.size wb W3 w' ∧ Wk B w' wb (msF ps bs ms (pre ++ [x])) cs ps bs ∧ MsI ps bs ms cs (pre ++ [x]))) := fun w' h1 h2 =>
      ⟨KeepsOthers.of_grownBy h2 i2.cells, But.grown h2 hWx, i1.trans (But.grown h2 hWx), by rw [u2]; exact h1, u1⟩
     clear a1 a2 a3 a4 a5 a6 a7 a8 a9 u1 u2 hu i3 i2 i1 g8x
     gi_wp2_with (first | (gi_at_call 82; refine (CallsIn.inRound l (callsIn_wide.2 KK)).mono ?_; rintro e w' ⟨rfl, hk', hg'⟩) | (refine ⟨trivial, ?_⟩; gi_at_call 82; refine (CallsIn.inRound l (callsIn_wide.2 KK)).mono ?_; rintro e w' ⟨rfl, hk', hg'⟩))
     exact HE.out _ hk' hg'
    | false =>
     by_cases hmid : mid (msF ps bs ms pre) (hp bs x.val) (hp bs x.val + 1 - 1) = []
     ·by_cases hroom : (msF ps bs ms pre).length + 1 ≤ 64
      ·obtain ⟨u1, u2⟩ := msI_new a6 i3 hu hmid hroom
       have KK := gback68_ok B wb x.val bs (hp bs x.val) (msF ps bs ms pre) cs ps Wx i2 a1 (by omega) (by omega) hu a6 rfl i3.1 hmid hroom
       rw [← u2] at KK
       have HE : Hid (∀ w', Wk B w' wb (msF ps bs ms (pre ++ [x])) cs ps bs → Wx.grownBy w' (some wb) → KeepsOthers Wx w' ∧ But W3.heap.size wb Wx w' ∧ (But W3.heap.size wb W3 w' ∧ Wk B w' wb (msF ps bs ms (pre ++ [x])) cs ps bs ∧ MsI ps bs ms cs (pre ++ [x]))) := fun w' h1 h2 =>
        ⟨KeepsOthers.of_grownBy h2 i2.cells, But.grown h2 hWx, i1.trans (But.grown h2 hWx), h1, u1⟩
       clear a1 a2 a3 a4 a5 a6 a7 a8 a9 u1 u2 hu i3 i2 i1 g8x hmid hroom
       gi_wp2_with (first | (gi_at_call 82; refine (CallsIn.inRound l (callsIn_wide.2 KK)).mono ?_; rintro e w' ⟨rfl, hk', hg'⟩) | (refine ⟨trivial, ?_⟩; gi_at_call 82; refine (CallsIn.inRound l (callsIn_wide.2 KK)).mono ?_; rintro e w' ⟨rfl, hk', hg'⟩))
       exact HE.out _ hk' hg'
      ·have KK := gback68_full B wb x.val bs (hp bs x.val) (msF ps bs ms pre) cs ps Wx i2 a1 (by omega) (by omega) hu a6 rfl i3.1 hmid (by omega)
       have HE : Hid (∀ w', Wx.grownBy w' (some wb) → KeepsOthers Wx (w'.setCell ⟨w.heap.size + 1, 0, none⟩ (.int .i64 105)) ∧ (∃ init kx code, pre ++ [x] = init ++ [kx] ∧ MsI ps bs ms cs init ∧ usedN ps kx.val = false ∧ ((code = 105 ∧ mid (msF ps bs ms init) (hp bs kx.val) (hp bs kx.val + 1 - 1) = [] ∧ 64 < (msF ps bs ms init).length + 1) ∨ (code = 17 ∧ (mid (msF ps bs ms init) (hp bs kx.val) (hp bs kx.val + 1 - 1)).length ≠ 0)) ∧ (w'.setCell ⟨w.heap.size + 1, 0, none⟩ (.int .i64 105)).cell? ⟨w.heap.size + 1, 0, none⟩ = some (.int .i64 code) ∧ w.grownBy (w'.setCell ⟨w.heap.size + 1, 0, none⟩ (.int .i64 105)) (some wb))) := fun w' h2 =>
        ⟨(KeepsOthers.of_grownBy h2 i2.cells).trans (KeepsOthers.setCell _ _ _), pre, x, 105, rfl, i3, hu, Or.inl ⟨rfl, hmid, by omega⟩, World.cell?_setCell_same _ _ _ (h2.cell g8x.cell (by simp; omega)), grown_row (grown_but (Go.Lib.grownBy_below (World.grownBy.refl w (some wb)) hbw3) (i1.trans (But.grown h2 hWx)) (by omega)) (Go.Lib.grownBy_setCell w' (w.heap.size + 1) 0 _) (fun r e => by cases e; omega)⟩
       have HG8 : Hid (∀ w', Wx.grownBy w' (some wb) → Free w' ⟨w.heap.size + 1, 0, none⟩) := fun w' h2 => ⟨⟨_, h2.cell g8x.cell (by simp; omega)⟩, (World.frozen?_of_block (h2.block (w.heap.size + 1) (by omega) (by simp; omega))).trans g8x.frozen⟩
       clear a1 a2 a3 a4 a5 a6 a7 a8 a9 hu i3 i2 i1 g8x hmid hroom
       gi_wp2_with (first | (gi_at_call 82; refine (CallsIn.inRound l (callsIn_wide.2 KK)).mono ?_; rintro e w' ⟨rfl, hk', hg'⟩; have q8 := (HG8.out _ hg').cell; have q9 := (HG8.out _ hg').frozen) | (refine ⟨trivial, ?_⟩; gi_at_call 82; refine (CallsIn.inRound l (callsIn_wide.2 KK)).mono ?_; rintro e w' ⟨rfl, hk', hg'⟩; have q8 := (HG8.out _ hg').cell; have q9 := (HG8.out _ hg').frozen))
       exact ⟨(HE.out _ hg').1, rfl, (HE.out _ hg').2⟩
     ·have hne : (mid (msF ps bs ms pre) (hp bs x.val) (hp bs x.val + 1 - 1)).length ≠ 0 := fun e => hmid (List.eq_nil_of_length_eq_zero e)
      have KK := gback68_there B wb x.val bs (hp bs x.val) (msF ps bs ms pre) cs ps Wx i2 a1 (by omega) (by omega) hu a6 rfl i3.1 hne
      have HE : Hid (∀ w', Wx.grownBy w' (some wb) → KeepsOthers Wx (w'.setCell ⟨w.heap.size + 1, 0, none⟩ (.int .i64 17)) ∧ (∃ init kx code, pre ++ [x] = init ++ [kx] ∧ MsI ps bs ms cs init ∧ usedN ps kx.val = false ∧ ((code = 105 ∧ mid (msF ps bs ms init) (hp bs kx.val) (hp bs kx.val + 1 - 1) = [] ∧ 64 < (msF ps bs ms init).length + 1) ∨ (code = 17 ∧ (mid (msF ps bs ms init) (hp bs kx.val) (hp bs kx.val + 1 - 1)).length ≠ 0)) ∧ (w'.setCell ⟨w.heap.size + 1, 0, none⟩ (.int .i64 17)).cell? ⟨w.heap.size + 1, 0, none⟩ = some (.int .i64 code) ∧ w.grownBy (w'.setCell ⟨w.heap.size + 1, 0, none⟩ (.int .i64 17)) (some wb))) := fun w' h2 =>
       ⟨(KeepsOthers.of_grownBy h2 i2.cells).trans (KeepsOthers.setCell _ _ _), pre, x, 17, rfl, i3, hu, Or.inr ⟨rfl, hne⟩, World.cell?_setCell_same _ _ _ (h2.cell g8x.cell (by simp; omega)), grown_row (grown_but (Go.Lib.grownBy_below (World.grownBy.refl w (some wb)) hbw3) (i1.trans (But.grown h2 hWx)) (by omega)) (Go.Lib.grownBy_setCell w' (w.heap.size + 1) 0 _) (fun r e => by cases e; omega)⟩
      have HG8 : Hid (∀ w', Wx.grownBy w' (some wb) → Free w' ⟨w.heap.size + 1, 0, none⟩) := fun w' h2 => ⟨⟨_, h2.cell g8x.cell (by simp; omega)⟩, (World.frozen?_of_block (h2.block (w.heap.size + 1) (by omega) (by simp; omega))).trans g8x.frozen⟩
      clear a1 a2 a3 a4 a5 a6 a7 a8 a9 hu i3 i2 i1 g8x hmid hne
      gi_wp2_with (first | (gi_at_call 82; refine (CallsIn.inRound l (callsIn_wide.2 KK)).mono ?_; rintro e w' ⟨rfl, hk', hg'⟩; have q8 := (HG8.out _ hg').cell; have q9 := (HG8.out _ hg').frozen) | (refine ⟨trivial, ?_⟩; gi_at_call 82; refine (CallsIn.inRound l (callsIn_wide.2 KK)).mono ?_; rintro e w' ⟨rfl, hk', hg'⟩; have q8 := (HG8.out _ hg').cell; have q9 := (HG8.out _ hg').frozen))
      exact ⟨(HE.out _ hg').1, rfl, (HE.out _ hg').2⟩
   case done =>
    rintro D ys Wx hD rfl ⟨i1, i2, i3⟩ hKD
    have c4x := i1.cell (p := ⟨w.heap.size, 0, none⟩) (by simp; omega) (by simp; omega) hc4
    have g8x : Free Wx ⟨w.heap.size + 1, 0, none⟩ := ⟨⟨_, i1.cell (p := ⟨w.heap.size + 1, 0, none⟩) (by simp; omega) (by simp; omega) hg8.cell⟩, (World.frozen?_of_block (i1.block (w.heap.size + 1) (by omega) (by omega))).trans hg8.frozen⟩
    have hWx : W3.heap.size ≤ Wx.heap.size := i1.size
    obtain ⟨a1, a2, a3, a4, a5, a6, a7, a8, a9⟩ := HARG.out
    have K69 := gwipe69 B wb first k bs a m (msF ps bs ms (ksM (added first prot k) k)) cs ps Wx i2 i3.1 a4 a5 a6 (by have := HGG.out; omega) (by omega) a8 a9
    rw [← HZ.out.1, ← HZ.out.2.1] at K69
    have HLE : Hid (zm.length ≤ 64) := by show _ ≤ _; rw [HZ.out.1]; exact i3.1.1
    have hgw : w.grownBy Wx (some wb) := grown_but (Go.Lib.grownBy_below (World.grownBy.refl w (some wb)) hbw3) i1 (by omega)
    have HADx : Hid (Wx.ownsRow (w.heap.size + 2) 53 2 (.slice (some ⟨g, 0, none⟩) k k) (added first prot k).length (Pg.rowOf .i64 (added first prot k))) := by
     refine HAD3.out.kept ⟨i1.os, i1.tape, i1.output, i1.size, fun j hj hne => i1.block j hj (fun e => hne (by rw [e]))⟩ (Or.inr (fun e => ?_))
     have e2 : g = wb := by simpa [Value.ownBlock] using e
     omega
    clear a1 a2 a3 a4 a5 a6 a7 a8 a9 i3 i2
    go_wp2_with fail
    refine K69.mono ?_
    rintro e w5 ⟨rfl, k5, g5⟩
    clear K69
    obtain ⟨vm5, vc5, vp5, wb5, og5, hB5⟩ := k5
    obtain ⟨ap5, pp5, rfl, lq1, lq2⟩ : ∃ a p, vp5 = .slice a ps.length p ∧ ps.length ≤ p ∧ p ≤ 9223372036854775807 := by obtain ⟨a, p, h, h1, h2, _⟩ := og5.p; exact ⟨_, _, h, h1, h2⟩
    have hlf := HLF.out
    obtain ⟨v1, t1, s1, sa1, sn1, sp1, rfl⟩ := og5.p.to22 f (by omega)
    obtain ⟨v2, t2, s2, sa2, sn2, sp2, rfl⟩ := og5.p.from22 t (by omega)
    have e1 : ps.take f = lo ps first := by rw [hlf.1]; exact parts_take ps HARG.out.1 first last (by have := HGG.out; omega)
    have e2 : ps.drop t = hi ps last := by rw [hlf.2.2.1, hlf.1, hlf.2.1]; exact parts_drop ps HARG.out.1 first last (by have := HGG.out; omega)
    rw [e1] at s1
    rw [e2] at s2
    have HAD5 := own_row' HADx.out g5 (by intro e; have e2 : g = wb := (by simpa [Value.ownBlock] using e); omega)
    have K66 : Hid (∀ b w', Below w5.heap.size w5 w' → w'.cell? ⟨b, 0, none⟩ = some (.slice sa1 sn1 sp1) → w'.cell? ⟨b, 1, none⟩ = some (.slice (some ⟨g, 0, none⟩) k k) → w'.cell? ⟨b, 2, none⟩ = some (.slice sa2 sn2 sp2) → Calls Tryz.prog 77 #[.slice (some ⟨b, 0, none⟩) 3 3] w' fun e w'' => ∃ a n p, e = .returned (.slice a n p) ∧ w''.ownsRow w5.heap.size 53 2 (.slice a n p) zp.length (Pg.rowOf .i64 zp) ∧ Below w'.heap.size w' w'') := fun b w' hb' d0 d1 d2 => by
     have hll : (lo ps first ++ added first prot k ++ hi ps last).length ≤ 1073741824 := by
      have q1 := lo_len ps first
      have q2 := hi_len ps last
      have q3 := HARG.out.2.1
      rw [List.length_append, List.length_append, hal]
      omega
     have h := Pg.cat39_3 b _ _ _ _ _ _ w' d0 d1 d2 (s1.keep hb') ((Pg.own_sl HAD5).keep hb') (s2.keep hb') hll
     rw [← HZ.out.2.2] at h
     refine h.mono ?_
     rintro e w'' ⟨v, rfl, ho, hB'⟩
     obtain ⟨a, n, p, rfl⟩ := own_shape ho
     exact ⟨a, n, p, rfl, own_base ho hb'.size, hB'⟩
    have c45 := g5.cell c4x (by simp; omega)
    have C35 := wb5.c3
    have x1 : (f : Int) ≤ (ps.length : Int) := by omega
    have x2 : (t : Int) ≤ (ps.length : Int) := by omega
    have HFIN : Hid (∀ w6 a6 n6 p6, Below w5.heap.size w5 w6 → w6.ownsRow w5.heap.size 53 2 (.slice a6 n6 p6) zp.length (Pg.rowOf .i64 zp) → True) := fun _ _ _ _ _ _ => trivial
    have hl5 : w.heap.size < w5.heap.size := by have := g5.size; omega
    have hl6 : wb < w5.heap.size := by omega
    have hn5 : ¬ w5.heap.size = w.heap.size := by omega
    have hn6 : ¬ w5.heap.size = wb := by omega
    clear s1 s2 e1 e2 HAD5 hlf HFIN
    go_wp2_with fail
    have bx5 : Boxed w5 (w.heap.size + 1) 35 (.int .i64 0) := by
     have b3 : Boxed W3 (w.heap.size + 1) 35 (.int .i64 0) := (hbW3.block _ bx8.lt).trans bx8
     have bX : Boxed Wx (w.heap.size + 1) 35 (.int .i64 0) := (i1.block _ (by omega) (by omega)).trans b3
     exact bX.kept g5 (by simp; omega)
    have hD5 : w5.heap[D]? = some (.deferred (some [])) := (g5.block D (Array.getElem?_eq_some_iff.1 hKD).1 (fun e => by cases e; have := hwlt; omega)).trans hKD
    have hgw5 : w.grownBy w5 (some wb) := Go.Lib.grownBy_trans hgw g5
    have HSL : Hid (Below w5.heap.size w5 w5.drew) := (Below.refl _ _).drew
    have HQ5 : Hid (Boxed w5 (w.heap.size + 1) 35 (.int .i64 0) ∧ w5.heap[D]? = some (.deferred (some [])) ∧ w.grownBy w5 (some wb) ∧ Wb w5 wb vm5 vc5 (.int .u64 (bs : Int)) (.slice ap5 ps.length pp5) ∧ OwnG B w5 vm5 vc5 (.slice ap5 ps.length pp5) zm zc ps ∧ B ≤ w5.heap.size ∧ w.heap.size ≤ D) := ⟨bx5, hD5, hgw5, wb5, og5, hB5, by omega⟩
    clear bx5 hD5 hgw5 wb5 og5 hB5 hKD
    refine wp_region_noPanic ?_
    refine wp_region_last (fun w' => Below w5.heap.size w5 w' ∧ w'.cell? ⟨w.heap.size, 0, none⟩ = some (.pointer (some ⟨wb, 0, none⟩)) ∧ w'.cell? ⟨wb, 3, none⟩ = some (.slice ap5 ps.length pp5)) 18 (by kernel_rfl) ⟨HSL.out, by rw [World.cell?_drew]; exact c45, by rw [World.cell?_drew]; exact C35⟩ (fun hHeld => ?_)
    refine wpAnyN_take (i := 0) (v := ?_) (by kernel_rfl) (by decide) rfl (by kernel_rfl) (by kernel_rfl) (by kernel_rfl) (fun _ _ _ h => h) (Or.inl ⟨by rfl, ?_⟩) hHeld ?_
    rotate_left
    focus (intro w' hSw; obtain ⟨hS1, hS2, hS3⟩ := hSw; go_simp; try with_reducible rfl)
    simp only [Act.put, List.setIfInBounds_toArray, List.set_cons_zero, List.set_cons_succ]
    refine wpAnyN_take (i := 1) (v := ?_) (by kernel_rfl) (by decide) rfl (by kernel_rfl) (by kernel_rfl) (by kernel_rfl) (fun _ _ _ h => h) (Or.inl ⟨by rfl, ?_⟩) hHeld ?_
    rotate_left
    focus (intro w' hSw; obtain ⟨hS1, hS2, hS3⟩ := hSw; go_simp; try with_reducible rfl)
    simp only [Act.put, List.setIfInBounds_toArray, List.set_cons_zero, List.set_cons_succ]
    refine wpAnyN_take (i := 2) (v := ?_) (by kernel_rfl) (by decide) rfl (by kernel_rfl) (by kernel_rfl) (by kernel_rfl) (fun _ _ _ h => h) (Or.inl ⟨by rfl, ?_⟩) hHeld ?_
    rotate_left
    focus (intro w' hSw; obtain ⟨hS1, hS2, hS3⟩ := hSw; go_simp; try with_reducible rfl)
    simp only [Act.put, List.setIfInBounds_toArray, List.set_cons_zero, List.set_cons_succ]
    refine wpAnyN_take (i := 3) (v := ?_) (by kernel_rfl) (by decide) rfl (by kernel_rfl) (by kernel_rfl) (by kernel_rfl) (fun _ _ _ h => h) (Or.inl ⟨by rfl, ?_⟩) hHeld ?_
    rotate_left
    focus (intro w' hSw; obtain ⟨hS1, hS2, hS3⟩ := hSw; go_simp; try with_reducible rfl)
    simp only [Act.put, List.setIfInBounds_toArray, List.set_cons_zero, List.set_cons_succ]
    refine wpAnyN_take (i := 4) (v := ?_) (by kernel_rfl) (by decide) rfl (by kernel_rfl) (by kernel_rfl) (by kernel_rfl) (fun _ _ _ h => h) (Or.inl ⟨by rfl, ?_⟩) hHeld ?_
    rotate_left
    focus (intro w' hSw; obtain ⟨hS1, hS2, hS3⟩ := hSw; go_simp; try with_reducible rfl)
    simp only [Act.put, List.setIfInBounds_toArray, List.set_cons_zero, List.set_cons_succ]
    refine wpAnyN_take (i := 5) (v := ?_) (by kernel_rfl) (by decide) rfl (by kernel_rfl) (by kernel_rfl) (by kernel_rfl) (fun _ _ _ h => h) (Or.inl ⟨by rfl, ?_⟩) hHeld ?_
    rotate_left
    focus (intro w' hSw; obtain ⟨hS1, hS2, hS3⟩ := hSw; go_simp; try with_reducible rfl)
    simp only [Act.put, List.setIfInBounds_toArray, List.set_cons_zero, List.set_cons_succ]
    refine wpAnyN_take (i := 6) (v := ?_) (by kernel_rfl) (by decide) rfl (by kernel_rfl) (by kernel_rfl) (by kernel_rfl) (fun _ _ _ h => h) (Or.inl ⟨by rfl, ?_⟩) hHeld ?_
    rotate_left
    focus (intro w' hSw; obtain ⟨hS1, hS2, hS3⟩ := hSw; go_simp; try with_reducible rfl)
    simp only [Act.put, List.setIfInBounds_toArray, List.set_cons_zero, List.set_cons_succ]
    refine wpAnyN_take (i := 7) (v := ?_) (by kernel_rfl) (by decide) rfl (by kernel_rfl) (by kernel_rfl) (by kernel_rfl) (fun _ _ _ h => h) (Or.inl ⟨by rfl, ?_⟩) hHeld ?_
    rotate_left
    focus (intro w' hSw; obtain ⟨hS1, hS2, hS3⟩ := hSw; go_simp; try with_reducible rfl)
    simp only [Act.put, List.setIfInBounds_toArray, List.set_cons_zero, List.set_cons_succ]
    refine wpAnyN_take (i := 8) (v := ?_) (by kernel_rfl) (by decide) rfl (by kernel_rfl) (by kernel_rfl) (by kernel_rfl) (fun _ _ _ h => h) (Or.inl ⟨by rfl, ?_⟩) hHeld ?_
    rotate_left
    focus (intro w' hSw; obtain ⟨hS1, hS2, hS3⟩ := hSw; go_simp; try with_reducible rfl)
    simp only [Act.put, List.setIfInBounds_toArray, List.set_cons_zero, List.set_cons_succ]
    refine wpAnyN_take (i := 9) (v := ?_) (by kernel_rfl) (by decide) rfl (by kernel_rfl) (by kernel_rfl) (by kernel_rfl) (fun _ _ _ h => h) (Or.inl ⟨by rfl, ?_⟩) hHeld ?_
    rotate_left
    focus (intro w' hSw; obtain ⟨hS1, hS2, hS3⟩ := hSw; go_simp; try with_reducible rfl)
    simp only [Act.put, List.setIfInBounds_toArray, List.set_cons_zero, List.set_cons_succ]
    refine wpAnyN_take (i := 10) (v := ?_) (by kernel_rfl) (by decide) rfl (by kernel_rfl) (by kernel_rfl) (by kernel_rfl) (fun _ _ _ h => h) (Or.inl ⟨by rfl, ?_⟩) hHeld ?_
    rotate_left
    focus (intro w' hSw; obtain ⟨hS1, hS2, hS3⟩ := hSw; go_simp; try with_reducible rfl)
    simp only [Act.put, List.setIfInBounds_toArray, List.set_cons_zero, List.set_cons_succ]
    refine wpAnyN_take (i := 11) (v := ?_) (by kernel_rfl) (by decide) rfl (by kernel_rfl) (by kernel_rfl) (by kernel_rfl) (fun _ _ _ h => h) (Or.inl ⟨by rfl, ?_⟩) hHeld ?_
    rotate_left
    focus (intro w' hSw; obtain ⟨hS1, hS2, hS3⟩ := hSw; go_simp; try with_reducible rfl)
    simp only [Act.put, List.setIfInBounds_toArray, List.set_cons_zero, List.set_cons_succ]
    refine wpAnyN_take (i := 12) (v := ?_) (by kernel_rfl) (by decide) rfl (by kernel_rfl) (by kernel_rfl) (by kernel_rfl) (fun _ _ _ h => h) (Or.inl ⟨by rfl, ?_⟩) hHeld ?_
    rotate_left
    focus (intro w' hSw; obtain ⟨hS1, hS2, hS3⟩ := hSw; go_simp; try with_reducible rfl)
    simp only [Act.put, List.setIfInBounds_toArray, List.set_cons_zero, List.set_cons_succ]
    refine wpAnyN_take (i := 13) (v := ?_) (by kernel_rfl) (by decide) rfl (by kernel_rfl) (by kernel_rfl) (by kernel_rfl) (fun _ _ _ h => h) (Or.inl ⟨by rfl, ?_⟩) hHeld ?_
    rotate_left
    focus (intro w' hSw; obtain ⟨hS1, hS2, hS3⟩ := hSw; go_simp; try with_reducible rfl)
    simp only [Act.put, List.setIfInBounds_toArray, List.set_cons_zero, List.set_cons_succ]
    refine wpAnyN_take (i := 14) (v := ?_) (by kernel_rfl) (by decide) rfl (by kernel_rfl) (by kernel_rfl) (by kernel_rfl) (fun _ _ _ h => h) (Or.inl ⟨by rfl, ?_⟩) hHeld ?_
    rotate_left
    focus (intro w' hSw; obtain ⟨hS1, hS2, hS3⟩ := hSw; go_simp; try with_reducible rfl)
    simp only [Act.put, List.setIfInBounds_toArray, List.set_cons_zero, List.set_cons_succ]
    refine wpAnyN_take (i := 15) (v := ?_) (by kernel_rfl) (by decide) rfl (by kernel_rfl) (by kernel_rfl) (by kernel_rfl) (fun _ _ _ h => h) (Or.inl ⟨by rfl, ?_⟩) hHeld ?_
    rotate_left
    focus (intro w' hSw; obtain ⟨hS1, hS2, hS3⟩ := hSw; go_simp; try with_reducible rfl)
    simp only [Act.put, List.setIfInBounds_toArray, List.set_cons_zero, List.set_cons_succ]
    refine wpAnyN_one (i := 16) (by kernel_rfl) rfl (fun K hK => ?_)
    go_simp
    refine hK.out _ _ (fun _ => ⟨(by (repeat (first | with_reducible assumption | with_reducible exact Below.refl _ _ | with_reducible refine Below.drew ?_ | with_reducible refine below_alloc ?_ _ | (with_reducible refine below_set ?_ ?_ _; rotate_left; focus (first | (simp; done) | (simp; omega))) | with_reducible refine below_tr ?_ (by with_reducible assumption)))), (by (repeat (first | with_reducible assumption | with_reducible refine cell_drew ?_ | (with_reducible refine cell_newA _ _ _ _ _ _ ?_ rfl; (simp [*]; done)) | with_reducible refine cell_old ?_ _ | (with_reducible refine cell_far ?_ ?_ _; rotate_left; focus (first | (simp; done) | (simp; omega))) | with_reducible refine keep_cell (by with_reducible assumption) ?_))), (by (repeat (first | with_reducible assumption | with_reducible refine cell_drew ?_ | (with_reducible refine cell_newA _ _ _ _ _ _ ?_ rfl; (simp [*]; done)) | with_reducible refine cell_old ?_ _ | (with_reducible refine cell_far ?_ ?_ _; rotate_left; focus (first | (simp; done) | (simp; omega))) | with_reducible refine keep_cell (by with_reducible assumption) ?_)))⟩) ?_
    clear hK K
    try simp only [Act.put, List.setIfInBounds_toArray, List.set_cons_zero, List.set_cons_succ]
    refine wpAnyN_one (i := 17) (by kernel_rfl) rfl (fun K hK => ?_)
    go_simp
    refine (K66.out _ _ (by (repeat (first | with_reducible assumption | with_reducible exact Below.refl _ _ | with_reducible refine Below.drew ?_ | with_reducible refine below_alloc ?_ _ | (with_reducible refine below_set ?_ ?_ _; rotate_left; focus (first | (simp; done) | (simp; omega))) | with_reducible refine below_tr ?_ (by with_reducible assumption)))) (by (repeat (first | with_reducible assumption | with_reducible refine cell_drew ?_ | (with_reducible refine cell_newA _ _ _ _ _ _ ?_ rfl; (simp [*]; done)) | with_reducible refine cell_old ?_ _ | (with_reducible refine cell_far ?_ ?_ _; rotate_left; focus (first | (simp; done) | (simp; omega))) | with_reducible refine keep_cell (by with_reducible assumption) ?_))) (by (repeat (first | with_reducible assumption | with_reducible refine cell_drew ?_ | (with_reducible refine cell_newA _ _ _ _ _ _ ?_ rfl; (simp [*]; done)) | with_reducible refine cell_old ?_ _ | (with_reducible refine cell_far ?_ ?_ _; rotate_left; focus (first | (simp; done) | (simp; omega))) | with_reducible refine keep_cell (by with_reducible assumption) ?_))) (by (repeat (first | with_reducible assumption | with_reducible refine cell_drew ?_ | (with_reducible refine cell_newA _ _ _ _ _ _ ?_ rfl; (simp [*]; done)) | with_reducible refine cell_old ?_ _ | (with_reducible refine cell_far ?_ ?_ _; rotate_left; focus (first | (simp; done) | (simp; omega))) | with_reducible refine keep_cell (by with_reducible assumption) ?_)))).mono ?_
    rintro e w6 ⟨a6, n6, p6, rfl, ho6, hb6⟩
    have hbB : Below w5.heap.size w5 w6 := (by (repeat (first | with_reducible assumption | with_reducible exact Below.refl _ _ | with_reducible refine Below.drew ?_ | with_reducible refine below_alloc ?_ _ | (with_reducible refine below_set ?_ ?_ _; rotate_left; focus (first | (simp; done) | (simp; omega))) | with_reducible refine below_tr ?_ (by with_reducible assumption))))
    have q3 := keep_cell hbB C35
    have q4 := (HQ5.out.2.2.2.1.keep hbB).f 3
    have q5 := keep_cell hbB c45
    (try simp only [])
    refine hK.out _ _ (fun _ => ⟨hbB, q5, q3⟩) ?_
    clear hK K
    try simp only [Act.put, List.setIfInBounds_toArray, List.set_cons_zero, List.set_cons_succ]
    refine wpAnyN_one (i := 18) (by kernel_rfl) rfl (fun K hK => ?_)
    go_simp
    refine hK.out _ _ (fun h => absurd h (by decide)) ?_
    clear hK K
    try simp only [Act.put, List.setIfInBounds_toArray, List.set_cons_zero, List.set_cons_succ]
    refine wpAnyN_one (i := 19) (by kernel_rfl) rfl (fun K hK => ?_)
    go_simp
    refine hK.out _ _ (fun h => absurd h (by decide)) ?_
    clear hK K
    try simp only [Act.put, List.setIfInBounds_toArray, List.set_cons_zero, List.set_cons_succ]
    refine wpAnyN_one (i := 20) (by kernel_rfl) rfl (fun K hK => ?_)
    go_simp
    refine hK.out _ _ (fun h => absurd h (by decide)) ?_
    clear hK K
    try simp only [Act.put, List.setIfInBounds_toArray, List.set_cons_zero, List.set_cons_succ]
    refine wpAnyN_one (i := 21) (by kernel_rfl) rfl (fun K hK => ?_)
    go_simp
    refine hK.out _ _ (fun h => absurd h (by decide)) ?_
    clear hK K
    try simp only [Act.put, List.setIfInBounds_toArray, List.set_cons_zero, List.set_cons_succ]
    refine wpAnyN_done (by kernel_rfl) ?_ _
    refine NoPanic.normal ?_
    have b6 : Boxed w6 (w.heap.size + 1) 35 (.int .i64 0) := (hbB.block _ HQ5.out.1.lt).trans HQ5.out.1
    have b7 : Boxed (w6.setCell ⟨wb, 3, none⟩ (.slice a6 n6 p6)) (w.heap.size + 1) 35 (.int .i64 0) := (Below.heap_setCell _ _ _ _ (by simp; omega)).trans b6
    obtain ⟨k7, g7⟩ := wk_pages HQ5.out.2.2.2.1 HQ5.out.2.2.2.2.1 HQ5.out.2.2.2.2.2.1 hbB ho6
    have hD6 : w6.heap[D]? = some (.deferred (some [])) := (hbB.block D (Array.getElem?_eq_some_iff.1 HQ5.out.2.1).1).trans HQ5.out.2.1
    have hD7 : (w6.setCell ⟨wb, 3, none⟩ (.slice a6 n6 p6)).heap[D]? = some (.deferred (some [])) := heap_setCell_ne hD6 (by have := HQ5.out.2.2.2.2.2.2; omega)
    have hD8 : ((w6.setCell ⟨wb, 3, none⟩ (.slice a6 n6 p6)).setCell ⟨w.heap.size + 1, 0, none⟩ (.int .i64 0)).heap[D]? = some (.deferred (some [])) := heap_setCell_ne hD7 (not_cells b7 hD7)
    have k8 := k7.box (u := .int .i64 0) b7 (by decide)
    have b8 := b7.set (.int .i64 0)
    have k9 := k8.taken hD8
    have c9 := cell_taken b8 hD8
    have g9 : w.grownBy (((w6.setCell ⟨wb, 3, none⟩ (.slice a6 n6 p6)).setCell ⟨w.heap.size + 1, 0, none⟩ (.int .i64 0)).putObj D (.deferred none)) (some wb) := grown_row (grown_row (Go.Lib.grownBy_trans HQ5.out.2.2.1 g7) (Go.Lib.grownBy_setCell _ (w.heap.size + 1) 0 _) (fun r e => by cases e; omega)) (grownBy_putObj' _ D _) (fun r e => by cases e; exact HQ5.out.2.2.2.2.2.2)
    have HK : Hid (((w6.setCell ⟨wb, 3, none⟩ (.slice a6 n6 p6)).setCell ⟨w.heap.size + 1, 0, none⟩ (.int .i64 0)).heap[D]? = some (.deferred (some [])) ∧ Wk B (((w6.setCell ⟨wb, 3, none⟩ (.slice a6 n6 p6)).setCell ⟨w.heap.size + 1, 0, none⟩ (.int .i64 0)).putObj D (.deferred none)) wb zm zc zp bs ∧ w.grownBy (((w6.setCell ⟨wb, 3, none⟩ (.slice a6 n6 p6)).setCell ⟨w.heap.size + 1, 0, none⟩ (.int .i64 0)).putObj D (.deferred none)) (some wb) ∧ (((w6.setCell ⟨wb, 3, none⟩ (.slice a6 n6 p6)).setCell ⟨w.heap.size + 1, 0, none⟩ (.int .i64 0)).putObj D (.deferred none)).cell? ⟨w.heap.size + 1, 0, none⟩ = some (.int .i64 0)) := ⟨hD8, k9, g9, c9⟩
    have q6 := b7.cell
    have q7 := b7.frozen
    clear k7 g7 hD6 hD7 hD8 k8 b8 k9 c9 g9 b6 b7 hHeld ho6
    go_wp2
    (try simp only [Exit.inBlock, Exit.then])
    refine ⟨by simp, .inl ⟨_, _, rfl, run_takeDeferred HK.out.1, ?_⟩⟩
    refine ⟨.int .i64 0, ?_, Or.inl ⟨rfl, HLE.out, HK.out.2.1, HK.out.2.2.1⟩⟩
    rw [results_cell1 rfl]; simp [go_sem, HK.out.2.2.2]
   case stop =>
    rintro D c pre Wx hD hSp ⟨rfl, init, kx, code, rfl, i3, hu, hc, hcell, hgw⟩ hKD
    obtain ⟨a1, a2, a3, a4, a5, a6, a7, a8, a9⟩ := HARG.out
    have hnd : kx ∉ init := ksM_nodup (added_srt first k prot) (added_bound HGG.out.2.1) (by rw [hal]; exact hSp)
    have hmid := msI_free a7 i3 hu hnd
    obtain ⟨rfl, h64⟩ : code = 105 ∧ 64 < (msF ps bs ms init).length + 1 := by
     rcases hc with h | h
     ·exact ⟨h.1, h.2.2⟩
     ·exact absurd (by rw [hmid]; rfl) h.2
    have HGT : Hid (64 < zm.length) := by
     show 64 < zm.length
     obtain ⟨rest, hrest⟩ := hSp
     rw [HZ.out.1, ← hrest, msF_app, msF_snoc]
     have l1 := (stepB_len (bs := bs) kx (fun _ => hmid) i3.1.2.2.1).2 hu
     have l2 := msF_mono (ps := ps) (bs := bs) rest _ (stepB_mono (ps := ps) (bs := bs) kx i3.1.2.2.1).1
     omega
    have hDn : D ≠ w.heap.size + 1 := fun e => by
     subst e
     simp [World.cell?, hKD] at hcell
    have HC : Hid ((Wx.putObj D (.deferred none)).cell? ⟨w.heap.size + 1, 0, none⟩ = some (.int .i64 105)) := (grownBy_putObj' Wx D _).cell hcell (fun e => by cases e; exact hDn rfl)
    have HG : Hid (w.grownBy (Wx.putObj D (.deferred none)) (some wb)) := grown_row hgw (grownBy_putObj' Wx D _) (fun r e => by cases e; omega)
    have HKD : Hid (Wx.heap[D]? = some (.deferred (some []))) := hKD
    clear a1 a2 a3 a4 a5 a6 a7 a8 a9 hnd hmid h64 hc i3 hu hSp hgw hKD hDn
    refine wpIn_wide.2 ?_
    go_wp2
    (try simp only [Exit.inBlock, Exit.then])
    refine ⟨by simp, .inl ⟨_, _, rfl, run_takeDeferred HKD.out, ?_⟩⟩
    refine ⟨.int .i64 105, ?_, Or.inr ⟨rfl, HGT.out, HG.out⟩⟩
    rw [results_cell1 rfl]; simp [go_sem, HC.out]
end Go.Proofs.YtkpmkgkfpikpfaaGreat
namespace Go.Proofs.YtkpmkgkfpikpfaaGreat
open Go.RowKit Go.Shelf
set_option linter.unusedVariables false
set_option linter.unusedSimpArgs false
set_option maxRecDepth 100000
attribute [local go_sem] Oper.semAt_some
set_option maxHeartbeats 4000000 in
theorem gadd41_mem (B wb first n bs a m last : Nat) (prot : Int) (ms cs ps : List (Nat × Int)) (w : World) (hW : Wk B w wb ms cs ps bs) (hs : Srt ps) (hpl : ps.length ≤ 256) (hfit : FitQ ms cs) (hw : Words cs) (hrc : ∀ y ∈ cs, y.1 < 18446744073709551616) (hbs : bs ≤ 4611686018427387904) (hg : gpagesOk first n = true) (hla : last = first + n - 1) (hroom : ps.length - (mid ps first last).length + n > 256) (hreach : Reach ps bs ms) (ha : a = bs + first * 4096) (hm : m = n * 4096) :
  Calls Tryz.prog 53 #[.pointer (some ⟨wb, 0, none⟩), .int .u32 (first : Int), .int .u32 (n : Int), .int .i64 prot] w fun e w' => e = .returned (.int .i64 12) ∧ w.grownBy w' (some wb) := by
 have hgg : n ≠ 0 ∧ first + n ≤ 1048576 := by simpa [gpagesOk] using hg
 have HWK : Hid (Wk B w wb ms cs ps bs) := hW
 obtain ⟨vm, vc, vp, hb, ho, hB⟩ := hW
 obtain ⟨W, hWW, hbW, hsz, c4, c8, g4, g8, bx8⟩ := box11 w (.pointer (some ⟨wb, 0, none⟩)) (.int .i64 0) 121 35
 have K67 := gspan67 vp ps first n last W (ho.p.keep hbW) hs (by omega) hgg.1 (by omega) hla
 have hlen : (lo ps first).length + (mid ps first last).length ≤ ps.length := by
  have := parts_len ps hs first last (by omega)
  omega
 obtain ⟨ap, pp, hvp, lp1, lp2⟩ : ∃ a p, vp = .slice a ps.length p ∧ ps.length ≤ p ∧ p ≤ 9223372036854775807 := by obtain ⟨a, p, h, h1, h2, _⟩ := ho.p; exact ⟨_, _, h, h1, h2⟩
 subst hvp
 have hbk := hb.keep hbW
 have C3 := hbk.c3
 obtain ⟨f, hf⟩ : ∃ f, f = (lo ps first).length := ⟨_, rfl⟩
 obtain ⟨md, hmd⟩ : ∃ f, f = (mid ps first last).length := ⟨_, rfl⟩
 rw [← hf, ← hmd] at K67 hlen
 rw [← hmd] at hroom
 obtain ⟨t, ht⟩ : ∃ t, t = f + md := ⟨_, rfl⟩
 rw [← ht] at K67 hlen
 obtain ⟨r, hr⟩ : ∃ r, r = ps.length - md := ⟨_, rfl⟩
 obtain ⟨z, hz⟩ : ∃ z, z = r + n := ⟨_, rfl⟩
 have y1 : (t : Int) - (f : Int) = (md : Int) := by omega
 have y2 : (ps.length : Int) - (md : Int) = (r : Int) := by omega
 have y3 : (r : Int) + (n : Int) = (z : Int) := by omega
 have y4 : (256 : Int) < (z : Int) := by omega
 have y7 : (z : Int) ≤ 2000000 := by omega
 have y5 : IntKind.i64.wrap (n : Int) = (n : Int) := by rw [IntKind.wrap_i64]; omega
 have HLF : Hid (f = (lo ps first).length ∧ md = (mid ps first last).length ∧ t = f + md ∧ t ≤ ps.length) := ⟨hf, hmd, ht, hlen⟩
 have HGG : Hid (n ≠ 0 ∧ first + n ≤ 1048576 ∧ last = first + n - 1) := ⟨hgg.1, hgg.2, hla⟩
 have HARG : Hid (Srt ps ∧ ps.length ≤ 256 ∧ FitQ ms cs ∧ Words cs ∧ (∀ y ∈ cs, y.1 < 18446744073709551616) ∧ bs ≤ 4611686018427387904 ∧ Reach ps bs ms ∧ a = bs + first * 4096 ∧ m = n * 4096) := ⟨hs, hpl, hfit, hw, hrc, hbs, hreach, ha, hm⟩
 have HOG : Hid (OwnG B w vm vc (.slice ap ps.length pp) ms cs ps ∧ B ≤ w.heap.size ∧ Wb w wb vm vc (.int .u64 (bs : Int)) (.slice ap ps.length pp)) := ⟨ho, hB, hb⟩
 have HSZ : Hid (W.heap.size = w.heap.size + 2) := by show _ = _; omega
 clear ho hB hb hs hpl hfit hw hrc hbs hreach ha hm hg hgg hla hroom hlen hf hmd ht hr hz hbk hsz
 have y6 : wrap64 (z : Int) = (z : Int) := by unfold wrap64; omega
 refine callsIn_wide.1 (callsIn_of_wp_marks (F := Fence.wide) (n := 3) Tryz.func53 rfl trivial ?_ rfl)
 simp only [Tryz.ntmps53, List.size_toArray, List.length_cons, List.length_nil, Nat.reduceAdd, Nat.reduceSub, Array.replicate_succ, Array.replicate_zero, List.push_toArray, List.append_toArray, List.nil_append, List.cons_append]
 refine wpIn_wide.2 ?_
 go_wp2_with fail
 refine K67.mono ?_
 rintro e w1 ⟨rfl, hb1⟩
 clear K67
 have c4' := keep_cell hb1 c4
 have C3' := keep_cell hb1 C3
 have f8 := g8.keep hb1
 have q1 := f8.cell
 have q2 := f8.frozen
 have HB1 : Hid (Below w.heap.size w w1) := below_tr hbW hb1
 have HRB : Hid (w.heap.size ≤ w.heap.size + 1) := Nat.le_succ _
 go_wp2
 (try simp only [Exit.inBlock, Exit.then])
 obtain ⟨u, hu⟩ : ∃ u, u = w1.setCell ⟨w.heap.size + 1, 0, none⟩ (.int .i64 12) := ⟨_, rfl⟩
 have HU : Hid (u.cell? ⟨w.heap.size + 1, 0, none⟩ = some (.int .i64 12) ∧ w.grownBy u (some wb)) := ⟨by rw [hu]; exact World.cell?_setCell_same _ _ _ f8.cell, by rw [hu]; exact grown_row (Go.Lib.grownBy_below (World.grownBy.refl w (some wb)) HB1.out) (Go.Lib.grownBy_setCell _ (w.heap.size + 1) 0 _) (fun r e => by cases e; exact HRB.out)⟩
 rw [← hu]
 refine ⟨.int .i64 12, ?_, rfl, HU.out.2⟩
 rw [results_cell1 rfl]; simp [go_sem, HU.out.1]
end Go.Proofs.YtkpmkgkfpikpfaaGreat
