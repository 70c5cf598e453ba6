/- What is proved here: the document's Unmap of the guest's pages. -/
import Derived.Test.YtkpmkgkfpikpfaaGreatRunmap
import Derived.Test.YtkpmkgkfpikpfaaGreatGagp
import Derived.Test.YtkpmkgkfpikpfaaGreatPokePlain
import Derived.Test.YtkpmkgkfpikpfaaGreatEach
import Derived.LoopTactic
import Derived.Test.YtkpmkgkfpikpfaaGreatRmap
import Derived.Test.YtkpmkgkfpikpfaaGreatGdoc
import Derived.Test.YtkpmkgkfpikpfaaGreatGmap2
namespace Go.Proofs.YtkpmkgkfpikpfaaGreat
open Go.RowKit
set_option linter.unusedVariables false
set_option linter.unusedSimpArgs false
set_option maxRecDepth 100000
theorem stepR_is {ps : List (Nat × Int)} {bs : Nat} {h : List (Nat × Int) × List (Nat × Int)} (k : K4) (h1 : Srt h.1) (h2 : Srt h.2) : stepR ps bs h k = (by_ (fun p => usedN ps k.val || p != hp bs k.val) h.1, by_ (fun p => usedN ps k.val || p / 16384 != hp bs k.val) h.2) := by
 unfold stepR
 cases c : usedN ps k.val with
 | true => simp only [if_true, Bool.true_or]; rw [by_all (fun _ _ => rfl), by_all (fun _ _ => rfl)]
 | false =>
  simp only [Bool.false_eq_true, if_false, Bool.false_or]
  have e1 := outM_eq h1 (page := hp bs k.val) (last := hp bs k.val + 1 - 1) (by omega)
  have e2 := outC_eq h2 (page := hp bs k.val) (last := hp bs k.val + 1 - 1) (by omega)
  rw [← e1, ← e2]
  congr 1
  ·unfold outM by_
   refine List.filter_congr (fun x _ => ?_)
   rw [Bool.eq_iff_iff]; simp; omega
  ·unfold outC by_
   refine List.filter_congr (fun x _ => ?_)
   rw [Bool.eq_iff_iff]; simp; omega
theorem by_by (Q Q' : Nat → Bool) (xs : List (Nat × Int)) : by_ Q (by_ Q' xs) = by_ (fun p => Q p && Q' p) xs := by
 unfold by_; rw [List.filter_filter]
theorem rF_is {ps : List (Nat × Int)} {bs : Nat} : ∀ (ks : List K4) (h : List (Nat × Int) × List (Nat × Int)), Srt h.1 → Srt h.2 → rF ps bs h ks = (by_ (fun p => ks.all (fun k => usedN ps k.val || p != hp bs k.val)) h.1, by_ (fun p => ks.all (fun k => usedN ps k.val || p / 16384 != hp bs k.val)) h.2)
 | [], h, _, _ => by
  show h = _
  simp only [List.all_nil]
  rw [by_all (fun _ _ => rfl), by_all (fun _ _ => rfl)]
 | k :: ks, h, h1, h2 => by
  show rF ps bs (stepR ps bs h k) ks = _
  have hs := stepR_srt (ps := ps) (bs := bs) k h1 h2
  rw [rF_is ks _ hs.1 hs.2, stepR_is k h1 h2]
  simp only [by_by, List.all_cons]
  congr 1 <;> (congr 1; funext p; rw [Bool.and_comm])
theorem rF_same {ps : List (Nat × Int)} {bs : Nat} {h : List (Nat × Int) × List (Nat × Int)} (h1 : Srt h.1) (h2 : Srt h.2) {ks ks' : List K4} (a : ∀ k ∈ ks, usedN ps k.val = false → k ∈ ks') (b : ∀ k ∈ ks', usedN ps k.val = false → k ∈ ks) : rF ps bs h ks = rF ps bs h ks' := by
 have key : ∀ (f : K4 → Bool), ks.all (fun k => usedN ps k.val || f k) = ks'.all (fun k => usedN ps k.val || f k) := fun f => by
  rw [Bool.eq_iff_iff]
  simp only [List.all_eq_true, Bool.or_eq_true]
  constructor
  ·intro g k hk
   cases u : usedN ps k.val with
   | true => exact Or.inl rfl
   | false => have := g k (b k hk u); rw [u] at this; exact this
  ·intro g k hk
   cases u : usedN ps k.val with
   | true => exact Or.inl rfl
   | false => have := g k (a k hk u); rw [u] at this; exact this
 rw [rF_is ks h h1 h2, rF_is ks' h h1 h2]
 congr 1
 iterate 2
  ·congr 1; funext p; exact key _
def ksP (ps : List (Nat × Int)) : List K4 := ps.map (fun x => toK (x.1 / 4))
theorem ksP_snoc (ps : List (Nat × Int)) (m : Nat) (h : m < ps.length) : ksP (ps.take (m + 1)) = ksP (ps.take m) ++ [toK (ps[m].1 / 4)] := by
 rw [ksP, List.take_add_one, List.getElem?_eq_getElem h, List.map_append]; rfl
theorem rF_doc {ps : List (Nat × Int)} {bs first last : Nat} {h : List (Nat × Int) × List (Nat × Int)} (h1 : Srt h.1) (h2 : Srt h.2) (hs : Srt ps) (hpb : ∀ x ∈ ps, x.1 < 1048576) (hl : first ≤ last) : rF (lo ps first ++ hi ps last) bs h (ksP ps) = rF (lo ps first ++ hi ps last) bs h (ksM (mid ps first last) (mid ps first last).length) := by
 refine rF_same h1 h2 (fun k hk hu => ?_) (fun k hk hu => ?_)
 ·obtain ⟨x, hx, rfl⟩ := List.mem_map.1 hk
  have hx4 := hpb x hx
  rw [toK_val (by omega)] at hu
  by_cases c : x.1 < first ∨ last < x.1
  ·rw [used_of (mem_cut.2 ⟨hx, c⟩)] at hu; cases hu
  ·exact ksM_of (mid_mem.2 ⟨hx, by omega, by omega⟩)
 ·obtain ⟨j, hj, e⟩ := (ksM_rise (mid_srt hs first last) (fun x hx => hpb x (mid_mem.1 hx).1) _ (Nat.le_refl _)).2 k hk
  rw [getD_at hj] at e
  have hm := (mid_mem.1 (List.getElem_mem hj)).1
  have hx4 := hpb _ hm
  refine List.mem_map.2 ⟨_, hm, ?_⟩
  rw [← e]
  exact Fin.ext (toK_val k.isLt)
def Oth (B : Nat → Prop) (w w' : World) : Prop := w.heap.size ≤ w'.heap.size ∧ ∀ k, k < w.heap.size → ¬ B k → w'.heap[k]? = w.heap[k]?
theorem Oth.of {B : Nat → Prop} {w w' : World} (h : Below w.heap.size w w') : Oth B w w' := ⟨h.size, fun k hk _ => h.block k hk⟩
theorem Oth.refl (B : Nat → Prop) (w : World) : Oth B w w := ⟨Nat.le_refl _, fun _ _ _ => rfl⟩
theorem Oth.trans {B : Nat → Prop} {a b c : World} (h : Oth B a b) (k : Oth B b c) : Oth B a c := ⟨Nat.le_trans h.1 k.1, fun i hi hg => (k.2 i (Nat.lt_of_lt_of_le hi h.1) hg).trans (h.2 i hi hg)⟩
theorem Oth.set {B : Nat → Prop} {g : Nat} (i : Nat) (w : World) (u : Value) (hg : B g) : Oth B w (w.setCell ⟨g, i, none⟩ u) := ⟨by simp [World.setCell], fun k _ hk => Below.heap_setCell _ _ _ _ (fun e => hk (by rw [e]; exact hg))⟩
theorem Oth.cell {B : Nat → Prop} {w w' : World} (h : Oth B w w') {p : Addr} {v : Value} (hp : ¬ B p.block) (hc : w.cell? p = some v) : w'.cell? p = some v :=
 (World.cell?_of_block (w := w) (h.2 p.block (World.block_lt_of_cell? w p hc) hp)).trans hc
def St (B : Nat → Prop) (w : World) (k : IntKind) (v : Value) (xs : List (Nat × Int)) : Prop := ∀ w', Oth B w w' → Sl k w' v xs
def StP (B : Nat → Prop) (w : World) (v : Value) (xs : List (Nat × Int)) : Prop := ∀ w', Oth B w w' → Pg.Sl .i64 w' v xs
theorem St.on {B : Nat → Prop} {w w' : World} {k : IntKind} {v : Value} {xs : List (Nat × Int)} (h : St B w k v xs) (o : Oth B w w') : St B w' k v xs := fun w'' o' => h w'' (o.trans o')
theorem StP.on {B : Nat → Prop} {w w' : World} {v : Value} {xs : List (Nat × Int)} (h : StP B w v xs) (o : Oth B w w') : StP B w' v xs := fun w'' o' => h w'' (o.trans o')
theorem St.now {B : Nat → Prop} {w : World} {k : IntKind} {v : Value} {xs : List (Nat × Int)} (h : St B w k v xs) : Sl k w v xs := h w (Oth.refl _ _)
theorem StP.now {B : Nat → Prop} {w : World} {v : Value} {xs : List (Nat × Int)} (h : StP B w v xs) : Pg.Sl .i64 w v xs := h w (Oth.refl _ _)
theorem St.arg {B : Nat → Prop} {w0 w : World} {k : IntKind} {v : Value} {xs : List (Nat × Int)} (h : Sl k w0 v xs) (hb : Below w0.heap.size w0 w) (hg : ∀ k, B k → w0.heap.size ≤ k) : St B w k v xs := fun w' o => by
 obtain ⟨ao, cap, e, q1, q2, q3, q4⟩ := h
 refine ⟨ao, cap, e, q1, q2, q3, fun i hi => ?_⟩
 obtain ⟨b, o', e1, d0, d1⟩ := q4 i hi
 have hlt : b < w0.heap.size := World.block_lt_of_cell? w0 _ d0
 have hnb : ¬ B b := fun hB => by have := hg b hB; omega
 exact ⟨b, o', e1, o.cell hnb (keep_cell hb d0), o.cell hnb (keep_cell hb d1)⟩
theorem St.own {B : Nat → Prop} {C e : Nat} {w : World} {k : IntKind} {v : Value} {xs : List (Nat × Int)} (h : w.ownsRow C e 2 v xs.length (rowOf k xs)) (hg : ∀ k, B k → k < C) : St B w k v xs := fun w' o => by
 obtain ⟨ao, cap, e, q1, q2, q3, q4⟩ := own_sl h
 refine ⟨ao, cap, e, q1, q2, q3, fun i hi => ?_⟩
 obtain ⟨b, o', e1, d0, d1⟩ := q4 i hi
 have hge := own_ge h b (by rw [e, e1]; simp [Value.ownBlock])
 have hnb : ¬ B b := fun hB => by have := hg b hB; omega
 exact ⟨b, o', e1, o.cell hnb d0, o.cell hnb d1⟩
theorem StP.arg {B : Nat → Prop} {w0 w : World} {v : Value} {xs : List (Nat × Int)} (h : Pg.Sl .i64 w0 v xs) (hb : Below w0.heap.size w0 w) (hg : ∀ k, B k → w0.heap.size ≤ k) : StP B w v xs := fun w' o => by
 obtain ⟨ao, cap, e, q1, q2, q3, q4⟩ := h
 refine ⟨ao, cap, e, q1, q2, q3, fun i hi => ?_⟩
 obtain ⟨b, o', e1, d0, d1⟩ := q4 i hi
 have hlt : b < w0.heap.size := World.block_lt_of_cell? w0 _ d0
 have hnb : ¬ B b := fun hB => by have := hg b hB; omega
 exact ⟨b, o', e1, o.cell hnb (keep_cell hb d0), o.cell hnb (keep_cell hb d1)⟩
theorem StP.own {B : Nat → Prop} {C e : Nat} {w : World} {v : Value} {xs : List (Nat × Int)} (h : w.ownsRow C e 2 v xs.length (Pg.rowOf .i64 xs)) (hg : ∀ k, B k → k < C) : StP B w v xs := fun w' o => by
 obtain ⟨ao, cap, e, q1, q2, q3, q4⟩ := Pg.own_sl h
 refine ⟨ao, cap, e, q1, q2, q3, fun i hi => ?_⟩
 obtain ⟨b, o', e1, d0, d1⟩ := q4 i hi
 have hge := own_ge h b (by rw [e, e1]; simp [Value.ownBlock])
 have hnb : ¬ B b := fun hB => by have := hg b hB; omega
 exact ⟨b, o', e1, o.cell hnb d0, o.cell hnb d1⟩
def B3 (g k : Nat) : Prop := g ≤ k ∧ k < g + 3
structure UmI (g : Nat) (w wr : World) (bs : Nat) (vmr vcr vpr vp : Value) (mr cr pr ps : List (Nat × Int)) : Prop where
 c0 : wr.cell? ⟨g, 0, none⟩ = some vmr
 c1 : wr.cell? ⟨g, 1, none⟩ = some vcr
 c2 : wr.cell? ⟨g, 2, none⟩ = some (.int .u64 (bs : Int))
 c3 : wr.cell? ⟨g, 3, none⟩ = some vpr
 d3 : wr.cell? ⟨g + 2, 3, none⟩ = some vp
 f0 : Free wr ⟨g, 0, none⟩
 f1 : Free wr ⟨g, 1, none⟩
 r0 : Free wr ⟨g + 1, 0, none⟩
 r1 : Free wr ⟨g + 1, 1, none⟩
 r2 : Free wr ⟨g + 1, 2, none⟩
 r3 : Free wr ⟨g + 1, 3, none⟩
 sm : St (B3 g) wr .i64 vmr mr
 sc : St (B3 g) wr .u64 vcr cr
 sp : StP (B3 g) wr vpr pr
 so : StP (B3 g) wr vp ps
 bel : Below g w wr
 sz : g + 3 ≤ wr.heap.size
theorem UmI.keep {g bs : Nat} {w wr w' : World} {vmr vcr vpr vp : Value} {mr cr pr ps : List (Nat × Int)} (h : UmI g w wr bs vmr vcr vpr vp mr cr pr ps) (hb : Below wr.heap.size wr w') : UmI g w w' bs vmr vcr vpr vp mr cr pr ps :=
 ⟨keep_cell hb h.c0, keep_cell hb h.c1, keep_cell hb h.c2, keep_cell hb h.c3, keep_cell hb h.d3, h.f0.keep hb, h.f1.keep hb, h.r0.keep hb, h.r1.keep hb, h.r2.keep hb, h.r3.keep hb, h.sm.on (Oth.of hb), h.sc.on (Oth.of hb), h.sp.on (Oth.of hb), h.so.on (Oth.of hb), h.bel.trans (hb.mono (by have := h.sz; omega)), Nat.le_trans h.sz hb.size⟩
theorem UmI.set {g bs C : Nat} {w wr : World} {vmr vcr vpr vp vm' vc' : Value} {mr cr pr ps m' c' : List (Nat × Int)} (h : UmI g w wr bs vmr vcr vpr vp mr cr pr ps) (hm : St (B3 g) wr .i64 vm' m') (hc : St (B3 g) wr .u64 vc' c') : UmI g w ((wr.setCell ⟨g, 0, none⟩ vm').setCell ⟨g, 1, none⟩ vc') bs vm' vc' vpr vp m' c' pr ps := by
 have hg : B3 g g := ⟨Nat.le_refl _, by omega⟩
 have o : Oth (B3 g) wr ((wr.setCell ⟨g, 0, none⟩ vm').setCell ⟨g, 1, none⟩ vc') := (Oth.set 0 wr vm' hg).trans (Oth.set 1 _ vc' hg)
 refine ⟨?_, ?_, ?_, ?_, by rw [World.cell?_setCell_other _ _ _ _ (by simp), World.cell?_setCell_other _ _ _ _ (by simp)]; exact h.d3, (h.f0.set _ _).set _ _, (h.f1.set _ _).set _ _, (h.r0.set _ _).set _ _, (h.r1.set _ _).set _ _, (h.r2.set _ _).set _ _, (h.r3.set _ _).set _ _, hm.on o, hc.on o, h.sp.on o, h.so.on o, below_set (below_set h.bel (by simp) _) (by simp) _, by have := h.sz; have := o.1; omega⟩
 ·rw [World.cell?_setCell_other _ _ _ _ (by simp)]; exact World.cell?_setCell_same _ _ _ h.f0.cell
 ·exact World.cell?_setCell_same _ _ _ (h.f1.set _ _).cell
 ·rw [World.cell?_setCell_other _ _ _ _ (by simp), World.cell?_setCell_other _ _ _ _ (by simp)]; exact h.c2
 ·rw [World.cell?_setCell_other _ _ _ _ (by simp), World.cell?_setCell_other _ _ _ _ (by simp)]; exact h.c3
theorem UmI.res {g bs : Nat} {w wr : World} {vmr vcr vpr vp : Value} {mr cr pr ps : List (Nat × Int)} (h : UmI g w wr bs vmr vcr vpr vp mr cr pr ps) (x0 x1 x2 x3 : Value) : SlG ((((wr.setCell ⟨g + 1, 0, none⟩ x0).setCell ⟨g + 1, 1, none⟩ x1).setCell ⟨g + 1, 2, none⟩ x2).setCell ⟨g + 1, 3, none⟩ x3) vmr vcr vpr mr cr pr := by
 have hg : B3 g (g + 1) := ⟨by omega, by omega⟩
 have o := (((Oth.set 0 wr x0 hg).trans (Oth.set 1 _ x1 hg)).trans (Oth.set 2 _ x2 hg)).trans (Oth.set 3 _ x3 hg)
 exact ⟨h.sm _ o, h.sc _ o, h.sp _ o⟩
set_option maxHeartbeats 2000000 in
theorem runmap21_inval (vm vc vp : Value) (ms cs ps : List (Nat × Int)) (bs first n : Nat) (w : World) (hsl : SlG w vm vc vp ms cs ps) (lp : ps.length ≤ 256) (hpn : ∀ y ∈ ps, y.1 < 4294967296) (h1 : first < 4294967296) (h2 : n < 4294967296) (hp : (gpagesOk first n && protOk 0) = false) :
  Calls Tryz.prog 34 #[.agg #[vm, vc, .int .u64 (bs : Int), vp], .int .u32 (first : Int), .int .u32 (n : Int)] w fun e w' => ∃ vm' vc' vp', e = .returned (.tuple #[.agg #[vm', vc', .int .u64 (bs : Int), vp'], .int .i64 22]) ∧ SlG w' vm' vc' vp' ms cs ps ∧ Below w.heap.size w w' := by
 obtain ⟨W, hW, hb, hsz, ⟨c0, c1, c2, c3⟩, ⟨h0, h1', h2', h3⟩, g0, g1, g2, g3⟩ := box44f w vm vc (.int .u64 (bs : Int)) vp (.slice none 0 0) (.slice none 0 0) (.int .u64 0) (.slice none 0 0) 29 29
 obtain ⟨am, nm, pm, rfl⟩ : ∃ a n p, vm = .slice a n p := by obtain ⟨a, p, h, _⟩ := hsl.1; exact ⟨_, _, _, h⟩
 obtain ⟨ac, nc, pc, rfl⟩ : ∃ a n p, vc = .slice a n p := by obtain ⟨a, p, h, _⟩ := hsl.2.1; exact ⟨_, _, _, h⟩
 obtain ⟨ap, pp, rfl, x1, x2, x4⟩ : ∃ ao cap, vp = .slice ao ps.length cap ∧ ps.length ≤ cap ∧ cap ≤ 9223372036854775807 ∧ ∀ i (h : i < ps.length), ∃ b o, ao = some ⟨b, o, none⟩ ∧ W.cell? ⟨b, o + i * 2, none⟩ = some (.int .u32 (ps[i].1 : Int)) ∧ W.cell? ⟨b, o + i * 2 + 1, none⟩ = some (.int .i64 ps[i].2) := by
  obtain ⟨ao, cap, e, q1, q2, _, q4⟩ := hsl.2.2.keep hb
  exact ⟨ao, cap, e, q1, q2, q4⟩
 have HX : Hid (∀ i (h : i < ps.length), ∃ b o, ap = some ⟨b, o, none⟩ ∧ W.cell? ⟨b, o + i * 2, none⟩ = some (.int .u32 (ps[i].1 : Int)) ∧ W.cell? ⟨b, o + i * 2 + 1, none⟩ = some (.int .i64 ps[i].2)) := x4
 have HSL : Hid (SlG w (.slice am nm pm) (.slice ac nc pc) (.slice ap ps.length pp) ms cs ps) := hsl
 have K42 := rwrong42 first n 0 h1 h2 W
 rw [hp] at K42
 clear x4 hsl hpn hp hsz h0 h1' h2' h3
 have G0 := g0
 have G1 := g1
 have G2 := g2
 have G3 := g3
 go_enter Tryz.func34, Tryz.ntmps34
 go_wp2_with fail
 refine K42.mono ?_
 rintro e w0 ⟨rfl, h00⟩
 subst h00
 clear K42 g0 g1 g2 g3
 have q0 := G0.cell
 have q1 := G1.cell
 have q2 := G2.cell
 have q3 := G3.cell
 have q4 := G0.frozen
 have q5 := G1.frozen
 have q6 := G2.frozen
 have q7 := G3.frozen
 have HB : Hid (Below w.heap.size w ((((w0.setCell ⟨w.heap.size + 1, 0, none⟩ (.slice am nm pm)).setCell ⟨w.heap.size + 1, 1, none⟩ (.slice ac nc pc)).setCell ⟨w.heap.size + 1, 2, none⟩ (.int .u64 (bs : Int))).setCell ⟨w.heap.size + 1, 3, none⟩ (.slice ap ps.length pp))) := below_set (below_set (below_set (below_set hb (by simp) _) (by simp) _) (by simp) _) (by simp) _
 go_wp2
 (try simp only [Exit.inBlock, Exit.then])
 obtain ⟨r0, r1, r2, r3⟩ := resG4 w0 (w.heap.size + 1) (.slice am nm pm) (.slice ac nc pc) (.int .u64 (bs : Int)) (.slice ap ps.length pp) G0 G1 G2 G3
 refine bodyPost_ret (v := .tuple #[.agg #[(.slice am nm pm), (.slice ac nc pc), .int .u64 (bs : Int), (.slice ap ps.length pp)], .int .i64 22]) ?_ rfl ⟨_, _, _, rfl, HSL.out.keep HB.out, HB.out⟩
 rw [results_cell_tmp rfl]; simp [go_sem, r0, r1, r2, r3]
theorem stepR_srt_all {pr : List (Nat × Int)} {bs : Nat} {h : List (Nat × Int) × List (Nat × Int)} : ∀ (ks : List K4), Srt h.1 → Srt h.2 → Srt (rF pr bs h ks).1 ∧ Srt (rF pr bs h ks).2 := fun ks h1 h2 => by
 rw [rF_is ks h h1 h2]
 exact ⟨h1.sublist List.filter_sublist, h2.sublist List.filter_sublist⟩
set_option maxHeartbeats 8000000 in
theorem runmap21 (vm vc vp : Value) (ms cs ps : List (Nat × Int)) (bs first n : Nat) (w : World) (hsl : SlG w vm vc vp ms cs ps) (lp : ps.length ≤ 256) (hpn : ∀ y ∈ ps, y.1 < 4294967296) (h1 : first < 4294967296) (h2 : n < 4294967296) (hw : Words cs) (hrc : ∀ y ∈ cs, y.1 < 18446744073709551616) (hf : FitG ms cs ps bs) (last : Nat) (hla : last = first + n - 1) (hp : gpagesOk first n = true) :
  Calls Tryz.prog 34 #[.agg #[vm, vc, .int .u64 (bs : Int), vp], .int .u32 (first : Int), .int .u32 (n : Int)] w fun e w' => ∃ vm' vc' vp', e = .returned (.tuple #[.agg #[vm', vc', .int .u64 (bs : Int), vp'], .int .i64 0]) ∧ SlG w' vm' vc' vp' ((rF (lo ps first ++ hi ps last) bs (ms, clearN cs (bs + first * 4096) (n * 4096)) (ksM (mid ps first last) (mid ps first last).length)).1) ((rF (lo ps first ++ hi ps last) bs (ms, clearN cs (bs + first * 4096) (n * 4096)) (ksM (mid ps first last) (mid ps first last).length)).2) (lo ps first ++ hi ps last) ∧ Below w.heap.size w w' := by
 obtain ⟨W, hW, hb, hsz, ⟨c0, c1, c2, c3⟩, ⟨h0, h1', h2', h3⟩, g0, g1, g2, g3⟩ := box44f w vm vc (.int .u64 (bs : Int)) vp (.slice none 0 0) (.slice none 0 0) (.int .u64 0) (.slice none 0 0) 29 29
 obtain ⟨am, nm, pm, rfl⟩ : ∃ a n p, vm = .slice a n p := by obtain ⟨a, p, h, _⟩ := hsl.1; exact ⟨_, _, _, h⟩
 obtain ⟨ac, nc, pc, rfl⟩ : ∃ a n p, vc = .slice a n p := by obtain ⟨a, p, h, _⟩ := hsl.2.1; exact ⟨_, _, _, h⟩
 obtain ⟨ap, pp, rfl, x1, x2, x4⟩ : ∃ ao cap, vp = .slice ao ps.length cap ∧ ps.length ≤ cap ∧ cap ≤ 9223372036854775807 ∧ ∀ i (h : i < ps.length), ∃ b o, ao = some ⟨b, o, none⟩ ∧ W.cell? ⟨b, o + i * 2, none⟩ = some (.int .u32 (ps[i].1 : Int)) ∧ W.cell? ⟨b, o + i * 2 + 1, none⟩ = some (.int .i64 ps[i].2) := by
  obtain ⟨ao, cap, e, q1, q2, _, q4⟩ := hsl.2.2.keep hb
  exact ⟨ao, cap, e, q1, q2, q4⟩
 have HX : Hid (∀ i (h : i < ps.length), ∃ b o, ap = some ⟨b, o, none⟩ ∧ W.cell? ⟨b, o + i * 2, none⟩ = some (.int .u32 (ps[i].1 : Int)) ∧ W.cell? ⟨b, o + i * 2 + 1, none⟩ = some (.int .i64 ps[i].2)) := x4
 have HSL : Hid (SlG w (.slice am nm pm) (.slice ac nc pc) (.slice ap ps.length pp) ms cs ps) := hsl
 have hpp : n ≠ 0 ∧ first + n ≤ 1048576 := by simpa [gpagesOk] using hp
 have hle := hf.le
 have hfl : first ≤ last := by omega
 have hC := fit_clear hf.fq hw hrc (bs + first * 4096) (n * 4096) (by omega)
 have K42 := rwrong42 first n 0 h1 h2 W
 rw [hp, show protOk 0 = true by decide] at K42
 obtain ⟨W1, hW1, hb1, hsz1, a0, a1, a2, a3, _⟩ := box4 W (.slice am nm pm) (.slice ac nc pc) (.int .u64 (bs : Int)) (.slice ap ps.length pp) 29
 have u0 := keep_cell hb1 c0
 have u1 := keep_cell hb1 c1
 have u2 := keep_cell hb1 c2
 have u3 := keep_cell hb1 c3
 have K43 := rwithout43 (.slice am nm pm) (.slice ac nc pc) (.slice ap ps.length pp) bs first n last ps W1 ⟨_, _, _, rfl⟩ ⟨_, _, _, rfl⟩ ((hsl.2.2.keep hb).keep hb1) (by omega) hpn hpp.1 (by omega) hla
 rw [outM_eq hf.sp hfl] at K43
 obtain ⟨pr, hpr⟩ : ∃ z, z = lo ps first ++ hi ps last := ⟨_, rfl⟩
 obtain ⟨zl, hzl⟩ : ∃ z, z = clearN cs (bs + first * 4096) (n * 4096) := ⟨_, rfl⟩
 have hdoc := rF_doc (bs := bs) (h := (ms, zl)) (first := first) (last := last) hf.fq.2.2.1 (by rw [hzl]; exact hC.1.2.2.2.1) hf.sp (fun x hx => (hf.pg x hx).1) hfl
 rw [← hpr] at K43 hdoc ⊢
 rw [← hzl] at hC ⊢
 obtain ⟨zm, hzm⟩ : ∃ z, z = (rF pr bs (ms, zl) (ksM (mid ps first last) (mid ps first last).length)).1 := ⟨_, rfl⟩
 obtain ⟨zc, hzc⟩ : ∃ z, z = (rF pr bs (ms, zl) (ksM (mid ps first last) (mid ps first last).length)).2 := ⟨_, rfl⟩
 rw [← hzm, ← hzc]
 have HZ : Hid (rF pr bs (ms, zl) (ksP ps) = (zm, zc)) := by show _ = _; rw [hdoc, hzm, hzc]
 have HF : Hid (FitG ms cs ps bs) := hf
 have HWO : Hid (Words cs) := hw
 have HRC : Hid (∀ y ∈ cs, y.1 < 18446744073709551616) := hrc
 have HPN : Hid (∀ y ∈ ps, y.1 < 4294967296) := hpn
 have HCL : Hid (FitQ ms zl ∧ Words zl ∧ (∀ y ∈ zl, y.1 < 18446744073709551616) ∧ zl = rclearL (bs + first * 4096) (n * 4096) cs) := ⟨hC.1, hC.2.1, hC.2.2, by rw [hzl, rclear_eq hf.fq hw hrc _ _ (by omega)]⟩
 have HPR : Hid (∀ x ∈ pr, x ∈ ps) := fun x hx => by rw [hpr] at hx; exact (mem_cut.1 hx).1
 have HS : Hid (W.heap.size = w.heap.size + 2 ∧ W1.heap.size = w.heap.size + 3) := ⟨hsz, by omega⟩
 obtain ⟨fa, hfa'⟩ : ∃ z, z = first * 4096 := ⟨_, rfl⟩
 obtain ⟨fb, hfb⟩ : ∃ z, z = bs + fa := ⟨_, rfl⟩
 obtain ⟨nb, hnb⟩ : ∃ z, z = n * 4096 := ⟨_, rfl⟩
 have hfa : fa < 4294967296 := by omega
 have HNB : Hid (fb = bs + first * 4096 ∧ nb = n * 4096 ∧ fb < 18446744073709551616 ∧ nb < 18446744073709551616) := ⟨by omega, hnb, by omega, by omega⟩
 have v1 : IntKind.u32.wrap ((first : Int) * 4096) = (fa : Int) := by rw [IntKind.wrap_u32]; omega
 have v2 : ((first : Int) * 4096) % 4294967296 = (fa : Int) := by omega
 have v3 : IntKind.u64.wrap (n : Int) = (n : Int) := by rw [IntKind.wrap_u64]; omega
 have v4 : IntKind.u64.wrap ((n : Int) * 4096) = (nb : Int) := by rw [IntKind.wrap_u64]; omega
 have v5 : True := trivial
 have v6 : True := trivial
 have hszA : W.heap.size = w.heap.size + 2 := hsz
 clear x4 hsl hpn hp hla hpp hf hw hrc hC hdoc hpr hzl hzm hzc hsz hnb hfa' h2'
 go_enter Tryz.func34, Tryz.ntmps34
 go_wp2_with fail
 refine K42.mono ?_
 rintro e w0 ⟨rfl, h00⟩
 subst h00
 clear K42
 go_wp2_with fail
 refine K43.mono ?_
 rintro e w2 ⟨vq, rfl, hoq, hb2⟩
 obtain ⟨aq, nq, pq, rfl⟩ := own_shape hoq
 clear K43
 have b12 := below_tr hb1 hb2
 have c0 := keep_cell b12 c0
 have c1 := keep_cell b12 c1
 have c2 := keep_cell b12 c2
 have c3 := keep_cell b12 c3
 have F0 := h0.keep b12
 have F1 := h1'.keep b12
 have F3 := h3.keep b12
 have qf := F3.frozen
 have qc := F3.cell
 have G0 := g0.keep b12
 have G1 := g1.keep b12
 have G2 := g2.keep b12
 have G3 := g3.keep b12
 have a3 := keep_cell hb2 a3
 have hbw := below_tr hb b12
 have hs1 := HS.out.2
 have hs2 := hb2.size
 obtain ⟨W9, hW9⟩ : ∃ z, w2.setCell ⟨w.heap.size, 3, none⟩ (.slice aq nq pq) = z := ⟨_, rfl⟩
 have oth : Oth (B3 w.heap.size) w2 W9 := by rw [← hW9]; exact Oth.set _ _ _ ⟨Nat.le_refl _, by omega⟩
 have t0 : W9.cell? ⟨w.heap.size, 0, none⟩ = some (.slice am nm pm) := by rw [← hW9, World.cell?_setCell_other _ _ _ _ (by simp)]; exact c0
 have t1 : W9.cell? ⟨w.heap.size, 1, none⟩ = some (.slice ac nc pc) := by rw [← hW9, World.cell?_setCell_other _ _ _ _ (by simp)]; exact c1
 have t2 : W9.cell? ⟨w.heap.size, 2, none⟩ = some (.int .u64 (bs : Int)) := by rw [← hW9, World.cell?_setCell_other _ _ _ _ (by simp)]; exact c2
 have t3 : W9.cell? ⟨w.heap.size, 3, none⟩ = some (.slice aq nq pq) := by rw [← hW9]; exact World.cell?_setCell_same _ _ _ F3.cell
 have hbw9 : Below w.heap.size w W9 := by rw [← hW9]; exact below_set hbw (by simp) _
 have hsz9 : w.heap.size + 3 ≤ W9.heap.size := by have := oth.1; omega
 have U0 : Hid (UmI w.heap.size w W9 bs (.slice am nm pm) (.slice ac nc pc) (.slice aq nq pq) (.slice ap ps.length pp) ms cs pr ps) := by
  have set : ∀ {a : Addr}, Free w2 a → Free W9 a := fun h => by rw [← hW9]; exact h.set _ _
  refine ⟨t0, t1, t2, t3, (by rw [← hW9, World.cell?_setCell_other _ _ _ _ (by simp), ← hszA]; exact a3), set F0, set F1, set G0, set G1, set G2, set G3, St.arg HSL.out.1 hbw9 (fun _ h => h.1), St.arg HSL.out.2.1 hbw9 (fun _ h => h.1), (StP.own hoq (fun k h => by have := h.2; omega)).on oth, StP.arg HSL.out.2.2 hbw9 (fun _ h => h.1), hbw9, hsz9⟩
 have KC : Hid (∀ w', Below W9.heap.size W9 w' → Calls Tryz.prog 58 #[.agg #[.slice am nm pm, .slice ac nc pc], .int .u64 (fb : Int), .int .u64 (nb : Int)] w' fun e w'' => ∃ vc', e = .returned (.agg #[.slice am nm pm, vc']) ∧ w''.ownsRow w'.heap.size 82 2 vc' zl.length (rowOf .u64 zl) ∧ Below w'.heap.size w' w'') := fun w' hb' => by
  have h8 : ∀ y ∈ cs, y.1 + 7 < 18446744073709551616 := fun y hy => by have := HRC.out y hy; have := (HF.out.fq.2.2.2.2.2 y hy).1; omega
  have k := rclear25 (.slice am nm pm) (.slice ac nc pc) ms cs fb nb w' ((HSL.out.1.keep hbw9).keep hb') ((HSL.out.2.1.keep hbw9).keep hb') (Nat.le_trans HF.out.fq.2.1 (by decide)) HWO.out h8 HNB.out.2.2.1 HNB.out.2.2.2
  rw [HNB.out.1, HNB.out.2.1, ← HCL.out.2.2.2] at k
  rw [HNB.out.1, HNB.out.2.1]
  exact k
 clear u0 u1 u2 u3 c0 c1 c2 c3 F0 F1 F3 G0 G1 G2 G3 a3 a0 a1 a2 hoq b12 oth hs2 hbw hbw9 g0 g1 g2 g3 h0 h1' h3 hb hb1 hszA hsz1
 clear hW1 hb2 hs1
 go_wp2
 refine wp_region_slots_last (R := Ext) [⟨21, fun v _ => v = .pointer (some ⟨w.heap.size, 0, none⟩), fun _ _ _ _ h => h⟩, ⟨22, fun v _ => v = .agg #[.slice am nm pm, .slice ac nc pc], fun _ _ _ _ h => h⟩, ⟨23, fun v _ => v = .agg #[.slice am nm pm, .slice ac nc pc, .int .u64 (bs : Int), .slice aq nq pq], fun _ _ _ _ h => h⟩, ⟨24, fun v _ => v = .int .u32 (first : Int), fun _ _ _ _ h => h⟩, ⟨25, fun v _ => v = .int .u32 (fa : Int), fun _ _ _ _ h => h⟩, ⟨26, fun v _ => v = .int .u64 (fb : Int), fun _ _ _ _ h => h⟩, ⟨27, fun v _ => v = .int .u32 (n : Int), fun _ _ _ _ h => h⟩, ⟨28, fun v _ => v = .int .u64 (n : Int), fun _ _ _ _ h => h⟩, ⟨29, fun v _ => v = .int .u64 (nb : Int), fun _ _ _ _ h => h⟩, ⟨30, fun v w' => ∃ a b c, v = .agg #[.slice am nm pm, .slice a b c] ∧ w'.ownsRow (w.heap.size + 3) 82 2 (.slice a b c) zl.length (rowOf .u64 zl), fun v w' w'' hb ⟨a, b, c, e, h⟩ => ⟨a, b, c, e, own_keep h hb⟩⟩, ⟨31, fun v _ => v = .pointer (some ⟨w.heap.size, 0, none⟩), fun _ _ _ _ h => h⟩] _ 11 _ (by kernel_rfl) rfl (by kernel_rfl) rfl rfl rfl rfl (by kernel_rfl) (Below.drew (Below.refl _ _)) (fun _ _ _ h1 h2 => below_tr h1 h2) (fun QQ => ⟨?_, ?_, ?_, ?_, ?_, ?_, ?_, ?_, ?_, ?_, ?_, trivial⟩) (fun f wy hR hf A hA K hK => ?_)
 ·intro A wx hR hout hdep K hK
  have h3 : A.tmps[3]?.getD undef = .pointer (some ⟨w.heap.size, 0, none⟩) := hout 3 (by kernel_rfl)
  refine if_yes (by kernel_rfl) ?_
  simp [go_sem, h3, v1, v2, v3, v4, v5, v6]
  exact hK.out _ _ (Below.refl _ _) rfl
 ·intro A wx hR hout hdep K hK
  have h21 : A.tmps[21]?.getD undef = .pointer (some ⟨w.heap.size, 0, none⟩) := hdep 21 (by kernel_rfl)
  refine if_yes (by kernel_rfl) ?_
  have t0 := keep_cell hR t0
  have t1 := keep_cell hR t1
  have t2 := keep_cell hR t2
  have t3 := keep_cell hR t3
  simp [go_sem, h21, t0, t1, t2, t3, v1, v2, v3, v4, v5, v6]
  exact hK.out _ _ (Below.refl _ _) rfl
 ·intro A wx hR hout hdep K hK
  have h3 : A.tmps[3]?.getD undef = .pointer (some ⟨w.heap.size, 0, none⟩) := hout 3 (by kernel_rfl)
  refine if_yes (by kernel_rfl) ?_
  have t0 := keep_cell hR t0
  have t1 := keep_cell hR t1
  have t2 := keep_cell hR t2
  have t3 := keep_cell hR t3
  simp [go_sem, h3, t0, t1, t2, t3, v1, v2, v3, v4, v5, v6]
  exact hK.out _ _ (Below.refl _ _) rfl
 ·intro A wx hR hout hdep K hK
  have h1 : A.tmps[1]?.getD undef = .int .u32 (first : Int) := hout 1 (by kernel_rfl)
  refine if_yes (by kernel_rfl) ?_
  simp [go_sem, h1, v1, v2, v3, v4, v5, v6]
  exact hK.out _ _ (Below.refl _ _) rfl
 ·intro A wx hR hout hdep K hK
  have h24 : A.tmps[24]?.getD undef = .int .u32 (first : Int) := hdep 24 (by kernel_rfl)
  refine if_yes (by kernel_rfl) ?_
  simp [go_sem, h24, v1, v2, v3, v4, v5, v6]
  exact hK.out _ _ (Below.refl _ _) rfl
 ·intro A wx hR hout hdep K hK
  have h23 : A.tmps[23]?.getD undef = .agg #[.slice am nm pm, .slice ac nc pc, .int .u64 (bs : Int), .slice aq nq pq] := hdep 23 (by kernel_rfl)
  have h25 : A.tmps[25]?.getD undef = .int .u32 (fa : Int) := hdep 25 (by kernel_rfl)
  refine if_yes (by kernel_rfl) ?_
  simp [go_sem, h23, h25, v1, v2, v3, v4, v5, v6]
  refine (rplace17 _ _ _ bs fa hle hfa wx ⟨_, _, _, rfl⟩ ⟨_, _, _, rfl⟩ ⟨_, _, _, rfl⟩).mono ?_
  rintro e wG ⟨rfl, hbG⟩
  rw [← hfb]
  exact hK.out _ _ hbG rfl
 ·intro A wx hR hout hdep K hK
  have h2 : A.tmps[2]?.getD undef = .int .u32 (n : Int) := hout 2 (by kernel_rfl)
  refine if_yes (by kernel_rfl) ?_
  simp [go_sem, h2, v1, v2, v3, v4, v5, v6]
  exact hK.out _ _ (Below.refl _ _) rfl
 ·intro A wx hR hout hdep K hK
  have h27 : A.tmps[27]?.getD undef = .int .u32 (n : Int) := hdep 27 (by kernel_rfl)
  refine if_yes (by kernel_rfl) ?_
  simp [go_sem, h27, v1, v2, v3, v4, v5, v6]
  exact hK.out _ _ (Below.refl _ _) rfl
 ·intro A wx hR hout hdep K hK
  have h28 : A.tmps[28]?.getD undef = .int .u64 (n : Int) := hdep 28 (by kernel_rfl)
  refine if_yes (by kernel_rfl) ?_
  simp [go_sem, h28, v1, v2, v3, v4, v5, v6]
  exact hK.out _ _ (Below.refl _ _) rfl
 ·intro A wx hR hout hdep K hK
  have h22 : A.tmps[22]?.getD undef = .agg #[.slice am nm pm, .slice ac nc pc] := hdep 22 (by kernel_rfl)
  have h26 : A.tmps[26]?.getD undef = .int .u64 (fb : Int) := hdep 26 (by kernel_rfl)
  have h29 : A.tmps[29]?.getD undef = .int .u64 (nb : Int) := hdep 29 (by kernel_rfl)
  refine if_yes (by kernel_rfl) ?_
  simp [go_sem, h22, h26, h29, v1, v2, v3, v4, v5, v6]
  refine (KC.out wx hR).mono ?_
  rintro e wG ⟨vc', rfl, hoG, hbG⟩
  obtain ⟨a', b', c', rfl⟩ := own_shape hoG
  exact hK.out _ _ hbG ⟨a', b', c', rfl, own_base hoG (Nat.le_trans hsz9 hR.size)⟩
 ·intro A wx hR hout hdep K hK
  have h3 : A.tmps[3]?.getD undef = .pointer (some ⟨w.heap.size, 0, none⟩) := hout 3 (by kernel_rfl)
  refine if_yes (by kernel_rfl) ?_
  simp [go_sem, h3, v1, v2, v3, v4, v5, v6]
  exact hK.out _ _ (Below.refl _ _) rfl
 obtain ⟨ya, yb, yc, hv30, ho30⟩ : ∃ a b c, f 30 = .agg #[.slice am nm pm, .slice a b c] ∧ wy.ownsRow (w.heap.size + 3) 82 2 (.slice a b c) zl.length (rowOf .u64 zl) := hf 30 (by kernel_rfl)
 have hv31 : f 31 = .pointer (some ⟨w.heap.size, 0, none⟩) := hf 31 (by kernel_rfl)
 simp only [putSl, List.take_succ_cons, List.take_zero, Act.put, List.setIfInBounds_toArray, List.set_cons_zero, List.set_cons_succ, hv30, hv31] at hA
 subst hA
 have U1 := U0.out.keep hR
 have p0 := U1.f0.cell
 have p1 := U1.f1.cell
 have p2 := U1.f0.frozen
 have p3 := U1.f1.frozen
 have U2 : Hid (UmI w.heap.size w ((wy.setCell ⟨w.heap.size, 0, none⟩ (.slice am nm pm)).setCell ⟨w.heap.size, 1, none⟩ (.slice ya yb yc)) bs (.slice am nm pm) (.slice ya yb yc) (.slice aq nq pq) (.slice ap ps.length pp) ms zl pr ps) := U1.set (C := 0) U1.sm (St.own ho30 (fun _ h => h.2))
 clear U1 U0 ho30 hv30 hv31 hf
 go_simp
 refine hK.out _ _ ?_
 clear hK K
 obtain ⟨W10, hW10⟩ : ∃ z, (wy.setCell ⟨w.heap.size, 0, none⟩ (.slice am nm pm)).setCell ⟨w.heap.size, 1, none⟩ (.slice ya yb yc) = z := ⟨_, rfl⟩
 rw [hW10] at U2 ⊢
 clear hW10 p0 p1 p2 p3 hR t0 t1 t2 t3 hW9 KC hsz9
 go_wp2
 go_loopw [9] (fun i wr => ∃ (k : Nat) (vmr vcr : Value) (mr cr : List (Nat × Int)), k ≤ ps.length ∧ i = .int .i64 (k : Int) ∧ (mr, cr) = rF pr bs (ms, zl) (ksP (ps.take k)) ∧ (∃ a b c, vmr = .slice a b c) ∧ (∃ a b c, vcr = .slice a b c) ∧ UmI w.heap.size w wr bs vmr vcr (.slice aq nq pq) (.slice ap ps.length pp) mr cr pr ps) (fun i _ => ps.length - (intOf i).toNat)
 case atStart => exact ⟨0, _, _, _, _, Nat.zero_le _, rfl, rfl, ⟨_, _, _, rfl⟩, ⟨_, _, _, rfl⟩, U2.out⟩
 case round =>
  obtain ⟨k, vmr, vcr, mr, cr, hk, rfl, hst, ⟨xa, xb, xc, rfl⟩, ⟨ya, yb, yc, rfl⟩, hU⟩ := hrel
  have HU : Hid (UmI w.heap.size w wr bs (.slice xa xb xc) (.slice ya yb yc) (.slice aq nq pq) (.slice ap ps.length pp) mr cr pr ps) := hU
  have k0 := hU.c0
  have k1 := hU.c1
  have k2 := hU.c2
  have k3 := hU.c3
  have k4 := hU.d3
  by_cases hkl : k < ps.length
  ·obtain ⟨b, o, rfl, k5, k6⟩ : ∃ b o, ap = some ⟨b, o, none⟩ ∧ wr.cell? ⟨b, o + k * 2, none⟩ = some (.int .u32 (ps[k].1 : Int)) ∧ wr.cell? ⟨b, o + k * 2 + 1, none⟩ = some (.int .i64 ps[k].2) := by
    obtain ⟨ao, cap, e, _, _, _, g⟩ := hU.so.now
    cases e
    exact g k hkl
   have hkI : (k : Int) < (ps.length : Int) := by omega
   have hlp1 : (0 : Int) ≤ (k : Int) := by omega
   have hlp2 : True := trivial
   have hsn := ksP_snoc ps k hkl
   obtain ⟨q0, q1⟩ := HF.out.pg _ (List.getElem_mem hkl)
   have q1 : True := trivial
   generalize ps[k].1 = p at k5 hsn q0
   clear k6 hU
   have hp4 : p < 4294967296 := by omega
   obtain ⟨pg, hpg⟩ : ∃ z, z = hp bs (p / 4) := ⟨_, rfl⟩
   have HPG : Hid (pg = hp bs (p / 4) ∧ p < 1048576 ∧ ksP (ps.take (k + 1)) = ksP (ps.take k) ++ [toK (p / 4)]) := ⟨hpg, q0, hsn⟩
   have HST : Hid ((mr, cr) = rF pr bs (ms, zl) (ksP (ps.take k))) := hst
   clear hsn q0 hst
   go_wp2
   refine wp_region_slots (R := Ext) [⟨39, fun v _ => v = .agg #[.slice xa xb xc, .slice ya yb yc, .int .u64 (bs : Int), .slice aq nq pq], fun _ _ _ _ h => h⟩, ⟨40, fun v _ => v = .pointer (some ⟨w.heap.size + 2, 3, none⟩), fun _ _ _ _ h => h⟩, ⟨41, fun v _ => v = .slice (some ⟨b, o, none⟩) ps.length pp, fun _ _ _ _ h => h⟩, ⟨42, fun v _ => v = .int .i64 (k : Int), fun _ _ _ _ h => h⟩, ⟨43, fun v _ => v = .pointer (some ⟨b, o + k * 2, none⟩), fun _ _ _ _ h => h⟩, ⟨44, fun v _ => v = .pointer (some ⟨b, o + k * 2, none⟩), fun _ _ _ _ h => h⟩, ⟨45, fun v _ => v = .int .u32 (p : Int), fun _ _ _ _ h => h⟩, ⟨46, fun v _ => v = .int .u64 (pg : Int), fun _ _ _ _ h => h⟩, ⟨10, fun v _ => v = .int .u64 (pg : Int), fun _ _ _ _ h => h⟩] _ (by kernel_rfl) rfl (by kernel_rfl) (Below.drew (Below.refl _ _)) (fun _ _ _ h1 h2 => below_tr h1 h2) (fun QQ => ⟨?_, ?_, ?_, ?_, ?_, ?_, ?_, ?_, ?_, trivial⟩) (fun f wy hR hf => ?_)
   ·intro A wx hR hout hdep K hK
    have h3 : A.tmps[3]?.getD undef = .pointer (some ⟨w.heap.size, 0, none⟩) := hout 3 (by kernel_rfl)
    refine if_yes (by kernel_rfl) ?_
    have k0 := keep_cell hR k0
    have k1 := keep_cell hR k1
    have k2 := keep_cell hR k2
    have k3 := keep_cell hR k3
    have k4 := keep_cell hR k4
    have k5 := keep_cell hR k5
    simp [go_sem, h3, k0, k1, k2, k3, k4, k5, hkl, hkI, hlp1, hlp2]
    exact hK.out _ _ (Below.refl _ _) rfl
   ·intro A wx hR hout hdep K hK
    have h8 : A.tmps[8]?.getD undef = .pointer (some ⟨w.heap.size + 2, 0, none⟩) := hout 8 (by kernel_rfl)
    refine if_yes (by kernel_rfl) ?_
    simp [go_sem, h8, hkl, hkI, hlp1, hlp2]
    exact hK.out _ _ (Below.refl _ _) rfl
   ·intro A wx hR hout hdep K hK
    have h40 : A.tmps[40]?.getD undef = .pointer (some ⟨w.heap.size + 2, 3, none⟩) := hdep 40 (by kernel_rfl)
    refine if_yes (by kernel_rfl) ?_
    have k0 := keep_cell hR k0
    have k1 := keep_cell hR k1
    have k2 := keep_cell hR k2
    have k3 := keep_cell hR k3
    have k4 := keep_cell hR k4
    have k5 := keep_cell hR k5
    simp [go_sem, h40, k0, k1, k2, k3, k4, k5, hkl, hkI, hlp1, hlp2]
    exact hK.out _ _ (Below.refl _ _) rfl
   ·intro A wx hR hout hdep K hK
    have h9 : A.tmps[9]?.getD undef = .int .i64 (k : Int) := hout 9 (by kernel_rfl)
    refine if_yes (by kernel_rfl) ?_
    simp [go_sem, h9, hkl, hkI, hlp1, hlp2]
    exact hK.out _ _ (Below.refl _ _) rfl
   ·intro A wx hR hout hdep K hK
    have h41 : A.tmps[41]?.getD undef = .slice (some ⟨b, o, none⟩) ps.length pp := hdep 41 (by kernel_rfl)
    have h42 : A.tmps[42]?.getD undef = .int .i64 (k : Int) := hdep 42 (by kernel_rfl)
    refine if_yes (by kernel_rfl) ?_
    simp [go_sem, h41, h42, hkl, hkI, hlp1, hlp2]
    exact hK.out _ _ (Below.refl _ _) rfl
   ·intro A wx hR hout hdep K hK
    have h43 : A.tmps[43]?.getD undef = .pointer (some ⟨b, o + k * 2, none⟩) := hdep 43 (by kernel_rfl)
    refine if_yes (by kernel_rfl) ?_
    simp [go_sem, h43, hkl, hkI, hlp1, hlp2]
    exact hK.out _ _ (Below.refl _ _) rfl
   ·intro A wx hR hout hdep K hK
    have h44 : A.tmps[44]?.getD undef = .pointer (some ⟨b, o + k * 2, none⟩) := hdep 44 (by kernel_rfl)
    refine if_yes (by kernel_rfl) ?_
    have k0 := keep_cell hR k0
    have k1 := keep_cell hR k1
    have k2 := keep_cell hR k2
    have k3 := keep_cell hR k3
    have k4 := keep_cell hR k4
    have k5 := keep_cell hR k5
    simp [go_sem, h44, k0, k1, k2, k3, k4, k5, hkl, hkI, hlp1, hlp2]
    exact hK.out _ _ (Below.refl _ _) rfl
   ·intro A wx hR hout hdep K hK
    have h39 : A.tmps[39]?.getD undef = .agg #[.slice xa xb xc, .slice ya yb yc, .int .u64 (bs : Int), .slice aq nq pq] := hdep 39 (by kernel_rfl)
    have h45 : A.tmps[45]?.getD undef = .int .u32 (p : Int) := hdep 45 (by kernel_rfl)
    refine if_yes (by kernel_rfl) ?_
    simp [go_sem, h39, h45, hkl, hkI, hlp1, hlp2]
    refine (rhostPage44 _ _ _ bs p hle hp4 wx ⟨_, _, _, rfl⟩ ⟨_, _, _, rfl⟩ ⟨_, _, _, rfl⟩).mono ?_
    rintro e wG ⟨rfl, hbG⟩
    rw [← hpg]
    exact hK.out _ _ hbG rfl
   ·intro A wx hR hout hdep K hK
    have h46 : A.tmps[46]?.getD undef = .int .u64 (pg : Int) := hdep 46 (by kernel_rfl)
    refine if_yes (by kernel_rfl) ?_
    simp [go_sem, h46, hkl, hkI, hlp1, hlp2]
    exact hK.out _ _ (Below.refl _ _) rfl
   simp only [putSl, Act.put, List.setIfInBounds_toArray, List.set_cons_zero, List.set_cons_succ]
   have hz : f 10 = .int .u64 (pg : Int) := hf 10 (by kernel_rfl)
   rw [hz]
   clear hz hf
   have HU2 : Hid (UmI w.heap.size w wy bs (.slice xa xb xc) (.slice ya yb yc) (.slice aq nq pq) (.slice (some ⟨b, o, none⟩) ps.length pp) mr cr pr ps) := HU.out.keep hR
   have k0 := keep_cell hR k0
   have k1 := keep_cell hR k1
   have k2 := keep_cell hR k2
   have k3 := keep_cell hR k3
   clear hR HU hpg k4 k5
   have K34 := rused34 (.slice xa xb xc) (.slice ya yb yc) (.slice aq nq pq) bs pg pr wy ⟨_, _, _, rfl⟩ ⟨_, _, _, rfl⟩ HU2.out.sp.now hle HF.out.al (fun x hx => (HF.out.pg x (HPR.out x hx)).1)
   have hus : pr.any (fun x => hp bs (x.1 / 4) == pg) = usedN pr (p / 4) := by
    rw [HPG.out.1]
    unfold usedN
    congr 1
    funext x
    rw [Bool.eq_iff_iff]
    simp only [beq_iff_eq]
    exact ⟨hp_inj, fun e => by rw [e]⟩
   rw [hus] at K34
   clear hus
   have HV : Hid ((toK (p / 4)).val = p / 4) := toK_val (by have := HPG.out.2.1; omega)
   cases hu : usedN pr (p / 4) with
   | true =>
    rw [hu] at K34
    have HN : Hid ((mr, cr) = rF pr bs (ms, zl) (ksP (ps.take (k + 1)))) := by
     show _ = _
     rw [HPG.out.2.2, rF_snoc, ← HST.out, stepR, HV.out, hu, if_pos rfl]
    clear hu
    go_wp2_with fail
    refine K34.mono ?_
    rintro e w5 ⟨rfl, hb5⟩
    have HU3 := HU2.out.keep hb5
    have HU3 : Hid _ := HU3
    clear K34 hb5
    go_wp2
    go_roundw
    case rel => exact ⟨k + 1, _, _, _, _, by omega, by go_num, HN.out, ⟨_, _, _, rfl⟩, ⟨_, _, _, rfl⟩, HU3.out⟩
    case measure => simp [intOf]; omega
   | false =>
    rw [hu] at K34
    have HN : Hid ((outM pg pg mr, outC pg pg cr) = rF pr bs (ms, zl) (ksP (ps.take (k + 1)))) := by
     show _ = _
     have hsr := stepR_srt_all (pr := pr) (bs := bs) (h := (ms, zl)) (ksP (ps.take k)) HCL.out.1.2.2.1 HCL.out.1.2.2.2.1
     rw [← HST.out] at hsr
     rw [HPG.out.2.2, rF_snoc, ← HST.out, stepR, HV.out, hu, if_neg (by simp), ← HPG.out.1, outM_eq hsr.1 (Nat.le_refl _), outC_eq hsr.2 (Nat.le_refl _)]
     rfl
    have hsb := rF_sub (ps := pr) (bs := bs) (ksP (ps.take k)) (ms, zl) HCL.out.1.2.2.1 HCL.out.1.2.2.2.1
    rw [← HST.out] at hsb
    have HSB : Hid (mr.Sublist ms ∧ cr.Sublist zl) := hsb
    have pok : pagesOk pg 1 = true := by
     have := HPG.out
     rw [this.1]
     simp only [pagesOk, decide_eq_true_eq]
     unfold _root_.Go.Proofs.YtkpmkgkfpikpfaaGreat.hp
     omega
    clear hu hsb
    go_wp2_with fail
    refine K34.mono ?_
    rintro e w5 ⟨rfl, hb5⟩
    have HU3 : Hid (UmI w.heap.size w w5 bs (.slice xa xb xc) (.slice ya yb yc) (.slice aq nq pq) (.slice (some ⟨b, o, none⟩) ps.length pp) mr cr pr ps) := HU2.out.keep hb5
    have k0 := keep_cell hb5 k0
    have k1 := keep_cell hb5 k1
    clear K34 hb5 HU2
    go_wp2_with fail
    refine (runmap17 _ _ mr cr pg 1 pg w5 HU3.out.sm.now HU3.out.sc.now (Nat.le_trans HSB.out.1.length_le (Nat.le_trans HCL.out.1.1 (by decide))) (Nat.le_trans HSB.out.2.length_le (Nat.le_trans HCL.out.1.2.1 (by decide))) (fun y hy => Nat.lt_trans (HCL.out.1.2.2.2.2.1 y (HSB.out.1.subset hy)).1 (by decide)) (fun y hy => HCL.out.2.2.1 y (HSB.out.2.subset hy)) pok (by omega)).mono ?_
    rintro e w6 ⟨vm6, vc6, rfl, ho6, hb6⟩
    obtain ⟨ma, mb, mc, na, nb', nc', rfl, rfl⟩ := ho6.shape
    have U6 := HU3.out.keep hb6
    have p0 := U6.f0.cell
    have p1 := U6.f1.cell
    have p2 := U6.f0.frozen
    have p3 := U6.f1.frozen
    have hs5 := HU3.out.sz
    have U7 : Hid (UmI w.heap.size w ((w6.setCell ⟨w.heap.size, 0, none⟩ (.slice ma mb mc)).setCell ⟨w.heap.size, 1, none⟩ (.slice na nb' nc')) bs (.slice ma mb mc) (.slice na nb' nc') (.slice aq nq pq) (.slice (some ⟨b, o, none⟩) ps.length pp) (outM pg pg mr) (outC pg pg cr) pr ps) := U6.set (C := 0) (St.own ho6.1 (fun k h => by have := h.2; omega)) (St.own ho6.2 (fun k h => by have := h.2; omega))
    clear U6 HU3 ho6 hb6 hs5 pok k0 k1 k2 k3
    go_wp2
    go_roundw
    case rel => exact ⟨k + 1, _, _, _, _, by omega, by go_num, HN.out, ⟨_, _, _, rfl⟩, ⟨_, _, _, rfl⟩, U7.out⟩
    case measure => simp [intOf]; omega
  ·obtain rfl : k = ps.length := by omega
   rw [List.take_length, HZ.out] at hst
   cases hst
   have G0 := hU.r0
   have G1 := hU.r1
   have G2 := hU.r2
   have G3 := hU.r3
   have hbw := hU.bel
   clear hU hkl hk
   have q0 := G0.cell
   have q1 := G1.cell
   have q2 := G2.cell
   have q3 := G3.cell
   have q4 := G0.frozen
   have q5 := G1.frozen
   have q6 := G2.frozen
   have q7 := G3.frozen
   have HB : Hid (Below w.heap.size w ((((wr.setCell ⟨w.heap.size + 1, 0, none⟩ (.slice xa xb xc)).setCell ⟨w.heap.size + 1, 1, none⟩ (.slice ya yb yc)).setCell ⟨w.heap.size + 1, 2, none⟩ (.int .u64 (bs : Int))).setCell ⟨w.heap.size + 1, 3, none⟩ (.slice aq nq pq))) := below_set (below_set (below_set (below_set hbw (by simp) _) (by simp) _) (by simp) _) (by simp) _
   have HSE : Hid (SlG ((((wr.setCell ⟨w.heap.size + 1, 0, none⟩ (.slice xa xb xc)).setCell ⟨w.heap.size + 1, 1, none⟩ (.slice ya yb yc)).setCell ⟨w.heap.size + 1, 2, none⟩ (.int .u64 (bs : Int))).setCell ⟨w.heap.size + 1, 3, none⟩ (.slice aq nq pq)) (.slice xa xb xc) (.slice ya yb yc) (.slice aq nq pq) zm zc pr) := HU.out.res _ _ _ _
   go_wp2
   (try simp only [Exit.inBlock, Exit.then])
   obtain ⟨r0, r1, r2, r3⟩ := resG4 wr (w.heap.size + 1) (.slice xa xb xc) (.slice ya yb yc) (.int .u64 (bs : Int)) (.slice aq nq pq) G0 G1 G2 G3
   refine bodyPost_ret (v := .tuple #[.agg #[(.slice xa xb xc), (.slice ya yb yc), .int .u64 (bs : Int), (.slice aq nq pq)], .int .i64 0]) ?_ rfl ⟨_, _, _, rfl, HSE.out, HB.out⟩
   rw [results_cell_tmp rfl]; simp [go_sem, r0, r1, r2, r3]
def kseq (a j : Nat) : List K4 := (List.range j).map (fun i => toK (a + i))
theorem kseq_snoc (a j : Nat) : kseq a (j + 1) = kseq a j ++ [toK (a + j)] := by simp [kseq, List.range_succ]
theorem kseq_new {a j : Nat} (h : a + j < 262144) : toK (a + j) ∉ kseq a j := fun hm => by
 obtain ⟨i, hi, e⟩ := List.mem_map.1 hm
 have hi := List.mem_range.1 hi
 have := congrArg Fin.val e
 rw [toK_val (by omega), toK_val h] at this
 omega
theorem added_getD (first n j : Nat) (prot : Int) (h : j < n) : (added first prot n).getD j (0, 0) = (first + j, prot) := by
 simp [added, List.getD, h]
theorem ksM_added (first n : Nat) (prot : Int) : ∀ m, m + 1 ≤ n → ksM (added first prot n) (m + 1) = kseq (first / 4) ((first + m) / 4 - first / 4 + 1)
 | 0, h => by
  unfold ksM
  rw [if_neg (fun g => absurd g.1 (Nat.lt_irrefl 0)), added_getD first n 0 prot (by omega), show (first + 0) / 4 - first / 4 + 1 = 1 by omega]
  simp [ksM, kseq]
 | m + 1, h => by
  unfold ksM
  rw [ksM_added first n prot m (by omega), added_getD first n (m + 1) prot (by omega), show m + 1 - 1 = m by omega, added_getD first n m prot (by omega)]
  simp only
  by_cases c : (first + m) / 4 = (first + (m + 1)) / 4
  ·rw [if_pos ⟨by omega, c⟩, List.append_nil, c]
  ·rw [if_neg (fun g => c g.2), show (first + (m + 1)) / 4 - first / 4 + 1 = ((first + m) / 4 - first / 4 + 1) + 1 by omega, kseq_snoc (first / 4) ((first + m) / 4 - first / 4 + 1), show first / 4 + ((first + m) / 4 - first / 4 + 1) = (first + (m + 1)) / 4 by omega]
theorem lo_cut {ps : List (Nat × Int)} {a b : Nat} (h : a ≤ b) : lo (lo ps a ++ hi ps b) a = lo ps a := by
 have e1 : (lo ps a).filter (fun x => decide (x.1 < a)) = lo ps a := List.filter_eq_self.2 (fun x hx => by simpa using (lo_mem.1 hx).2)
 have e2 : (hi ps b).filter (fun x => decide (x.1 < a)) = [] := List.filter_eq_nil_iff.2 (fun x hx => by have := (hi_mem.1 hx).2; simp; omega)
 conv => lhs; unfold lo
 rw [List.filter_append]
 show (lo ps a).filter _ ++ _ = _
 rw [e1, e2, List.append_nil]
theorem hi_cut {ps : List (Nat × Int)} {a b : Nat} (h : a ≤ b) : hi (lo ps a ++ hi ps b) b = hi ps b := by
 have e1 : (lo ps a).filter (fun x => decide (b < x.1)) = [] := List.filter_eq_nil_iff.2 (fun x hx => by have := (lo_mem.1 hx).2; simp; omega)
 have e2 : (hi ps b).filter (fun x => decide (b < x.1)) = hi ps b := List.filter_eq_self.2 (fun x hx => by simpa using (hi_mem.1 hx).2)
 conv => lhs; unfold hi
 rw [List.filter_append]
 show _ ++ (hi ps b).filter _ = _
 rw [e1, e2, List.nil_append]
theorem cut_len {ps : List (Nat × Int)} (hs : Srt ps) {a b : Nat} (h : a ≤ b) : (lo ps a ++ hi ps b).length = ps.length - (mid ps a b).length := by
 have := congrArg List.length (parts ps hs a b h)
 simp only [List.length_append] at this ⊢
 omega
def BM (g hb k : Nat) : Prop := (g ≤ k ∧ k < g + 2) ∨ k = hb
structure MpI (g hb : Nat) (w wr : World) (bs : Nat) (vm vc vp vq vmr : Value) (cs ps pr mr : List (Nat × Int)) : Prop where
 c0 : wr.cell? ⟨g, 0, none⟩ = some vm
 c1 : wr.cell? ⟨g, 1, none⟩ = some vc
 c2 : wr.cell? ⟨g, 2, none⟩ = some (.int .u64 (bs : Int))
 c3 : wr.cell? ⟨g, 3, none⟩ = some vp
 k0 : wr.cell? ⟨hb, 0, none⟩ = some vmr
 k1 : wr.cell? ⟨hb, 1, none⟩ = some vc
 f0 : Free wr ⟨hb, 0, none⟩
 f1 : Free wr ⟨hb, 1, none⟩
 h0 : Free wr ⟨g, 0, none⟩
 h1 : Free wr ⟨g, 1, none⟩
 h3 : Free wr ⟨g, 3, none⟩
 r0 : Free wr ⟨g + 1, 0, none⟩
 r1 : Free wr ⟨g + 1, 1, none⟩
 r2 : Free wr ⟨g + 1, 2, none⟩
 r3 : Free wr ⟨g + 1, 3, none⟩
 sm : St (BM g hb) wr .i64 vmr mr
 sc : St (BM g hb) wr .u64 vc cs
 sq : StP (BM g hb) wr vq pr
 so : StP (BM g hb) wr vp ps
 bel : Below g w wr
 ne : g + 2 ≤ hb
 sz : hb + 1 ≤ wr.heap.size
theorem MpI.keep {g hb bs : Nat} {w wr w' : World} {vm vc vp vq vmr : Value} {cs ps pr mr : List (Nat × Int)} (h : MpI g hb w wr bs vm vc vp vq vmr cs ps pr mr) (b : Below wr.heap.size wr w') : MpI g hb w w' bs vm vc vp vq vmr cs ps pr mr :=
 ⟨keep_cell b h.c0, keep_cell b h.c1, keep_cell b h.c2, keep_cell b h.c3, keep_cell b h.k0, keep_cell b h.k1, h.f0.keep b, h.f1.keep b, h.h0.keep b, h.h1.keep b, h.h3.keep b, h.r0.keep b, h.r1.keep b, h.r2.keep b, h.r3.keep b, h.sm.on (Oth.of b), h.sc.on (Oth.of b), h.sq.on (Oth.of b), h.so.on (Oth.of b), h.bel.trans (b.mono (by have := h.sz; have := h.ne; omega)), h.ne, Nat.le_trans h.sz b.size⟩
theorem MpI.set {g hb bs : Nat} {w wr : World} {vm vc vp vq vmr vm' : Value} {cs ps pr mr m' : List (Nat × Int)} (h : MpI g hb w wr bs vm vc vp vq vmr cs ps pr mr) (hm : St (BM g hb) wr .i64 vm' m') : MpI g hb w ((wr.setCell ⟨hb, 0, none⟩ vm').setCell ⟨hb, 1, none⟩ vc) bs vm vc vp vq vm' cs ps pr m' := by
 have hg : BM g hb hb := Or.inr rfl
 have hn := h.ne
 have o : Oth (BM g hb) wr ((wr.setCell ⟨hb, 0, none⟩ vm').setCell ⟨hb, 1, none⟩ vc) := (Oth.set 0 wr vm' hg).trans (Oth.set 1 _ vc hg)
 have ot : ∀ {i : Nat} {v : Value}, wr.cell? ⟨g, i, none⟩ = some v → ((wr.setCell ⟨hb, 0, none⟩ vm').setCell ⟨hb, 1, none⟩ vc).cell? ⟨g, i, none⟩ = some v := fun hc => by
  rw [World.cell?_setCell_other _ _ _ _ (by simp <;> omega), World.cell?_setCell_other _ _ _ _ (by simp <;> omega)]; exact hc
 refine ⟨ot h.c0, ot h.c1, ot h.c2, ot h.c3, ?_, World.cell?_setCell_same _ _ _ (h.f1.set _ _).cell, (h.f0.set _ _).set _ _, (h.f1.set _ _).set _ _, (h.h0.set _ _).set _ _, (h.h1.set _ _).set _ _, (h.h3.set _ _).set _ _, (h.r0.set _ _).set _ _, (h.r1.set _ _).set _ _, (h.r2.set _ _).set _ _, (h.r3.set _ _).set _ _, hm.on o, h.sc.on o, h.sq.on o, h.so.on o, below_set (below_set h.bel (by simp; omega) _) (by simp; omega) _, hn, by have := h.sz; have := o.1; omega⟩
 rw [World.cell?_setCell_other _ _ _ _ (by simp)]; exact World.cell?_setCell_same _ _ _ h.f0.cell
theorem oth_res {g hb : Nat} (wr : World) (x0 x1 x2 x3 : Value) : Oth (BM g hb) wr ((((wr.setCell ⟨g + 1, 0, none⟩ x0).setCell ⟨g + 1, 1, none⟩ x1).setCell ⟨g + 1, 2, none⟩ x2).setCell ⟨g + 1, 3, none⟩ x3) := by
 have hg : BM g hb (g + 1) := Or.inl ⟨by omega, by omega⟩
 exact (((Oth.set 0 wr x0 hg).trans (Oth.set 1 _ x1 hg)).trans (Oth.set 2 _ x2 hg)).trans (Oth.set 3 _ x3 hg)
set_option maxHeartbeats 2000000 in
theorem rmap19_inval (vm vc vp : Value) (ms cs ps : List (Nat × Int)) (bs first n : Nat) (prot : Int) (w : World) (hsl : SlG w vm vc vp ms cs ps) (lp : ps.length ≤ 256) (hpn : ∀ y ∈ ps, y.1 < 4294967296) (h1 : first < 4294967296) (h2 : n < 4294967296) (hp : (gpagesOk first n && protOk prot) = false) :
  Calls Tryz.prog 32 #[.agg #[vm, vc, .int .u64 (bs : Int), vp], .int .u32 (first : Int), .int .u32 (n : Int), .int .i64 prot] w fun e w' => ∃ vm' vc' vp', e = .returned (.tuple #[.agg #[vm', vc', .int .u64 (bs : Int), vp'], .int .i64 22]) ∧ SlG w' vm' vc' vp' ms cs ps ∧ Below w.heap.size w w' := by
 obtain ⟨W, hW, hb, hsz, ⟨c0, c1, c2, c3⟩, ⟨h0, h1', h2', h3⟩, g0, g1, g2, g3⟩ := box44f w vm vc (.int .u64 (bs : Int)) vp (.slice none 0 0) (.slice none 0 0) (.int .u64 0) (.slice none 0 0) 29 29
 obtain ⟨am, nm, pm, rfl⟩ : ∃ a n p, vm = .slice a n p := by obtain ⟨a, p, h, _⟩ := hsl.1; exact ⟨_, _, _, h⟩
 obtain ⟨ac, nc, pc, rfl⟩ : ∃ a n p, vc = .slice a n p := by obtain ⟨a, p, h, _⟩ := hsl.2.1; exact ⟨_, _, _, h⟩
 obtain ⟨ap, pp, rfl, x1, x2, x4⟩ : ∃ ao cap, vp = .slice ao ps.length cap ∧ ps.length ≤ cap ∧ cap ≤ 9223372036854775807 ∧ ∀ i (h : i < ps.length), ∃ b o, ao = some ⟨b, o, none⟩ ∧ W.cell? ⟨b, o + i * 2, none⟩ = some (.int .u32 (ps[i].1 : Int)) ∧ W.cell? ⟨b, o + i * 2 + 1, none⟩ = some (.int .i64 ps[i].2) := by
  obtain ⟨ao, cap, e, q1, q2, _, q4⟩ := hsl.2.2.keep hb
  exact ⟨ao, cap, e, q1, q2, q4⟩
 have HX : Hid (∀ i (h : i < ps.length), ∃ b o, ap = some ⟨b, o, none⟩ ∧ W.cell? ⟨b, o + i * 2, none⟩ = some (.int .u32 (ps[i].1 : Int)) ∧ W.cell? ⟨b, o + i * 2 + 1, none⟩ = some (.int .i64 ps[i].2)) := x4
 have HSL : Hid (SlG w (.slice am nm pm) (.slice ac nc pc) (.slice ap ps.length pp) ms cs ps) := hsl
 have K42 := rwrong42 first n prot h1 h2 W
 rw [hp] at K42
 clear x4 hsl hpn hp hsz h0 h1' h2' h3
 have G0 := g0
 have G1 := g1
 have G2 := g2
 have G3 := g3
 go_enter Tryz.func32, Tryz.ntmps32
 go_wp2_with fail
 refine K42.mono ?_
 rintro e w0 ⟨rfl, h00⟩
 subst h00
 clear K42 g0 g1 g2 g3
 have q0 := G0.cell
 have q1 := G1.cell
 have q2 := G2.cell
 have q3 := G3.cell
 have q4 := G0.frozen
 have q5 := G1.frozen
 have q6 := G2.frozen
 have q7 := G3.frozen
 have HB : Hid (Below w.heap.size w ((((w0.setCell ⟨w.heap.size + 1, 0, none⟩ (.slice am nm pm)).setCell ⟨w.heap.size + 1, 1, none⟩ (.slice ac nc pc)).setCell ⟨w.heap.size + 1, 2, none⟩ (.int .u64 (bs : Int))).setCell ⟨w.heap.size + 1, 3, none⟩ (.slice ap ps.length pp))) := below_set (below_set (below_set (below_set hb (by simp) _) (by simp) _) (by simp) _) (by simp) _
 go_wp2
 (try simp only [Exit.inBlock, Exit.then])
 obtain ⟨r0, r1, r2, r3⟩ := resG4 w0 (w.heap.size + 1) (.slice am nm pm) (.slice ac nc pc) (.int .u64 (bs : Int)) (.slice ap ps.length pp) G0 G1 G2 G3
 refine bodyPost_ret (v := .tuple #[.agg #[(.slice am nm pm), (.slice ac nc pc), .int .u64 (bs : Int), (.slice ap ps.length pp)], .int .i64 22]) ?_ rfl ⟨_, _, _, rfl, HSL.out.keep HB.out, HB.out⟩
 rw [results_cell_tmp rfl]; simp [go_sem, r0, r1, r2, r3]
set_option maxHeartbeats 2000000 in
theorem rmap19_mem (vm vc vp : Value) (ms cs ps : List (Nat × Int)) (bs first n : Nat) (prot : Int) (w : World) (hsl : SlG w vm vc vp ms cs ps) (lp : ps.length ≤ 256) (hpn : ∀ y ∈ ps, y.1 < 4294967296) (h1 : first < 4294967296) (h2 : n < 4294967296) (hw : Words cs) (hrc : ∀ y ∈ cs, y.1 < 18446744073709551616) (hf : FitG ms cs ps bs) (last : Nat) (hla : last = first + n - 1) (hpo : (gpagesOk first n && protOk prot) = true) (hroom : 256 < ps.length - (mid ps first last).length + n) :
  Calls Tryz.prog 32 #[.agg #[vm, vc, .int .u64 (bs : Int), vp], .int .u32 (first : Int), .int .u32 (n : Int), .int .i64 prot] w fun e w' => ∃ vm' vc' vp', e = .returned (.tuple #[.agg #[vm', vc', .int .u64 (bs : Int), vp'], .int .i64 12]) ∧ SlG w' vm' vc' vp' ms cs ps ∧ Below w.heap.size w w' := by
 obtain ⟨W, hW, hb, hsz, ⟨c0, c1, c2, c3⟩, ⟨h0, h1', h2', h3⟩, g0, g1, g2, g3⟩ := box44f w vm vc (.int .u64 (bs : Int)) vp (.slice none 0 0) (.slice none 0 0) (.int .u64 0) (.slice none 0 0) 29 29
 obtain ⟨am, nm, pm, rfl⟩ : ∃ a n p, vm = .slice a n p := by obtain ⟨a, p, h, _⟩ := hsl.1; exact ⟨_, _, _, h⟩
 obtain ⟨ac, nc, pc, rfl⟩ : ∃ a n p, vc = .slice a n p := by obtain ⟨a, p, h, _⟩ := hsl.2.1; exact ⟨_, _, _, h⟩
 obtain ⟨ap, pp, rfl, x1, x2, x4⟩ : ∃ ao cap, vp = .slice ao ps.length cap ∧ ps.length ≤ cap ∧ cap ≤ 9223372036854775807 ∧ ∀ i (h : i < ps.length), ∃ b o, ao = some ⟨b, o, none⟩ ∧ W.cell? ⟨b, o + i * 2, none⟩ = some (.int .u32 (ps[i].1 : Int)) ∧ W.cell? ⟨b, o + i * 2 + 1, none⟩ = some (.int .i64 ps[i].2) := by
  obtain ⟨ao, cap, e, q1, q2, _, q4⟩ := hsl.2.2.keep hb
  exact ⟨ao, cap, e, q1, q2, q4⟩
 have HX : Hid (∀ i (h : i < ps.length), ∃ b o, ap = some ⟨b, o, none⟩ ∧ W.cell? ⟨b, o + i * 2, none⟩ = some (.int .u32 (ps[i].1 : Int)) ∧ W.cell? ⟨b, o + i * 2 + 1, none⟩ = some (.int .i64 ps[i].2)) := x4
 have HSL : Hid (SlG w (.slice am nm pm) (.slice ac nc pc) (.slice ap ps.length pp) ms cs ps) := hsl
 have hp1 : gpagesOk first n = true ∧ protOk prot = true := by simpa using hpo
 have hpp : n ≠ 0 ∧ first + n ≤ 1048576 := by simpa [gpagesOk] using hp1.1
 have hle := hf.le
 have hfl : first ≤ last := by omega
 have K42 := rwrong42 first n prot h1 h2 W
 rw [hpo] at K42
 have K43 := rwithout43 (.slice am nm pm) (.slice ac nc pc) (.slice ap ps.length pp) bs first n last ps W ⟨_, _, _, rfl⟩ ⟨_, _, _, rfl⟩ (hsl.2.2.keep hb) (by omega) hpn hpp.1 (by omega) hla
 rw [outM_eq hf.sp hfl] at K43
 have hcl := cut_len hf.sp hfl
 obtain ⟨pr, hpr⟩ : ∃ z, z = lo ps first ++ hi ps last := ⟨_, rfl⟩
 rw [← hpr] at K43 hcl
 have hlp : pr.length ≤ 256 := by omega
 have y0 : wrap64 (256 - (pr.length : Int)) = 256 - (pr.length : Int) := by unfold wrap64; omega
 have y1 : IntKind.u32.wrap (wrap64 (256 - (pr.length : Int))) = ((256 - pr.length : Nat) : Int) := by rw [y0, IntKind.wrap_u32]; omega
 have y2 : IntKind.u32.wrap (256 - (pr.length : Int)) = ((256 - pr.length : Nat) : Int) := by rw [IntKind.wrap_u32]; omega
 have y2' : (256 - (pr.length : Int)) % 4294967296 = ((256 - pr.length : Nat) : Int) := by omega
 clear y0
 have y3 : 256 - pr.length < n := by omega
 obtain ⟨rm, hrm⟩ : ∃ z, z = 256 - pr.length := ⟨_, rfl⟩
 rw [← hrm] at y1 y2 y2' y3
 clear x4 hsl hpn hpo hp1 hpp hf hw hrc hla hfl hcl hpr hsz hroom hrm h0 h1' h2' h3
 go_enter Tryz.func32, Tryz.ntmps32
 go_wp2_with fail
 refine K42.mono ?_
 rintro e w0 ⟨rfl, h00⟩
 subst h00
 clear K42
 go_wp2_with fail
 refine K43.mono ?_
 rintro e w2 ⟨vq, rfl, hoq, hb2⟩
 obtain ⟨aq, nq, pq, rfl⟩ := own_shape hoq
 obtain rfl : nq = pr.length := by obtain ⟨_, _, e, _⟩ := Pg.own_sl hoq; cases e; rfl
 clear K43
 have c0 := keep_cell hb2 c0
 have c1 := keep_cell hb2 c1
 have c2 := keep_cell hb2 c2
 have c3 := keep_cell hb2 c3
 have G0 := g0.keep hb2
 have G1 := g1.keep hb2
 have G2 := g2.keep hb2
 have G3 := g3.keep hb2
 have hbw := below_tr hb hb2
 clear hoq g0 g1 g2 g3
 have q0 := G0.cell
 have q1 := G1.cell
 have q2 := G2.cell
 have q3 := G3.cell
 have q4 := G0.frozen
 have q5 := G1.frozen
 have q6 := G2.frozen
 have q7 := G3.frozen
 have HB : Hid (Below w.heap.size w ((((w2.setCell ⟨w.heap.size + 1, 0, none⟩ (.slice am nm pm)).setCell ⟨w.heap.size + 1, 1, none⟩ (.slice ac nc pc)).setCell ⟨w.heap.size + 1, 2, none⟩ (.int .u64 (bs : Int))).setCell ⟨w.heap.size + 1, 3, none⟩ (.slice ap ps.length pp))) := below_set (below_set (below_set (below_set hbw (by simp) _) (by simp) _) (by simp) _) (by simp) _
 go_wp2
 (try simp only [Exit.inBlock, Exit.then])
 obtain ⟨r0, r1, r2, r3⟩ := resG4 w2 (w.heap.size + 1) (.slice am nm pm) (.slice ac nc pc) (.int .u64 (bs : Int)) (.slice ap ps.length pp) G0 G1 G2 G3
 refine bodyPost_ret (v := .tuple #[.agg #[(.slice am nm pm), (.slice ac nc pc), .int .u64 (bs : Int), (.slice ap ps.length pp)], .int .i64 12]) ?_ rfl ⟨_, _, _, rfl, HSL.out.keep HB.out, HB.out⟩
 rw [results_cell_tmp rfl]; simp [go_sem, r0, r1, r2, r3]
set_option maxHeartbeats 1000000 in
theorem rmap19 (vm vc vp : Value) (ms cs ps : List (Nat × Int)) (bs first n : Nat) (prot : Int) (w : World) (hsl : SlG w vm vc vp ms cs ps) (lp : ps.length ≤ 256) (hpn : ∀ y ∈ ps, y.1 < 4294967296) (h1 : first < 4294967296) (h2 : n < 4294967296) (hw : Words cs) (hrc : ∀ y ∈ cs, y.1 < 18446744073709551616) (hf : FitG ms cs ps bs) (last : Nat) (hla : last = first + n - 1) (hpo : (gpagesOk first n && protOk prot) = true) (hroom : ps.length - (mid ps first last).length + n ≤ 256) :
  Calls Tryz.prog 32 #[.agg #[vm, vc, .int .u64 (bs : Int), vp], .int .u32 (first : Int), .int .u32 (n : Int), .int .i64 prot] w fun e w' => ((msF ps bs ms (ksM (added first prot n) n)).length ≤ 64 ∧ ∃ vm' vc' vp', e = .returned (.tuple #[.agg #[vm', vc', .int .u64 (bs : Int), vp'], .int .i64 0]) ∧ SlG w' vm' vc' vp' (msF ps bs ms (ksM (added first prot n) n)) (clearN cs (bs + first * 4096) (n * 4096)) (lo ps first ++ added first prot n ++ hi ps last) ∧ Below w.heap.size w w') ∨ (64 < (msF ps bs ms (ksM (added first prot n) n)).length ∧ ∃ vm' vc' vp', e = .returned (.tuple #[.agg #[vm', vc', .int .u64 (bs : Int), vp'], .int .i64 105]) ∧ SlG w' vm' vc' vp' ms cs ps ∧ Below w.heap.size w w') := by
 obtain ⟨W, hW, hb, hsz, ⟨c0, c1, c2, c3⟩, ⟨h0, h1', h2', h3⟩, g0, g1, g2, g3⟩ := box44f w vm vc (.int .u64 (bs : Int)) vp (.slice none 0 0) (.slice none 0 0) (.int .u64 0) (.slice none 0 0) 29 29
 obtain ⟨am, nm, pm, rfl⟩ : ∃ a n p, vm = .slice a n p := by obtain ⟨a, p, h, _⟩ := hsl.1; exact ⟨_, _, _, h⟩
 obtain ⟨ac, nc, pc, rfl⟩ : ∃ a n p, vc = .slice a n p := by obtain ⟨a, p, h, _⟩ := hsl.2.1; exact ⟨_, _, _, h⟩
 obtain ⟨ap, pp, rfl, x1, x2, x4⟩ : ∃ ao cap, vp = .slice ao ps.length cap ∧ ps.length ≤ cap ∧ cap ≤ 9223372036854775807 ∧ ∀ i (h : i < ps.length), ∃ b o, ao = some ⟨b, o, none⟩ ∧ W.cell? ⟨b, o + i * 2, none⟩ = some (.int .u32 (ps[i].1 : Int)) ∧ W.cell? ⟨b, o + i * 2 + 1, none⟩ = some (.int .i64 ps[i].2) := by
  obtain ⟨ao, cap, e, q1, q2, _, q4⟩ := hsl.2.2.keep hb
  exact ⟨ao, cap, e, q1, q2, q4⟩
 have HX : Hid (∀ i (h : i < ps.length), ∃ b o, ap = some ⟨b, o, none⟩ ∧ W.cell? ⟨b, o + i * 2, none⟩ = some (.int .u32 (ps[i].1 : Int)) ∧ W.cell? ⟨b, o + i * 2 + 1, none⟩ = some (.int .i64 ps[i].2)) := x4
 have HSL : Hid (SlG w (.slice am nm pm) (.slice ac nc pc) (.slice ap ps.length pp) ms cs ps) := hsl
 have hp1 : gpagesOk first n = true ∧ protOk prot = true := by simpa using hpo
 have hpp : n ≠ 0 ∧ first + n ≤ 1048576 := by simpa [gpagesOk] using hp1.1
 have hle := hf.le
 have hfl : first ≤ last := by omega
 have K42 := rwrong42 first n prot h1 h2 W
 rw [hpo] at K42
 have K43 := rwithout43 (.slice am nm pm) (.slice ac nc pc) (.slice ap ps.length pp) bs first n last ps W ⟨_, _, _, rfl⟩ ⟨_, _, _, rfl⟩ (hsl.2.2.keep hb) (by omega) hpn hpp.1 (by omega) hla
 rw [outM_eq hf.sp hfl] at K43
 have hcl := cut_len hf.sp hfl
 obtain ⟨pr, hpr⟩ : ∃ z, z = lo ps first ++ hi ps last := ⟨_, rfl⟩
 rw [← hpr] at K43 hcl
 have hC := fit_clear hf.fq hw hrc (bs + first * 4096) (n * 4096) (by omega)
 have hlp : pr.length ≤ 256 := by omega
 have y0 : wrap64 (256 - (pr.length : Int)) = 256 - (pr.length : Int) := by unfold wrap64; omega
 have y1 : IntKind.u32.wrap (wrap64 (256 - (pr.length : Int))) = ((256 - pr.length : Nat) : Int) := by rw [y0, IntKind.wrap_u32]; omega
 have y2 : IntKind.u32.wrap (256 - (pr.length : Int)) = ((256 - pr.length : Nat) : Int) := by rw [IntKind.wrap_u32]; omega
 have y2' : (256 - (pr.length : Int)) % 4294967296 = ((256 - pr.length : Nat) : Int) := by omega
 clear y0
 have y3 : ¬ 256 - pr.length < n := by omega
 obtain ⟨rm, hrm⟩ : ∃ z, z = 256 - pr.length := ⟨_, rfl⟩
 rw [← hrm] at y1 y2 y2' y3
 obtain ⟨cnt, hcnt⟩ : ∃ z, z = last / 4 - first / 4 + 1 := ⟨_, rfl⟩
 have hks : ksM (added first prot n) n = kseq (first / 4) cnt := by
  have := ksM_added first n prot (n - 1) (by omega)
  rw [show n - 1 + 1 = n by omega] at this
  rw [this, hcnt, hla, show first + (n - 1) = first + n - 1 by omega]
 rw [hks]
 obtain ⟨zl, hzl⟩ : ∃ z, z = clearN cs (bs + first * 4096) (n * 4096) := ⟨_, rfl⟩
 obtain ⟨zp, hzp⟩ : ∃ z, z = lo ps first ++ added first prot n ++ hi ps last := ⟨_, rfl⟩
 obtain ⟨zm, hzm⟩ : ∃ z, z = msF ps bs ms (kseq (first / 4) cnt) := ⟨_, rfl⟩
 rw [← hzl, ← hzp, ← hzm]
 rw [← hzl] at hC
 have HZ : Hid (zm = msF ps bs ms (kseq (first / 4) cnt)) := hzm
 have HF : Hid (FitG ms cs ps bs) := hf
 have HWO : Hid (Words cs) := hw
 have HRC : Hid (∀ y ∈ cs, y.1 < 18446744073709551616) := hrc
 have HPN : Hid (∀ y ∈ ps, y.1 < 4294967296) := hpn
 have HCL : Hid (zl = rclearL (bs + first * 4096) (n * 4096) cs) := by show _ = _; rw [hzl, rclear_eq hf.fq hw hrc _ _ (by omega)]
 have HP : Hid (n ≠ 0 ∧ first + n ≤ 1048576 ∧ last = first + n - 1 ∧ cnt = last / 4 - first / 4 + 1 ∧ pr = lo ps first ++ hi ps last ∧ zp = lo ps first ++ added first prot n ++ hi ps last ∧ pr.length + n ≤ 256) := ⟨hpp.1, hpp.2, hla, hcnt, hpr, hzp, by omega⟩
 have HS : Hid (W.heap.size = w.heap.size + 2) := hsz
 obtain ⟨fa, hfa'⟩ : ∃ z, z = first * 4096 := ⟨_, rfl⟩
 obtain ⟨fb, hfb⟩ : ∃ z, z = bs + fa := ⟨_, rfl⟩
 obtain ⟨nb, hnb⟩ : ∃ z, z = n * 4096 := ⟨_, rfl⟩
 have hfa : fa < 4294967296 := by omega
 have HNB : Hid (fb = bs + first * 4096 ∧ nb = n * 4096 ∧ fb < 18446744073709551616 ∧ nb < 18446744073709551616) := ⟨by omega, hnb, by omega, by omega⟩
 have v1 : IntKind.u32.wrap ((first : Int) * 4096) = (fa : Int) := by rw [IntKind.wrap_u32]; omega
 have v2 : ((first : Int) * 4096) % 4294967296 = (fa : Int) := by omega
 have v3 : IntKind.u64.wrap (n : Int) = (n : Int) := by rw [IntKind.wrap_u64]; omega
 have v4 : IntKind.u64.wrap ((n : Int) * 4096) = (nb : Int) := by rw [IntKind.wrap_u64]; omega
 obtain ⟨fn, hfn⟩ : ∃ z, z = first + n := ⟨_, rfl⟩
 have s1 : IntKind.u32.wrap ((first : Int) + (n : Int)) = (fn : Int) := by rw [IntKind.wrap_u32]; omega
 have s1' : ((first : Int) + (n : Int)) % 4294967296 = (fn : Int) := by omega
 have s2 : IntKind.u32.wrap ((fn : Int) - 1) = (last : Int) := by rw [IntKind.wrap_u32]; omega
 have s2' : ((fn : Int) - 1) % 4294967296 = (last : Int) := by omega
 have hl4 : last < 4294967296 := by omega
 obtain ⟨hl, hhl⟩ : ∃ z, z = hp bs (last / 4) := ⟨_, rfl⟩
 have HHL : Hid (hl = hp bs (last / 4) ∧ hl < 9000000000000000000) := ⟨hhl, by rw [hhl]; unfold hp; omega⟩
 have KC : Hid (∀ vx mx w', Sl .i64 w' vx mx → Sl .u64 w' (.slice ac nc pc) cs → Calls Tryz.prog 58 #[.agg #[vx, .slice ac nc pc], .int .u64 (fb : Int), .int .u64 (nb : Int)] w' fun e w'' => ∃ vc', e = .returned (.agg #[vx, vc']) ∧ w''.ownsRow w'.heap.size 82 2 vc' zl.length (rowOf .u64 zl) ∧ Below w'.heap.size w' w'') := fun vx mx w' q1 q2 => by
  have h8 : ∀ y ∈ cs, y.1 + 7 < 18446744073709551616 := fun y hy => by have := HRC.out y hy; have := (HF.out.fq.2.2.2.2.2 y hy).1; omega
  have k := rclear25 vx (.slice ac nc pc) mx cs fb nb w' q1 q2 (Nat.le_trans HF.out.fq.2.1 (by decide)) HWO.out h8 HNB.out.2.2.1 HNB.out.2.2.2
  rw [HNB.out.1, HNB.out.2.1, ← HCL.out] at k
  rw [HNB.out.1, HNB.out.2.1]
  exact k
 clear x4 hsl hpn hpo hp1 hpp hf hw hrc hla hfl hcl hpr hsz hroom hrm hcnt hks hzl hzp hzm hC hfa' hnb hfn hhl h2'
 go_enter Tryz.func32, Tryz.ntmps32
 go_wp2_with fail
 refine K42.mono ?_
 rintro e w0 ⟨rfl, h00⟩
 subst h00
 clear K42
 go_wp2_with fail
 refine K43.mono ?_
 rintro e w2 ⟨vq, rfl, hoq, hb2⟩
 obtain ⟨aq, nq, pq, rfl⟩ := own_shape hoq
 obtain rfl : nq = pr.length := by obtain ⟨_, _, e, _⟩ := Pg.own_sl hoq; cases e; rfl
 clear K43
 have c0 := keep_cell hb2 c0
 have c1 := keep_cell hb2 c1
 have c2 := keep_cell hb2 c2
 have c3 := keep_cell hb2 c3
 obtain ⟨W3, hW3, hb3, hsz3, l0, l1, lf0, lf1⟩ := box2 w2 (.slice am nm pm) (.slice ac nc pc) 25
 have hbw := below_tr (below_tr hb hb2) hb3
 have b23 := below_tr hb2 hb3
 have hs2 := hb2.size
 have hws := HS.out
 have HM : Hid (MpI w.heap.size w2.heap.size w W3 bs (.slice am nm pm) (.slice ac nc pc) (.slice ap ps.length pp) (.slice aq pr.length pq) (.slice am nm pm) cs ps pr ms) := by
  have hB : ∀ k, BM w.heap.size w2.heap.size k → w.heap.size ≤ k := fun k h => by rcases h with h | h <;> omega
  exact ⟨keep_cell hb3 c0, keep_cell hb3 c1, keep_cell hb3 c2, keep_cell hb3 c3, l0, l1, ⟨⟨_, l0⟩, lf0⟩, ⟨⟨_, l1⟩, lf1⟩, h0.keep b23, h1'.keep b23, h3.keep b23, g0.keep b23, g1.keep b23, g2.keep b23, g3.keep b23, St.arg HSL.out.1 hbw hB, St.arg HSL.out.2.1 hbw hB, fun w' o => by
   obtain ⟨ao, cap, e, q1, q2, q3, q4⟩ := Pg.own_sl hoq
   refine ⟨ao, cap, e, q1, q2, q3, fun i hi => ?_⟩
   obtain ⟨b, o', e1, d0, d1⟩ := q4 i hi
   have hge := own_ge hoq b (by rw [e, e1]; simp [Value.ownBlock])
   have hlt : b < w2.heap.size := World.block_lt_of_cell? w2 _ d0
   have hnB : ¬ BM w.heap.size w2.heap.size b := fun hB => by rcases hB with hB | hB <;> omega
   exact ⟨b, o', e1, o.cell hnB (keep_cell hb3 d0), o.cell hnB (keep_cell hb3 d1)⟩, StP.arg HSL.out.2.2 hbw hB, hbw, by omega, by omega⟩
 obtain ⟨hb_, hhb⟩ : ∃ z, z = w2.heap.size := ⟨_, rfl⟩
 rw [← hhb] at HM
 have u0 := HM.out.c0
 have u1 := HM.out.c1
 have u2 := HM.out.c2
 have u3 := HM.out.c3
 have hf4 := h1
 clear hoq g0 g1 g2 g3 h0 h1' h3 l0 l1 lf0 lf1 hsz3 hbw b23 hs2 hws hb2 hb3
 go_wp2_with fail
 refine (rhostPage44 _ _ _ bs first hle hf4 W3 ⟨_, _, _, rfl⟩ ⟨_, _, _, rfl⟩ ⟨_, _, _, rfl⟩).mono ?_
 rintro e w4 ⟨rfl, hb4⟩
 have HM4 : Hid (MpI w.heap.size hb_ w w4 bs (.slice am nm pm) (.slice ac nc pc) (.slice ap ps.length pp) (.slice aq pr.length pq) (.slice am nm pm) cs ps pr ms) := HM.out.keep hb4
 rw [← hhb]
 clear HM hb4 u0 u1 u2 u3 c0 c1 c2 c3 hW3 hhb
 go_wp2
 go_loopw [12] (fun q wr => ∃ (j : Nat) (vmr : Value), j ≤ cnt ∧ q = .int .u64 ((hp bs (first / 4 + j) : Nat) : Int) ∧ (∃ a b c, vmr = .slice a b c) ∧ MsI ps bs ms cs (kseq (first / 4) j) ∧ MpI w.heap.size hb_ w wr bs (.slice am nm pm) (.slice ac nc pc) (.slice ap ps.length pp) (.slice aq pr.length pq) vmr cs ps pr (msF ps bs ms (kseq (first / 4) j))) (fun q _ => hp bs (first / 4 + cnt) - (intOf q).toNat)
 case atStart => exact ⟨0, _, Nat.zero_le _, by rw [Nat.add_zero], ⟨_, _, _, rfl⟩, msI_nil HF.out.fq, HM4.out⟩
 case round =>
  obtain ⟨j, vmr, hj, rfl, ⟨xa, xb, xc, rfl⟩, hMs, hM⟩ := hrel
  clear HM4
  have HMS : Hid (MsI ps bs ms cs (kseq (first / 4) j)) := hMs
  have HM : Hid (MpI w.heap.size hb_ w wr bs (.slice am nm pm) (.slice ac nc pc) (.slice ap ps.length pp) (.slice aq pr.length pq) (.slice xa xb xc) cs ps pr (msF ps bs ms (kseq (first / 4) j))) := hM
  have t0 := hM.c0
  have t1 := hM.c1
  have t2 := hM.c2
  have t3 := hM.c3
  have HPJ : Hid (hp bs (first / 4 + j) = bs / 16384 + (first / 4 + j)) := rfl
  obtain ⟨pj, hpj⟩ : ∃ z, z = hp bs (first / 4 + j) := ⟨_, rfl⟩
  have HJ : Hid (pj = hp bs (first / 4 + j)) := hpj
  rw [← hpj]
  clear hpj hM hMs
  go_wp2_with fail
  refine (rhostPage44 _ _ _ bs last hle hl4 wr ⟨_, _, _, rfl⟩ ⟨_, _, _, rfl⟩ ⟨_, _, _, rfl⟩).mono ?_
  rintro e w5 ⟨rfl, hb5⟩
  rw [← HHL.out.1]
  have HM5 : Hid (MpI w.heap.size hb_ w w5 bs (.slice am nm pm) (.slice ac nc pc) (.slice ap ps.length pp) (.slice aq pr.length pq) (.slice xa xb xc) cs ps pr (msF ps bs ms (kseq (first / 4) j))) := HM.out.keep hb5
  have t0 := keep_cell hb5 t0
  have t1 := keep_cell hb5 t1
  have t2 := keep_cell hb5 t2
  have t3 := keep_cell hb5 t3
  clear HM hb5
  by_cases hjc : j < cnt
  ·have hle1 : pj ≤ hl := by have := HP.out.2.2.1; have := HP.out.1; have := HJ.out; have := HHL.out.1; have := HP.out.2.2.2.1; unfold hp at *; omega
   have hk4 : first / 4 + j < 262144 := by have := HP.out; omega
   have HV : Hid ((toK (first / 4 + j)).val = first / 4 + j) := toK_val hk4
   have K34 := rused34 (.slice am nm pm) (.slice ac nc pc) (.slice ap ps.length pp) bs pj ps w5 ⟨_, _, _, rfl⟩ ⟨_, _, _, rfl⟩ HM5.out.so.now hle HF.out.al (fun x hx => (HF.out.pg x hx).1)
   have hus : ps.any (fun x => hp bs (x.1 / 4) == pj) = usedN ps (first / 4 + j) := by
    rw [HJ.out]
    unfold usedN
    congr 1
    funext x
    rw [Bool.eq_iff_iff]
    simp only [beq_iff_eq]
    exact ⟨hp_inj, fun e => by rw [e]⟩
   rw [hus] at K34
   clear hus
   have x1 : IntKind.u64.wrap ((pj : Int) + 1) = ((hp bs (first / 4 + (j + 1)) : Nat) : Int) := by have := HJ.out; unfold hp at *; rw [IntKind.wrap_u64]; omega
   obtain ⟨pn, hpn⟩ : ∃ z, z = hp bs (first / 4 + (j + 1)) := ⟨_, rfl⟩
   rw [← hpn] at x1
   have HPN2 : Hid (pn = hp bs (first / 4 + (j + 1)) ∧ pn = pj + 1 ∧ pj < hp bs (first / 4 + cnt)) := ⟨hpn, by have := HJ.out; unfold hp at *; omega, by have := HJ.out; unfold hp at *; omega⟩
   clear hpn
   cases hu : usedN ps (first / 4 + j) with
   | true =>
    rw [hu] at K34
    obtain ⟨m1, m2⟩ := msI_used (k := toK (first / 4 + j)) HMS.out (by rw [HV.out]; exact hu)
    rw [← kseq_snoc] at m1 m2
    have HN : Hid (MsI ps bs ms cs (kseq (first / 4) (j + 1)) ∧ msF ps bs ms (kseq (first / 4) (j + 1)) = msF ps bs ms (kseq (first / 4) j)) := ⟨m1, m2⟩
    clear hu m1 m2 hk4
    go_wp2_with fail
    refine K34.mono ?_
    rintro e w6 ⟨rfl, hb6⟩
    have HM6 := HM5.out.keep hb6
    have HM6 : Hid _ := HM6
    clear K34 hb6 t0 t1 t2 t3
    go_wp2
    go_roundw
    case rel => exact ⟨j + 1, _, by omega, by rw [HPN2.out.1], ⟨_, _, _, rfl⟩, HN.out.1, by rw [HN.out.2]; exact HM6.out⟩
    case measure => have := HPN2.out; simp [intOf]; omega
   | false =>
    rw [hu] at K34
    have hmid := msI_free (k := toK (first / 4 + j)) HF.out.reach HMS.out (by rw [HV.out]; exact hu) (kseq_new hk4)
    rw [HV.out, ← HJ.out] at hmid
    have HMI : Hid (mid (msF ps bs ms (kseq (first / 4) j)) pj (pj + 1 - 1) = []) := hmid
    have hno : ∀ y ∈ msF ps bs ms (kseq (first / 4) j), y.1 < pj ∨ pj + 1 ≤ y.1 := fun y hy => by
     rcases Classical.em (y.1 < pj ∨ pj + 1 ≤ y.1) with c | c
     ·exact c
     ·exfalso
      have : y ∈ mid (msF ps bs ms (kseq (first / 4) j)) pj (pj + 1 - 1) := mid_mem.2 ⟨hy, by omega, by omega⟩
      rw [hmid] at this; cases this
    have HNO : Hid (∀ y ∈ msF ps bs ms (kseq (first / 4) j), y.1 < pj ∨ pj + 1 ≤ y.1) := hno
    have HU : Hid (usedN ps (first / 4 + j) = false) := hu
    have pok := hp_ok hle (toK (first / 4 + j))
    rw [HV.out, ← HJ.out] at pok
    have HRM : Hid (∀ y ∈ msF ps bs ms (kseq (first / 4) j), y.1 < 18446744073709551616) := fun y hy => Nat.lt_trans (HMS.out.1.2.2.2.2.1 y hy).1 (by decide)
    have K45 : Hid _ := pok
    clear hu hmid hno hk4 pok
    go_wp2_with fail
    refine K34.mono ?_
    rintro e w6 ⟨rfl, hb6⟩
    have HM6 : Hid (MpI w.heap.size hb_ w w6 bs (.slice am nm pm) (.slice ac nc pc) (.slice ap ps.length pp) (.slice aq pr.length pq) (.slice xa xb xc) cs ps pr (msF ps bs ms (kseq (first / 4) j))) := HM5.out.keep hb6
    have t0 := keep_cell hb6 t0
    have t1 := keep_cell hb6 t1
    have t2 := keep_cell hb6 t2
    have t3 := keep_cell hb6 t3
    have t4 := HM6.out.k0
    have t5 := HM6.out.k1
    clear K34 hb6 HM5
    by_cases hr64 : (msF ps bs ms (kseq (first / 4) j)).length + 1 ≤ 64
    ·have hnew := msI_new (k := toK (first / 4 + j)) hle HMS.out (by rw [HV.out]; exact HU.out) (by rw [HV.out, ← HJ.out]; exact HMI.out) hr64
     rw [← kseq_snoc] at hnew
     have hst : msF ps bs ms (kseq (first / 4) (j + 1)) = lo (msF ps bs ms (kseq (first / 4) j)) pj ++ added pj 3 1 ++ hi (msF ps bs ms (kseq (first / 4) j)) (pj + 1 - 1) := by rw [kseq_snoc, msF_snoc, stepB, HV.out, HU.out, ← HJ.out]; rfl
     have HN : Hid (MsI ps bs ms cs (kseq (first / 4) (j + 1)) ∧ msF ps bs ms (kseq (first / 4) (j + 1)) = lo (msF ps bs ms (kseq (first / 4) j)) pj ++ added pj 3 1 ++ hi (msF ps bs ms (kseq (first / 4) j)) (pj + 1 - 1)) := ⟨hnew.1, hst⟩
     clear hnew hst
     go_wp2_with fail
     refine (rmap15 _ _ (msF ps bs ms (kseq (first / 4) j)) pj 1 3 w6 HM6.out.sm.now ⟨_, _, _, rfl⟩ HMS.out.1.1 HRM.out K45.out (by decide) HMS.out.1.2.2.1 HNO.out hr64).mono ?_
     rintro e w7 ⟨vm7, rfl, ho7, hb7⟩
     obtain ⟨za, zb, zc, rfl⟩ := own_shape ho7
     rw [← HN.out.2] at ho7
     obtain ⟨W8, hW8, hb8, hsz8, q0, q1, _, _⟩ := box2 w7 (.slice za zb zc) (.slice ac nc pc) 25
     have hs6 := HM6.out.sz
     have hn6 := HM6.out.ne
     have M8 := (HM6.out.keep hb7).keep hb8
     have ho8 := own_keep ho7 hb8
     have p0 := M8.f0.cell
     have p1 := M8.f1.cell
     have p2 := M8.f0.frozen
     have p3 := M8.f1.frozen
     have M9 : Hid (MpI w.heap.size hb_ w ((W8.setCell ⟨hb_, 0, none⟩ (.slice za zb zc)).setCell ⟨hb_, 1, none⟩ (.slice ac nc pc)) bs (.slice am nm pm) (.slice ac nc pc) (.slice ap ps.length pp) (.slice aq pr.length pq) (.slice za zb zc) cs ps pr (msF ps bs ms (kseq (first / 4) (j + 1)))) := M8.set (St.own ho8 (fun k h => by rcases h with h | h <;> omega))
     clear M8 HM6 ho7 ho8 hb7 hb8 hs6 hn6 hsz8 hr64 t0 t1 t2 t3 t4 t5
     go_wp2
     go_roundw
     case rel => exact ⟨j + 1, _, by omega, by rw [HPN2.out.1], ⟨_, _, _, rfl⟩, HN.out.1, M9.out⟩
     case measure => have := HPN2.out; simp [intOf]; omega
    ·have hfull : 64 < (msF ps bs ms (kseq (first / 4) j)).length + 1 := by omega
     have HBIG : Hid (64 < zm.length) := by
      have hst : (msF ps bs ms (kseq (first / 4) (j + 1))).length = (msF ps bs ms (kseq (first / 4) j)).length + 1 := by
       rw [kseq_snoc, msF_snoc, stepB, HV.out, HU.out, ← HJ.out]
       have := congrArg List.length (parts _ HMS.out.1.2.2.1 pj (pj + 1 - 1) (by omega))
       rw [HMI.out] at this
       simp only [Bool.false_eq_true, if_false, List.length_append, added_len, List.length_nil] at this ⊢
       omega
      have hsrt : Srt (msF ps bs ms (kseq (first / 4) (j + 1))) := by rw [kseq_snoc, msF_snoc]; exact (stepB_mono _ HMS.out.1.2.2.1).1
      have happ : kseq (first / 4) cnt = kseq (first / 4) (j + 1) ++ (List.range (cnt - (j + 1))).map (fun i => toK (first / 4 + (j + 1) + i)) := by
       unfold kseq
       conv => lhs; rw [show cnt = (j + 1) + (cnt - (j + 1)) by omega, List.range_add, List.map_append, List.map_map]
       congr 1
       apply List.map_congr_left
       intro i _
       simp only [Function.comp]
       congr 1; omega
      have := msF_mono (ps := ps) (bs := bs) ((List.range (cnt - (j + 1))).map (fun i => toK (first / 4 + (j + 1) + i))) _ hsrt
      rw [← msF_app, ← happ, ← HZ.out] at this
      show 64 < zm.length
      omega
     clear hr64
     go_wp2_with fail
     refine (rmap15_full _ _ (msF ps bs ms (kseq (first / 4) j)) pj 1 3 w6 HM6.out.sm.now ⟨_, _, _, rfl⟩ HMS.out.1.1 HRM.out K45.out (by decide) HNO.out hfull).mono ?_
     rintro e w7 ⟨rfl, hb7⟩
     obtain ⟨W8, hW8, hb8, hsz8, q0, q1, _, _⟩ := box2 w7 (.slice xa xb xc) (.slice ac nc pc) 25
     have M8 := (HM6.out.keep hb7).keep hb8
     have t0 := M8.c0
     have t1 := M8.c1
     have t2 := M8.c2
     have t3 := M8.c3
     have G0 := M8.r0
     have G1 := M8.r1
     have G2 := M8.r2
     have G3 := M8.r3
     have hbw := M8.bel
     clear M8 HM6 hb7 hb8 hsz8 hfull t4 t5
     have q0 := G0.cell
     have q1 := G1.cell
     have q2 := G2.cell
     have q3 := G3.cell
     have q4 := G0.frozen
     have q5 := G1.frozen
     have q6 := G2.frozen
     have q7 := G3.frozen
     have HB : Hid (Below w.heap.size w ((((W8.setCell ⟨w.heap.size + 1, 0, none⟩ (.slice am nm pm)).setCell ⟨w.heap.size + 1, 1, none⟩ (.slice ac nc pc)).setCell ⟨w.heap.size + 1, 2, none⟩ (.int .u64 (bs : Int))).setCell ⟨w.heap.size + 1, 3, none⟩ (.slice ap ps.length pp))) := below_set (below_set (below_set (below_set hbw (by simp) _) (by simp) _) (by simp) _) (by simp) _
     go_wp2
     (try simp only [Exit.inBlock, Exit.then])
     obtain ⟨r0, r1, r2, r3⟩ := resG4 W8 (w.heap.size + 1) (.slice am nm pm) (.slice ac nc pc) (.int .u64 (bs : Int)) (.slice ap ps.length pp) G0 G1 G2 G3
     refine bodyPost_ret (v := .tuple #[.agg #[(.slice am nm pm), (.slice ac nc pc), .int .u64 (bs : Int), (.slice ap ps.length pp)], .int .i64 105]) ?_ rfl (Or.inr ⟨HBIG.out, _, _, _, rfl, HSL.out.keep HB.out, HB.out⟩)
     rw [results_cell_tmp rfl]; simp [go_sem, r0, r1, r2, r3]
  ·obtain rfl : j = cnt := by omega
   have hgt : ¬ pj ≤ hl := by have := HP.out.2.2.1; have := HP.out.1; have := HJ.out; have := HHL.out.1; have := HP.out.2.2.2.1; unfold hp at *; omega
   have t4 := HM5.out.k0
   have t5 := HM5.out.k1
   rw [← HZ.out] at HM5
   have HSM : Hid (zm.length ≤ 64) := by have := HMS.out.1.1; rw [← HZ.out] at this; exact this
   clear hj hjc
   go_wp2
   obtain ⟨wz, hwz⟩ : ∃ z, z = w5 := ⟨_, rfl⟩
   rw [← hwz] at HM5 t0 t1 t2 t3 t4 t5 ⊢
   clear hwz
   have HM : Hid (MpI w.heap.size hb_ w wz bs (.slice am nm pm) (.slice ac nc pc) (.slice ap ps.length pp) (.slice aq pr.length pq) (.slice xa xb xc) cs ps pr zm) := HM5.out
   refine wp_region_slots_last (R := Ext) [⟨59, fun v _ => v = .agg #[.slice xa xb xc, .slice ac nc pc], fun _ _ _ _ h => h⟩, ⟨60, fun v _ => v = .agg #[.slice am nm pm, .slice ac nc pc, .int .u64 (bs : Int), .slice ap ps.length pp], fun _ _ _ _ h => h⟩, ⟨61, fun v _ => v = .int .u32 (first : Int), fun _ _ _ _ h => h⟩, ⟨62, fun v _ => v = .int .u32 (fa : Int), fun _ _ _ _ h => h⟩, ⟨63, fun v _ => v = .int .u64 (fb : Int), fun _ _ _ _ h => h⟩, ⟨64, fun v _ => v = .int .u32 (n : Int), fun _ _ _ _ h => h⟩, ⟨65, fun v _ => v = .int .u64 (n : Int), fun _ _ _ _ h => h⟩, ⟨66, fun v _ => v = .int .u64 (nb : Int), fun _ _ _ _ h => h⟩, ⟨67, fun v w' => ∃ a b c, v = .agg #[.slice xa xb xc, .slice a b c] ∧ w'.ownsRow wz.heap.size 82 2 (.slice a b c) zl.length (rowOf .u64 zl), fun v w' w'' hb ⟨a, b, c, e, h⟩ => ⟨a, b, c, e, own_keep h hb⟩⟩, ⟨68, fun v _ => v = .pointer (some ⟨w.heap.size, 0, none⟩), fun _ _ _ _ h => h⟩] _ 10 _ (by kernel_rfl) rfl (by kernel_rfl) rfl rfl rfl rfl (by kernel_rfl) (Below.drew (Below.refl _ _)) (fun _ _ _ h1 h2 => below_tr h1 h2) (fun QQ => ⟨?_, ?_, ?_, ?_, ?_, ?_, ?_, ?_, ?_, ?_, trivial⟩) (fun f wy hR hf A hA K hK => ?_)
   ·intro A wx hR hout hdep K hK
    have h11 : A.tmps[11]?.getD undef = .pointer (some ⟨hb_, 0, none⟩) := hout 11 (by kernel_rfl)
    refine if_yes (by kernel_rfl) ?_
    have t0 := keep_cell hR t0
    have t1 := keep_cell hR t1
    have t2 := keep_cell hR t2
    have t3 := keep_cell hR t3
    have t4 := keep_cell hR t4
    have t5 := keep_cell hR t5
    simp [go_sem, h11, t0, t1, t2, t3, t4, t5, v1, v2, v3, v4]
    exact hK.out _ _ (Below.refl _ _) rfl
   ·intro A wx hR hout hdep K hK
    have h4 : A.tmps[4]?.getD undef = .pointer (some ⟨w.heap.size, 0, none⟩) := hout 4 (by kernel_rfl)
    refine if_yes (by kernel_rfl) ?_
    have t0 := keep_cell hR t0
    have t1 := keep_cell hR t1
    have t2 := keep_cell hR t2
    have t3 := keep_cell hR t3
    have t4 := keep_cell hR t4
    have t5 := keep_cell hR t5
    simp [go_sem, h4, t0, t1, t2, t3, t4, t5, v1, v2, v3, v4]
    exact hK.out _ _ (Below.refl _ _) rfl
   ·intro A wx hR hout hdep K hK
    have h1 : A.tmps[1]?.getD undef = .int .u32 (first : Int) := hout 1 (by kernel_rfl)
    refine if_yes (by kernel_rfl) ?_
    simp [go_sem, h1, v1, v2, v3, v4]
    exact hK.out _ _ (Below.refl _ _) rfl
   ·intro A wx hR hout hdep K hK
    have h61 : A.tmps[61]?.getD undef = .int .u32 (first : Int) := hdep 61 (by kernel_rfl)
    refine if_yes (by kernel_rfl) ?_
    simp [go_sem, h61, v1, v2, v3, v4]
    exact hK.out _ _ (Below.refl _ _) rfl
   ·intro A wx hR hout hdep K hK
    have h60 : A.tmps[60]?.getD undef = .agg #[.slice am nm pm, .slice ac nc pc, .int .u64 (bs : Int), .slice ap ps.length pp] := hdep 60 (by kernel_rfl)
    have h62 : A.tmps[62]?.getD undef = .int .u32 (fa : Int) := hdep 62 (by kernel_rfl)
    refine if_yes (by kernel_rfl) ?_
    simp [go_sem, h60, h62, v1, v2, v3, v4]
    refine (rplace17 _ _ _ bs fa hle hfa wx ⟨_, _, _, rfl⟩ ⟨_, _, _, rfl⟩ ⟨_, _, _, rfl⟩).mono ?_
    rintro e wG ⟨rfl, hbG⟩
    rw [← hfb]
    exact hK.out _ _ hbG rfl
   ·intro A wx hR hout hdep K hK
    have h2 : A.tmps[2]?.getD undef = .int .u32 (n : Int) := hout 2 (by kernel_rfl)
    refine if_yes (by kernel_rfl) ?_
    simp [go_sem, h2, v1, v2, v3, v4]
    exact hK.out _ _ (Below.refl _ _) rfl
   ·intro A wx hR hout hdep K hK
    have h64 : A.tmps[64]?.getD undef = .int .u32 (n : Int) := hdep 64 (by kernel_rfl)
    refine if_yes (by kernel_rfl) ?_
    simp [go_sem, h64, v1, v2, v3, v4]
    exact hK.out _ _ (Below.refl _ _) rfl
   ·intro A wx hR hout hdep K hK
    have h65 : A.tmps[65]?.getD undef = .int .u64 (n : Int) := hdep 65 (by kernel_rfl)
    refine if_yes (by kernel_rfl) ?_
    simp [go_sem, h65, v1, v2, v3, v4]
    exact hK.out _ _ (Below.refl _ _) rfl
   ·intro A wx hR hout hdep K hK
    have h59 : A.tmps[59]?.getD undef = .agg #[.slice xa xb xc, .slice ac nc pc] := hdep 59 (by kernel_rfl)
    have h63 : A.tmps[63]?.getD undef = .int .u64 (fb : Int) := hdep 63 (by kernel_rfl)
    have h66 : A.tmps[66]?.getD undef = .int .u64 (nb : Int) := hdep 66 (by kernel_rfl)
    refine if_yes (by kernel_rfl) ?_
    simp [go_sem, h59, h63, h66, v1, v2, v3, v4]
    refine (KC.out _ _ wx (HM.out.keep hR).sm.now (HM.out.keep hR).sc.now).mono ?_
    rintro e wG ⟨vc', rfl, hoG, hbG⟩
    obtain ⟨a', b', c', rfl⟩ := own_shape hoG
    exact hK.out _ _ hbG ⟨a', b', c', rfl, own_base hoG hR.size⟩
   ·intro A wx hR hout hdep K hK
    have h4 : A.tmps[4]?.getD undef = .pointer (some ⟨w.heap.size, 0, none⟩) := hout 4 (by kernel_rfl)
    refine if_yes (by kernel_rfl) ?_
    simp [go_sem, h4, v1, v2, v3, v4]
    exact hK.out _ _ (Below.refl _ _) rfl

   obtain ⟨ya, yb, yc, hv67, ho67⟩ : ∃ a b c, f 67 = .agg #[.slice xa xb xc, .slice a b c] ∧ wy.ownsRow wz.heap.size 82 2 (.slice a b c) zl.length (rowOf .u64 zl) := hf 67 (by kernel_rfl)
   have hv68 : f 68 = .pointer (some ⟨w.heap.size, 0, none⟩) := hf 68 (by kernel_rfl)
   simp only [putSl, List.take_succ_cons, List.take_zero, Act.put, List.setIfInBounds_toArray, List.set_cons_zero, List.set_cons_succ, hv67, hv68] at hA
   subst hA
   have M1 := HM.out.keep hR
   have p0 := M1.h0.cell
   have p1 := M1.h1.cell
   have p2 := M1.h0.frozen
   have p3 := M1.h1.frozen
   have hs5 := HM.out.sz
   have hn5 := HM.out.ne
   obtain ⟨WA, hWA⟩ : ∃ z, (wy.setCell ⟨w.heap.size, 0, none⟩ (.slice xa xb xc)).setCell ⟨w.heap.size, 1, none⟩ (.slice ya yb yc) = z := ⟨_, rfl⟩
   have hgB : BM w.heap.size hb_ w.heap.size := Or.inl ⟨Nat.le_refl _, by omega⟩
   have oA : Oth (BM w.heap.size hb_) wy WA := by rw [← hWA]; exact (Oth.set 0 wy _ hgB).trans (Oth.set 1 _ _ hgB)
   have z0 : WA.cell? ⟨w.heap.size, 0, none⟩ = some (.slice xa xb xc) := by rw [← hWA, World.cell?_setCell_other _ _ _ _ (by simp)]; exact World.cell?_setCell_same _ _ _ M1.h0.cell
   have z1 : WA.cell? ⟨w.heap.size, 1, none⟩ = some (.slice ya yb yc) := by rw [← hWA]; exact World.cell?_setCell_same _ _ _ (M1.h1.set _ _).cell
   have z2 : WA.cell? ⟨w.heap.size, 2, none⟩ = some (.int .u64 (bs : Int)) := by rw [← hWA, World.cell?_setCell_other _ _ _ _ (by simp), World.cell?_setCell_other _ _ _ _ (by simp)]; exact M1.c2
   have Fs : ∀ {a : Addr}, Free wy a → Free WA a := fun h => by rw [← hWA]; exact (h.set _ _).set _ _
   have F3 := Fs M1.h3
   have R0 := Fs M1.r0
   have R1 := Fs M1.r1
   have R2 := Fs M1.r2
   have R3 := Fs M1.r3
   have SM := M1.sm.on oA
   have SC : St (BM w.heap.size hb_) WA .u64 (.slice ya yb yc) zl := (St.own ho67 (fun k h => by rcases h with h | h <;> omega)).on oA
   have SQ := M1.sq.on oA
   have hbA : Below w.heap.size w WA := by rw [← hWA]; exact below_set (below_set M1.bel (by simp) _) (by simp) _
   have hsA : hb_ + 1 ≤ WA.heap.size := Nat.le_trans M1.sz oA.1
   have HALL : Hid (St (BM w.heap.size hb_) WA .i64 (.slice xa xb xc) zm ∧ St (BM w.heap.size hb_) WA .u64 (.slice ya yb yc) zl ∧ StP (BM w.heap.size hb_) WA (.slice aq pr.length pq) pr ∧ w.heap.size + 2 ≤ hb_ ∧ hb_ + 1 ≤ WA.heap.size) := ⟨SM, SC, SQ, hn5, hsA⟩
   clear M1 HM HM5 SM SC SQ ho67 hv67 hv68 hf oA hgB hs5 hn5 hsA hR t0 t1 t2 t3 t4 t5 KC
   go_simp
   refine hK.out _ _ ?_
   clear hK K
   (try rw [hWA])
   clear hWA p0 p1 p2 p3 Fs
   have hprs : Srt pr ∧ (∀ y ∈ pr, y.1 < 4294967296) ∧ (∀ y ∈ pr, y.1 < first ∨ first + n ≤ y.1) := by
    have := HP.out
    rw [this.2.2.2.2.1]
    refine ⟨cut_srt HF.out.sp _ _ (by omega), fun y hy => HPN.out y (mem_cut.1 hy).1, fun y hy => by have := (mem_cut.1 hy).2; omega⟩
   have K47 := rwith47 (.slice aq pr.length pq) pr first n prot WA HALL.out.2.2.1.now hlp hprs.2.1 ⟨HP.out.1, HP.out.2.1⟩ hprs.1 hprs.2.2 HP.out.2.2.2.2.2.2
   have hzz : lo pr first ++ added first prot n ++ hi pr (first + n - 1) = zp := by
    have := HP.out
    rw [this.2.2.2.2.2.1, this.2.2.2.2.1, ← this.2.2.1, lo_cut (by omega), hi_cut (by omega)]
   rw [hzz] at K47
   clear hprs hzz
   go_wp2_with fail
   refine K47.mono ?_
   rintro e w7 ⟨vz, rfl, hoz, hb7⟩
   obtain ⟨na, nn, np', rfl⟩ := own_shape hoz
   clear K47
   have z0 := keep_cell hb7 z0
   have z1 := keep_cell hb7 z1
   have z2 := keep_cell hb7 z2
   have F3 := F3.keep hb7
   have R0 := R0.keep hb7
   have R1 := R1.keep hb7
   have R2 := R2.keep hb7
   have R3 := R3.keep hb7
   have qf := F3.frozen
   have qc := F3.cell
   have hb7w := hbA.trans (hb7.mono (by have := HALL.out.2.2.2; omega))
   obtain ⟨WB, hWB⟩ : ∃ z, w7.setCell ⟨w.heap.size, 3, none⟩ (.slice na nn np') = z := ⟨_, rfl⟩
   have oB : Oth (BM w.heap.size hb_) w7 WB := by rw [← hWB]; exact Oth.set 3 w7 _ (Or.inl ⟨Nat.le_refl _, by omega⟩)
   have o7 : Oth (BM w.heap.size hb_) WA WB := (Oth.of hb7).trans oB
   have e0 : WB.cell? ⟨w.heap.size, 0, none⟩ = some (.slice xa xb xc) := by rw [← hWB, World.cell?_setCell_other _ _ _ _ (by simp)]; exact z0
   have e1 : WB.cell? ⟨w.heap.size, 1, none⟩ = some (.slice ya yb yc) := by rw [← hWB, World.cell?_setCell_other _ _ _ _ (by simp)]; exact z1
   have e2 : WB.cell? ⟨w.heap.size, 2, none⟩ = some (.int .u64 (bs : Int)) := by rw [← hWB, World.cell?_setCell_other _ _ _ _ (by simp)]; exact z2
   have e3 : WB.cell? ⟨w.heap.size, 3, none⟩ = some (.slice na nn np') := by rw [← hWB]; exact World.cell?_setCell_same _ _ _ F3.cell
   have G0 : Free WB ⟨w.heap.size + 1, 0, none⟩ := by rw [← hWB]; exact R0.set _ _
   have G1 : Free WB ⟨w.heap.size + 1, 1, none⟩ := by rw [← hWB]; exact R1.set _ _
   have G2 : Free WB ⟨w.heap.size + 1, 2, none⟩ := by rw [← hWB]; exact R2.set _ _
   have G3 : Free WB ⟨w.heap.size + 1, 3, none⟩ := by rw [← hWB]; exact R3.set _ _
   have hbB : Below w.heap.size w WB := by rw [← hWB]; exact below_set hb7w (by simp) _
   have SP : StP (BM w.heap.size hb_) WB (.slice na nn np') zp := (StP.own hoz (fun k h => by have := HALL.out.2.2.2; rcases h with h | h <;> omega)).on oB
   have HSE : Hid (SlG ((((WB.setCell ⟨w.heap.size + 1, 0, none⟩ (.slice xa xb xc)).setCell ⟨w.heap.size + 1, 1, none⟩ (.slice ya yb yc)).setCell ⟨w.heap.size + 1, 2, none⟩ (.int .u64 (bs : Int))).setCell ⟨w.heap.size + 1, 3, none⟩ (.slice na nn np')) (.slice xa xb xc) (.slice ya yb yc) (.slice na nn np') zm zl zp) :=
    ⟨HALL.out.1 _ (o7.trans (oth_res _ _ _ _ _)), HALL.out.2.1 _ (o7.trans (oth_res _ _ _ _ _)), SP _ (oth_res _ _ _ _ _)⟩
   clear SP hoz oB o7 R0 R1 R2 R3 hb7w hb7 F3 hbA z0 z1 z2
   have q0 := G0.cell
   have q1 := G1.cell
   have q2 := G2.cell
   have q3 := G3.cell
   have q4 := G0.frozen
   have q5 := G1.frozen
   have q6 := G2.frozen
   have q7 := G3.frozen
   have HB : Hid (Below w.heap.size w ((((WB.setCell ⟨w.heap.size + 1, 0, none⟩ (.slice xa xb xc)).setCell ⟨w.heap.size + 1, 1, none⟩ (.slice ya yb yc)).setCell ⟨w.heap.size + 1, 2, none⟩ (.int .u64 (bs : Int))).setCell ⟨w.heap.size + 1, 3, none⟩ (.slice na nn np'))) := below_set (below_set (below_set (below_set hbB (by simp) _) (by simp) _) (by simp) _) (by simp) _
   go_wp2
   (try simp only [Exit.inBlock, Exit.then])
   obtain ⟨r0, r1, r2, r3⟩ := resG4 WB (w.heap.size + 1) (.slice xa xb xc) (.slice ya yb yc) (.int .u64 (bs : Int)) (.slice na nn np') G0 G1 G2 G3
   refine bodyPost_ret (v := .tuple #[.agg #[(.slice xa xb xc), (.slice ya yb yc), .int .u64 (bs : Int), (.slice na nn np')], .int .i64 0]) ?_ rfl (Or.inl ⟨HSM.out, _, _, _, rfl, HSE.out, HB.out⟩)
   rw [results_cell_tmp rfl]; simp [go_sem, r0, r1, r2, r3]
abbrev GRes := Int × List (Nat × Int) × List (Nat × Int) × List (Nat × Int)
def mapR (ms cs ps : List (Nat × Int)) (bs first n : Nat) (prot : Int) : GRes :=
 if (gpagesOk first n && protOk prot) = false then (22, ms, cs, ps) else if 256 < ps.length - (mid ps first (first + n - 1)).length + n then (12, ms, cs, ps)
 else if (msF ps bs ms (ksM (added first prot n) n)).length ≤ 64 then (0, msF ps bs ms (ksM (added first prot n) n), clearN cs (bs + first * 4096) (n * 4096), lo ps first ++ added first prot n ++ hi ps (first + n - 1)) else (105, ms, cs, ps)
def unmapR (ms cs ps : List (Nat × Int)) (bs first n : Nat) : GRes :=
 if gpagesOk first n = false then (22, ms, cs, ps) else (0, (rF (lo ps first ++ hi ps (first + n - 1)) bs (ms, clearN cs (bs + first * 4096) (n * 4096)) (ksM (mid ps first (first + n - 1)) (mid ps first (first + n - 1)).length)).1, (rF (lo ps first ++ hi ps (first + n - 1)) bs (ms, clearN cs (bs + first * 4096) (n * 4096)) (ksM (mid ps first (first + n - 1)) (mid ps first (first + n - 1)).length)).2, lo ps first ++ hi ps (first + n - 1))
def protR (ms cs ps : List (Nat × Int)) (first n : Nat) (prot : Int) : GRes :=
 if (gpagesOk first n && protOk prot) = false then (22, ms, cs, ps) else (if (mid ps first (first + n - 1)).length = n then 0 else 12, ms, cs, if (mid ps first (first + n - 1)).length = n then protL first (first + n - 1) prot ps else ps)
def GTold (R : GRes) (bs : Nat) (w : World) (e : Ending) (w' : World) : Prop := ∃ am nm pm ac nc pc ap np pp, e = .returned (.tuple #[.agg #[.slice am nm pm, .slice ac nc pc, .int .u64 (bs : Int), .slice ap np pp], .int .i64 R.1]) ∧ SlG w' (.slice am nm pm) (.slice ac nc pc) (.slice ap np pp) R.2.1 R.2.2.1 R.2.2.2 ∧ Below w.heap.size w w'
theorem told_of {F : Nat} {args : Array Value} {bs : Nat} {w : World} {c : Int} {m k p : List (Nat × Int)} (h : Calls Tryz.prog F args w fun e w' => ∃ vm' vc' vp', e = .returned (.tuple #[.agg #[vm', vc', .int .u64 (bs : Int), vp'], .int .i64 c]) ∧ SlG w' vm' vc' vp' m k p ∧ Below w.heap.size w w') : Calls Tryz.prog F args w (GTold (c, m, k, p) bs w) :=
 h.mono (fun e w' ⟨vm', vc', vp', he, hs, hb⟩ => by
  obtain ⟨am, nm, pm, ac, nc, pc, ap, np, pp, rfl, rfl, rfl⟩ := hs.shape
  exact ⟨_, _, _, _, _, _, _, _, _, he, hs, hb⟩)
theorem sl_of {F : Nat} {args : Array Value} {bs : Nat} {w : World} {c : Int} {m k p : List (Nat × Int)} (h : Calls Tryz.prog F args w fun e w' => ∃ vm' vc' vp', e = .returned (.tuple #[.agg #[vm', vc', .int .u64 (bs : Int), vp'], .int .i64 c]) ∧ OwnG w.heap.size w' vm' vc' vp' m k p ∧ Below w.heap.size w w') : Calls Tryz.prog F args w (GTold (c, m, k, p) bs w) :=
 told_of (h.mono (fun e w' ⟨vm', vc', vp', he, ho, hb⟩ => ⟨vm', vc', vp', he, ho.sl, hb⟩))
theorem told18 (vm vc vp : Value) (ms cs ps : List (Nat × Int)) (bs first n : Nat) (prot : Int) (w : World) (hsl : SlG w vm vc vp ms cs ps) (hrc : ∀ y ∈ cs, y.1 < 18446744073709551616) (hw : Words cs) (h1 : first < 4294967296) (h2 : n < 4294967296) (hf : FitG ms cs ps bs) : Calls Tryz.prog 29 #[.agg #[vm, vc, .int .u64 (bs : Int), vp], .int .u32 (first : Int), .int .u32 (n : Int), .int .i64 prot] w (GTold (mapR ms cs ps bs first n prot) bs w) := by
 have lm := hf.fq.1
 have lc := hf.fq.2.1
 have lp := hf.lp
 have hpn : ∀ y ∈ ps, y.1 < 4294967296 := fun y hy => Nat.lt_trans (hf.pg y hy).1 (by decide)
 unfold mapR
 cases hp : (gpagesOk first n && protOk prot) with
 | false => rw [if_pos rfl]; exact sl_of (gmap18_inval vm vc vp ms cs ps bs first n prot w hsl lm lc lp h1 h2 hp)
 | true =>
 rw [if_neg (by simp)]
 by_cases hroom : 256 < ps.length - (mid ps first (first + n - 1)).length + n
 ·rw [if_pos hroom]; exact sl_of (gmap18_mem vm vc vp ms cs ps bs first n prot w hsl lm lc lp h1 h2 hf.sp hf.fq hw hrc hf.le _ rfl hp (by omega) hf.reach)
 ·rw [if_neg hroom]
  have k := gmap18 vm vc vp ms cs ps bs first n prot w hsl lm lc lp h1 h2 hf.sp hf.fq hw hrc hf.le _ rfl hp (by omega) hf.reach
  by_cases hl : (msF ps bs ms (ksM (added first prot n) n)).length ≤ 64
  ·rw [if_pos hl]
   exact sl_of (k.mono (fun e w' g => by rcases g with ⟨_, g⟩ | ⟨g, _⟩; exact g; omega))
  ·rw [if_neg hl]
   exact sl_of (k.mono (fun e w' g => by rcases g with ⟨g, _⟩ | ⟨_, g⟩; omega; exact g))
theorem told19 (vm vc vp : Value) (ms cs ps : List (Nat × Int)) (bs first n : Nat) (prot : Int) (w : World) (hsl : SlG w vm vc vp ms cs ps) (hrc : ∀ y ∈ cs, y.1 < 18446744073709551616) (hw : Words cs) (h1 : first < 4294967296) (h2 : n < 4294967296) (hf : FitG ms cs ps bs) : Calls Tryz.prog 32 #[.agg #[vm, vc, .int .u64 (bs : Int), vp], .int .u32 (first : Int), .int .u32 (n : Int), .int .i64 prot] w (GTold (mapR ms cs ps bs first n prot) bs w) := by
 have lm := hf.fq.1
 have lc := hf.fq.2.1
 have lp := hf.lp
 have hpn : ∀ y ∈ ps, y.1 < 4294967296 := fun y hy => Nat.lt_trans (hf.pg y hy).1 (by decide)
 unfold mapR
 cases hp : (gpagesOk first n && protOk prot) with
 | false => rw [if_pos rfl]; exact told_of (rmap19_inval vm vc vp ms cs ps bs first n prot w hsl lp hpn h1 h2 hp)
 | true =>
 rw [if_neg (by simp)]
 by_cases hroom : 256 < ps.length - (mid ps first (first + n - 1)).length + n
 ·rw [if_pos hroom]; exact told_of (rmap19_mem vm vc vp ms cs ps bs first n prot w hsl lp hpn h1 h2 hw hrc hf _ rfl hp hroom)
 ·rw [if_neg hroom]
  have k := rmap19 vm vc vp ms cs ps bs first n prot w hsl lp hpn h1 h2 hw hrc hf _ rfl hp (by omega)
  by_cases hl : (msF ps bs ms (ksM (added first prot n) n)).length ≤ 64
  ·rw [if_pos hl]
   exact told_of (k.mono (fun e w' g => by rcases g with ⟨_, g⟩ | ⟨g, _⟩; exact g; omega))
  ·rw [if_neg hl]
   exact told_of (k.mono (fun e w' g => by rcases g with ⟨g, _⟩ | ⟨_, g⟩; omega; exact g))
theorem told20 (vm vc vp : Value) (ms cs ps : List (Nat × Int)) (bs first n : Nat) (prot : Int) (w : World) (hsl : SlG w vm vc vp ms cs ps) (hrc : ∀ y ∈ cs, y.1 < 18446744073709551616) (hw : Words cs) (h1 : first < 4294967296) (h2 : n < 4294967296) (hf : FitG ms cs ps bs) : Calls Tryz.prog 33 #[.agg #[vm, vc, .int .u64 (bs : Int), vp], .int .u32 (first : Int), .int .u32 (n : Int)] w (GTold (unmapR ms cs ps bs first n) bs w) := by
 have lm := hf.fq.1
 have lc := hf.fq.2.1
 have lp := hf.lp
 have hpn : ∀ y ∈ ps, y.1 < 4294967296 := fun y hy => Nat.lt_trans (hf.pg y hy).1 (by decide)
 unfold unmapR
 cases hp : gpagesOk first n with
 | false => rw [if_pos rfl]; exact sl_of (gunmap20_inval vm vc vp ms cs ps bs first n w hsl lm lc lp h1 h2 hp)
 | true =>
 have hp2 : n ≠ 0 ∧ first + n ≤ 1048576 := by simpa [gpagesOk] using hp
 have hC := fit_clear hf.fq hw hrc (bs + first * 4096) (n * 4096) (by have := hf.le; omega)
 rw [if_neg (by simp)]
 exact sl_of (gunmap20 vm vc vp ms cs ps bs first n w hsl lm lc lp h1 h2 hf.sp hf.fq hw hrc hf.le _ rfl (fun x hx => (hf.pg x hx).1) hC.1 hp)
theorem told21 (vm vc vp : Value) (ms cs ps : List (Nat × Int)) (bs first n : Nat) (prot : Int) (w : World) (hsl : SlG w vm vc vp ms cs ps) (hrc : ∀ y ∈ cs, y.1 < 18446744073709551616) (hw : Words cs) (h1 : first < 4294967296) (h2 : n < 4294967296) (hf : FitG ms cs ps bs) : Calls Tryz.prog 34 #[.agg #[vm, vc, .int .u64 (bs : Int), vp], .int .u32 (first : Int), .int .u32 (n : Int)] w (GTold (unmapR ms cs ps bs first n) bs w) := by
 have lm := hf.fq.1
 have lc := hf.fq.2.1
 have lp := hf.lp
 have hpn : ∀ y ∈ ps, y.1 < 4294967296 := fun y hy => Nat.lt_trans (hf.pg y hy).1 (by decide)
 unfold unmapR
 cases hp : gpagesOk first n with
 | false => rw [if_pos rfl]; exact told_of (runmap21_inval vm vc vp ms cs ps bs first n w hsl lp hpn h1 h2 (by rw [hp]; rfl))
 | true =>
 rw [if_neg (by simp)]
 exact told_of (runmap21 vm vc vp ms cs ps bs first n w hsl lp hpn h1 h2 hw hrc hf _ rfl hp)
theorem told22 (vm vc vp : Value) (ms cs ps : List (Nat × Int)) (bs first n : Nat) (prot : Int) (w : World) (hsl : SlG w vm vc vp ms cs ps) (hrc : ∀ y ∈ cs, y.1 < 18446744073709551616) (hw : Words cs) (h1 : first < 4294967296) (h2 : n < 4294967296) (hf : FitG ms cs ps bs) : Calls Tryz.prog 35 #[.agg #[vm, vc, .int .u64 (bs : Int), vp], .int .u32 (first : Int), .int .u32 (n : Int), .int .i64 prot] w (GTold (protR ms cs ps first n prot) bs w) := by
 have lm := hf.fq.1
 have lc := hf.fq.2.1
 have lp := hf.lp
 have hpn : ∀ y ∈ ps, y.1 < 4294967296 := fun y hy => Nat.lt_trans (hf.pg y hy).1 (by decide)
 unfold protR
 cases hp : (gpagesOk first n && protOk prot) with
 | false => rw [if_pos rfl]; exact sl_of (gprotect22_inval vm vc vp ms cs ps bs first n prot w hsl lm lc lp h1 h2 hp)
 | true =>
 rw [if_neg (by simp)]
 by_cases hno : (mid ps first (first + n - 1)).length = n
 ·rw [if_pos hno, if_pos hno]; exact sl_of (gprotect22_ok vm vc vp ms cs ps bs first n prot w hsl lm lc lp h1 h2 hf.sp _ rfl hno hp)
 ·rw [if_neg hno, if_neg hno]; exact sl_of (gprotect22_none vm vc vp ms cs ps bs first n prot w hsl lm lc lp h1 h2 hf.sp _ rfl hno hp)
theorem told23 (vm vc vp : Value) (ms cs ps : List (Nat × Int)) (bs first n : Nat) (prot : Int) (w : World) (hsl : SlG w vm vc vp ms cs ps) (hrc : ∀ y ∈ cs, y.1 < 18446744073709551616) (hw : Words cs) (h1 : first < 4294967296) (h2 : n < 4294967296) (hf : FitG ms cs ps bs) : Calls Tryz.prog 36 #[.agg #[vm, vc, .int .u64 (bs : Int), vp], .int .u32 (first : Int), .int .u32 (n : Int), .int .i64 prot] w (GTold (protR ms cs ps first n prot) bs w) := by
 have lm := hf.fq.1
 have lc := hf.fq.2.1
 have lp := hf.lp
 have hpn : ∀ y ∈ ps, y.1 < 4294967296 := fun y hy => Nat.lt_trans (hf.pg y hy).1 (by decide)
 unfold protR
 cases hp : (gpagesOk first n && protOk prot) with
 | false => rw [if_pos rfl]; exact told_of (rprotect23_inval vm vc vp ms cs ps bs first n prot w hsl lp hpn h1 h2 hp)
 | true =>
 rw [if_neg (by simp)]
 exact told_of (rprotect23 vm vc vp ms cs ps bs first n prot w hsl lp hpn h1 h2 hf.sp _ rfl hp)
def RFit (R : GRes) (bs : Nat) : Prop := FitG R.2.1 R.2.2.1 R.2.2.2 bs ∧ Words R.2.2.1 ∧ ∀ y ∈ R.2.2.1, y.1 < 18446744073709551616
theorem rfit_same {ms cs ps : List (Nat × Int)} {bs : Nat} {c : Int} (hf : FitG ms cs ps bs) (hw : Words cs) (hrc : ∀ y ∈ cs, y.1 < 18446744073709551616) : RFit (c, ms, cs, ps) bs := ⟨hf, hw, hrc⟩
theorem mapR_fit {ms cs ps : List (Nat × Int)} {bs : Nat} (first n : Nat) (prot : Int) (hf : FitG ms cs ps bs) (hw : Words cs) (hrc : ∀ y ∈ cs, y.1 < 18446744073709551616) : RFit (mapR ms cs ps bs first n prot) bs := by
 unfold mapR
 cases hp : (gpagesOk first n && protOk prot) with
 | false => rw [if_pos rfl]; exact rfit_same hf hw hrc
 | true =>
 have hp1 : gpagesOk first n = true ∧ protOk prot = true := by simpa using hp
 have hp2 : n ≠ 0 ∧ first + n ≤ 1048576 := by simpa [gpagesOk] using hp1.1
 have hC := fit_clear hf.fq hw hrc (bs + first * 4096) (n * 4096) (by have := hf.le; omega)
 rw [if_neg (by simp)]
 by_cases hroom : 256 < ps.length - (mid ps first (first + n - 1)).length + n
 ·rw [if_pos hroom]; exact rfit_same hf hw hrc
 ·rw [if_neg hroom]
  by_cases hl : (msF ps bs ms (ksM (added first prot n) n)).length ≤ 64
  ·rw [if_pos hl]; exact ⟨fitG_map hf hw hrc hp2.1 hp2.2 hp1.2 (by omega) hl, hC.2.1, hC.2.2⟩
  ·rw [if_neg hl]; exact rfit_same hf hw hrc
theorem unmapR_fit {ms cs ps : List (Nat × Int)} {bs : Nat} (first n : Nat) (hf : FitG ms cs ps bs) (hw : Words cs) (hrc : ∀ y ∈ cs, y.1 < 18446744073709551616) : RFit (unmapR ms cs ps bs first n) bs := by
 unfold unmapR
 cases hp : gpagesOk first n with
 | false => rw [if_pos rfl]; exact rfit_same hf hw hrc
 | true =>
 have hp2 : n ≠ 0 ∧ first + n ≤ 1048576 := by simpa [gpagesOk] using hp
 have hC := fit_clear hf.fq hw hrc (bs + first * 4096) (n * 4096) (by have := hf.le; omega)
 have hsb := (rF_sub (ps := lo ps first ++ hi ps (first + n - 1)) (bs := bs) (ksM (mid ps first (first + n - 1)) (mid ps first (first + n - 1)).length) (ms, clearN cs (bs + first * 4096) (n * 4096)) hf.fq.2.2.1 hC.1.2.2.2.1).2
 rw [if_neg (by simp)]
 exact ⟨fitG_unmap hf hw hrc hp2.1 hp2.2 _ (fun x hx => ksM_of hx), words_sub hC.2.1 hsb, fun y hy => hC.2.2 y (hsb.subset hy)⟩
theorem protR_fit {ms cs ps : List (Nat × Int)} {bs : Nat} (first n : Nat) (prot : Int) (hf : FitG ms cs ps bs) (hw : Words cs) (hrc : ∀ y ∈ cs, y.1 < 18446744073709551616) : RFit (protR ms cs ps first n prot) bs := by
 unfold protR
 cases hp : (gpagesOk first n && protOk prot) with
 | false => rw [if_pos rfl]; exact rfit_same hf hw hrc
 | true =>
 have hp1 : gpagesOk first n = true ∧ protOk prot = true := by simpa using hp
 rw [if_neg (by simp)]
 by_cases hno : (mid ps first (first + n - 1)).length = n
 ·rw [if_pos hno, if_pos hno]; exact ⟨fitG_prot hf hp1.2, hw, hrc⟩
 ·rw [if_neg hno, if_neg hno]; exact ⟨hf, hw, hrc⟩
end Go.Proofs.YtkpmkgkfpikpfaaGreat
