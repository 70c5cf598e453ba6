/- What is proved here: the guest's Map, Unmap, Protect. -/
import Derived.Test.YtkpmkgkfpikpfaaGreatGf
import Derived.Test.YtkpmkgkfpikpfaaGreatGadd
import Derived.Test.YtkpmkgkfpikpfaaGreatGrem
import Derived.Test.YtkpmkgkfpikpfaaGreatProtPlain
import Derived.Test.YtkpmkgkfpikpfaaGreatSmall
namespace Go.Proofs.YtkpmkgkfpikpfaaGreat
open Go.RowKit
set_option linter.unusedVariables false
set_option linter.unusedSimpArgs false
set_option maxRecDepth 100000
def SlG (w : World) (vm vc vp : Value) (ms cs ps : List (Nat × Int)) : Prop := Sl .i64 w vm ms ∧ Sl .u64 w vc cs ∧ Pg.Sl .i64 w vp ps
theorem SlG.keep {w w' : World} {vm vc vp : Value} {ms cs ps : List (Nat × Int)} (h : SlG w vm vc vp ms cs ps) (hb : Below w.heap.size w w') : SlG w' vm vc vp ms cs ps := ⟨h.1.keep hb, h.2.1.keep hb, h.2.2.keep hb⟩
theorem OwnG.sl {B : Nat} {w : World} {vm vc vp : Value} {ms cs ps : List (Nat × Int)} (h : OwnG B w vm vc vp ms cs ps) : SlG w vm vc vp ms cs ps := ⟨h.1.m, h.1.c, h.p⟩
theorem SlG.shape {w : World} {vm vc vp : Value} {ms cs ps : List (Nat × Int)} (h : SlG w vm vc vp ms cs ps) : ∃ am nm pm ac nc pc ap np pp, vm = .slice am nm pm ∧ vc = .slice ac nc pc ∧ vp = .slice ap np pp := by
 obtain ⟨a, p, h1, _⟩ := h.1
 obtain ⟨a', p', h2, _⟩ := h.2.1
 obtain ⟨a'', p'', h3, _⟩ := h.2.2
 exact ⟨_, _, _, _, _, _, _, _, _, h1, h2, h3⟩
theorem Wb.new (w : World) (x0 x1 x2 x3 : Value) : Wb (w.alloc (.cells #[x0, x1, x2, x3] 88)) w.heap.size x0 x1 x2 x3 := by
 show (w.heap.push _)[w.heap.size]? = _
 simp
theorem below_wb {w W w' : World} {wb : Nat} (h : Below w.heap.size w W) (hg : W.grownBy w' (some wb)) (hn : w.heap.size ≤ wb) : Below w.heap.size w w' := h.grown hg h.size (fun k e => by cases e; exact hn)
set_option maxHeartbeats 4000000 in
theorem gmap18_inval (vm vc vp : Value) (ms cs ps : List (Nat × Int)) (bs first n : Nat) (prot : Int) (w : World) (hsl : SlG w vm vc vp ms cs ps) (lm : ms.length ≤ 64) (lc : cs.length ≤ 65536) (lp : ps.length ≤ 256) (h1 : first < 4294967296) (h2 : n < 4294967296) (hp : (gpagesOk first n && protOk prot) = false) :
  Calls Tryz.prog 29 #[.agg #[vm, vc, .int .u64 (bs : Int), vp], .int .u32 (first : Int), .int .u32 (n : Int), .int .i64 prot] w fun e w' => ∃ vm' vc' vp', e = .returned (.tuple #[.agg #[vm', vc', .int .u64 (bs : Int), vp'], .int .i64 22]) ∧ OwnG w.heap.size w' vm' vc' vp' (ms) (cs) (ps) ∧ Below w.heap.size w w' := by
 obtain ⟨W, hW, hb, hsz, c0, c1, c2, c3, g0, g1, g2, g3⟩ := box44 w vm vc (.int .u64 (bs : Int)) vp (.slice none 0 0) (.slice none 0 0) (.int .u64 0) (.slice none 0 0) 29 29
 have K38 : Hid (∀ w', Calls Tryz.prog 51 #[.int .u32 (first : Int), .int .u32 (n : Int)] w' fun e w'' => e = .returned (.bool (gpagesOk first n)) ∧ w'' = w') := fun w' => garePages38 first n h1 h2 w'
 have K40 : Hid (∀ w', Below w.heap.size w w' → w.heap.size + 2 ≤ w'.heap.size → Calls Tryz.prog 47 #[.agg #[vm, vc, .int .u64 (bs : Int), vp]] w' fun e w'' => ∃ am nm pm ac nc pc ap np pp, e = .returned (.agg #[.slice am nm pm, .slice ac nc pc, .int .u64 (bs : Int), .slice ap np pp]) ∧ OwnG (w.heap.size + 2) w'' (.slice am nm pm) (.slice ac nc pc) (.slice ap np pp) ms cs ps ∧ Below w'.heap.size w' w'') := fun w' hb' hs' =>
  (gfresh40 vm vc vp bs ms cs ps w' (hsl.1.keep hb') (hsl.2.1.keep hb') (hsl.2.2.keep hb') (by omega) (by omega) (by omega)).mono (by
   rintro e w'' ⟨am, nm, pm, ac, nc, pc, ap, np, pp, rfl, ho, hb''⟩
   exact ⟨_, _, _, _, _, _, _, _, _, rfl, ho.base hs', hb''⟩)
 obtain ⟨xm, ym, zm, xc, yc, zc, xp, yp, zp, rfl, rfl, rfl⟩ := hsl.shape
 have K39 : Hid (∀ w', Calls Tryz.prog 52 #[.int .i64 prot] w' fun e w'' => e = .returned (.bool (protOk prot)) ∧ w'' = w') := fun w' => gisProt39 prot w'
 have HSZ : Hid (W.heap.size = w.heap.size + 2) := hsz
 clear hsl h1 h2 lm lc lp hsz
 cases h38 : gpagesOk first n with
 | false =>
  rw [h38] at K38
  clear hp h38
  go_enter Tryz.func29, Tryz.ntmps29
  go_wp2_with fail
  refine (K38.out W).mono ?_
  rintro e w1 ⟨rfl, hw1⟩
  subst hw1
  go_wp2_with fail
  refine (K40.out w1 hb (by have := HSZ.out; omega)).mono ?_
  rintro e w2 ⟨am, nm, pm, ac, nc, pc, ap, np, pp, rfl, ho, hb2⟩
  have G0 := g0.keep hb2
  have G1 := g1.keep hb2
  have G2 := g2.keep hb2
  have G3 := g3.keep hb2
  have hbw := below_tr hb hb2
  clear hb2 g0 g1 g2 g3
  have f0 := G0
  have f1 := G1
  have f2 := G2
  have f3 := G3
  have q0 := f0.cell
  have q1 := f1.cell
  have q2 := f2.cell
  have q3 := f3.cell
  have q4 := f0.frozen
  have q5 := f1.frozen
  have q6 := f2.frozen
  have q7 := f3.frozen
  have HEND : Hid (OwnG w.heap.size ((((w2.setCell ⟨w.heap.size + 1, 0, none⟩ (.slice am nm pm)).setCell ⟨w.heap.size + 1, 1, none⟩ (.slice ac nc pc)).setCell ⟨w.heap.size + 1, 2, none⟩ (.int .u64 (bs : Int))).setCell ⟨w.heap.size + 1, 3, none⟩ (.slice ap np pp)) (.slice am nm pm) (.slice ac nc pc) (.slice ap np pp) ms cs ps ∧ Below w.heap.size w ((((w2.setCell ⟨w.heap.size + 1, 0, none⟩ (.slice am nm pm)).setCell ⟨w.heap.size + 1, 1, none⟩ (.slice ac nc pc)).setCell ⟨w.heap.size + 1, 2, none⟩ (.int .u64 (bs : Int))).setCell ⟨w.heap.size + 1, 3, none⟩ (.slice ap np pp))) := ⟨res4_G (b := 0) ho (by omega) (by omega), below_set (below_set (below_set (below_set hbw (by simp) _) (by simp) _) (by simp) _) (by simp) _⟩
  clear ho hbw
  go_wp2
  (try simp only [Exit.inBlock, Exit.then])
  obtain ⟨r0, r1, r2, r3⟩ := resG4 w2 (w.heap.size + 1) (.slice am nm pm) (.slice ac nc pc) (.int .u64 (bs : Int)) (.slice ap np pp) f0 f1 f2 f3
  refine bodyPost_ret (v := .tuple #[.agg #[(.slice am nm pm), (.slice ac nc pc), .int .u64 (bs : Int), (.slice ap np pp)], .int .i64 22]) ?_ rfl ⟨_, _, _, rfl, HEND.out.1, HEND.out.2⟩
  rw [results_cell_tmp rfl]; simp [go_sem, r0, r1, r2, r3]
 | true =>
  rw [h38] at K38
  have h39 : protOk prot = false := by rw [h38] at hp; simpa using hp
  rw [h39] at K39
  clear hp h38 h39
  go_enter Tryz.func29, Tryz.ntmps29
  go_wp2_with fail
  refine (K38.out W).mono ?_
  rintro e w1 ⟨rfl, hw1⟩
  subst hw1
  go_wp2_with fail
  refine (K39.out _).mono ?_
  rintro e w9 ⟨rfl, hw9⟩
  subst hw9
  go_wp2_with fail
  refine (K40.out w9 hb (by have := HSZ.out; omega)).mono ?_
  rintro e w2 ⟨am, nm, pm, ac, nc, pc, ap, np, pp, rfl, ho, hb2⟩
  have G0 := g0.keep hb2
  have G1 := g1.keep hb2
  have G2 := g2.keep hb2
  have G3 := g3.keep hb2
  have hbw := below_tr hb hb2
  clear hb2 g0 g1 g2 g3
  have f0 := G0
  have f1 := G1
  have f2 := G2
  have f3 := G3
  have q0 := f0.cell
  have q1 := f1.cell
  have q2 := f2.cell
  have q3 := f3.cell
  have q4 := f0.frozen
  have q5 := f1.frozen
  have q6 := f2.frozen
  have q7 := f3.frozen
  have HEND : Hid (OwnG w.heap.size ((((w2.setCell ⟨w.heap.size + 1, 0, none⟩ (.slice am nm pm)).setCell ⟨w.heap.size + 1, 1, none⟩ (.slice ac nc pc)).setCell ⟨w.heap.size + 1, 2, none⟩ (.int .u64 (bs : Int))).setCell ⟨w.heap.size + 1, 3, none⟩ (.slice ap np pp)) (.slice am nm pm) (.slice ac nc pc) (.slice ap np pp) ms cs ps ∧ Below w.heap.size w ((((w2.setCell ⟨w.heap.size + 1, 0, none⟩ (.slice am nm pm)).setCell ⟨w.heap.size + 1, 1, none⟩ (.slice ac nc pc)).setCell ⟨w.heap.size + 1, 2, none⟩ (.int .u64 (bs : Int))).setCell ⟨w.heap.size + 1, 3, none⟩ (.slice ap np pp))) := ⟨res4_G (b := 0) ho (by omega) (by omega), below_set (below_set (below_set (below_set hbw (by simp) _) (by simp) _) (by simp) _) (by simp) _⟩
  clear ho hbw
  go_wp2
  (try simp only [Exit.inBlock, Exit.then])
  obtain ⟨r0, r1, r2, r3⟩ := resG4 w2 (w.heap.size + 1) (.slice am nm pm) (.slice ac nc pc) (.int .u64 (bs : Int)) (.slice ap np pp) f0 f1 f2 f3
  refine bodyPost_ret (v := .tuple #[.agg #[(.slice am nm pm), (.slice ac nc pc), .int .u64 (bs : Int), (.slice ap np pp)], .int .i64 22]) ?_ rfl ⟨_, _, _, rfl, HEND.out.1, HEND.out.2⟩
  rw [results_cell_tmp rfl]; simp [go_sem, r0, r1, r2, r3]
set_option maxHeartbeats 4000000 in
theorem gmap18_mem (vm vc vp : Value) (ms cs ps : List (Nat × Int)) (bs first n : Nat) (prot : Int) (w : World) (hsl : SlG w vm vc vp ms cs ps) (lm : ms.length ≤ 64) (lc : cs.length ≤ 65536) (lp : ps.length ≤ 256) (h1 : first < 4294967296) (h2 : n < 4294967296) (hs : Srt ps) (hfit : FitQ ms cs) (hw : Words cs) (hrc : ∀ y ∈ cs, y.1 < 18446744073709551616) (hbs : bs ≤ 4611686018427387904) (last : Nat) (hla : last = first + n - 1) (hp : (gpagesOk first n && protOk prot) = true) (hroom : ps.length - (mid ps first last).length + n > 256) (hreach : Reach ps bs ms) :
  Calls Tryz.prog 29 #[.agg #[vm, vc, .int .u64 (bs : Int), vp], .int .u32 (first : Int), .int .u32 (n : Int), .int .i64 prot] w fun e w' => ∃ vm' vc' vp', e = .returned (.tuple #[.agg #[vm', vc', .int .u64 (bs : Int), vp'], .int .i64 12]) ∧ OwnG w.heap.size w' vm' vc' vp' (ms) (cs) (ps) ∧ Below w.heap.size w w' := by
 obtain ⟨W, hW, hb, hsz, c0, c1, c2, c3, g0, g1, g2, g3⟩ := box44 w vm vc (.int .u64 (bs : Int)) vp (.slice none 0 0) (.slice none 0 0) (.int .u64 0) (.slice none 0 0) 29 29
 have K38 : Hid (∀ w', Calls Tryz.prog 51 #[.int .u32 (first : Int), .int .u32 (n : Int)] w' fun e w'' => e = .returned (.bool (gpagesOk first n)) ∧ w'' = w') := fun w' => garePages38 first n h1 h2 w'
 have K40 : Hid (∀ w', Below w.heap.size w w' → w.heap.size + 2 ≤ w'.heap.size → Calls Tryz.prog 47 #[.agg #[vm, vc, .int .u64 (bs : Int), vp]] w' fun e w'' => ∃ am nm pm ac nc pc ap np pp, e = .returned (.agg #[.slice am nm pm, .slice ac nc pc, .int .u64 (bs : Int), .slice ap np pp]) ∧ OwnG (w.heap.size + 2) w'' (.slice am nm pm) (.slice ac nc pc) (.slice ap np pp) ms cs ps ∧ Below w'.heap.size w' w'') := fun w' hb' hs' =>
  (gfresh40 vm vc vp bs ms cs ps w' (hsl.1.keep hb') (hsl.2.1.keep hb') (hsl.2.2.keep hb') (by omega) (by omega) (by omega)).mono (by
   rintro e w'' ⟨am, nm, pm, ac, nc, pc, ap, np, pp, rfl, ho, hb''⟩
   exact ⟨_, _, _, _, _, _, _, _, _, rfl, ho.base hs', hb''⟩)
 obtain ⟨xm, ym, zm, xc, yc, zc, xp, yp, zp, rfl, rfl, rfl⟩ := hsl.shape
 have K39 : Hid (∀ w', Calls Tryz.prog 52 #[.int .i64 prot] w' fun e w'' => e = .returned (.bool (protOk prot)) ∧ w'' = w') := fun w' => gisProt39 prot w'
 have hpq : gpagesOk first n = true ∧ protOk prot = true := by simpa using hp
 rw [hpq.1] at K38
 rw [hpq.2] at K39
 have HSZ : Hid (W.heap.size = w.heap.size + 2) := hsz
 have K41 : Hid (∀ w' wb, Wk (w.heap.size + 2) w' wb ms cs ps bs → Calls Tryz.prog 53 #[.pointer (some ⟨wb, 0, none⟩), .int .u32 (first : Int), .int .u32 (n : Int), .int .i64 prot] w' fun e w'' => e = .returned (.int .i64 12) ∧ w'.grownBy w'' (some wb)) := fun w' wb h => gadd41_mem _ wb first n bs _ _ last prot ms cs ps w' h hs lp hfit hw hrc hbs hpq.1 hla hroom hreach rfl rfl
 clear hsl h1 h2 lm lc lp hsz hp hpq hs hfit hw hrc hbs hla hroom hreach
 go_enter Tryz.func29, Tryz.ntmps29
 go_wp2_with fail
 refine (K38.out W).mono ?_
 rintro e w1 ⟨rfl, hw1⟩
 subst hw1
 go_wp2_with fail
 refine (K39.out _).mono ?_
 rintro e w9 ⟨rfl, hw9⟩
 subst hw9
 go_wp2_with fail
 refine (K40.out w9 hb (by have := HSZ.out; omega)).mono ?_
 rintro e w2 ⟨am, nm, pm, ac, nc, pc, ap, np, pp, rfl, ho, hb2⟩
 obtain ⟨W4, hW4, hb4, hs4, l0, l1, l2, l3, _⟩ := box4 w2 (.slice am nm pm) (.slice ac nc pc) (.int .u64 (bs : Int)) (.slice ap np pp) 88
 have hwk : Wk (w.heap.size + 2) W4 w2.heap.size ms cs ps bs := ⟨_, _, _, by rw [← hW4]; exact Wb.new w2 _ _ _ _, ho.keep hb4, by have h1 := hb2.size; have h2 := HSZ.out; omega⟩
 have hwz : w.heap.size + 2 ≤ w2.heap.size := by have h1 := hb2.size; have h2 := HSZ.out; omega
 have hbw4 := below_tr (below_tr hb hb2) hb4
 have G0 := (g0.keep hb2).keep hb4
 have G1 := (g1.keep hb2).keep hb4
 have G2 := (g2.keep hb2).keep hb4
 have G3 := (g3.keep hb2).keep hb4
 have e0 := keep_cell hb4 (keep_cell hb2 c0)
 have e1 := keep_cell hb4 (keep_cell hb2 c1)
 have e2 := keep_cell hb4 (keep_cell hb2 c2)
 have e3 := keep_cell hb4 (keep_cell hb2 c3)
 go_wp2_with fail
 refine (K41.out W4 _ hwk).mono ?_
 rintro e w5 ⟨rfl, g5⟩
 have HG : Hid (∀ (a : Addr), a.block < w.heap.size + 2 → Free W4 a → Free w5 a) := fun a ha hf => ⟨⟨_, g5.cell hf.cell (by simp; omega)⟩, (World.frozen?_of_block (g5.block a.block (Nat.lt_of_lt_of_le ha (by omega)) (by simp; omega))).trans hf.frozen⟩
 have G0 := HG.out _ (by simp) G0
 have G1 := HG.out _ (by simp) G1
 have G2 := HG.out _ (by simp) G2
 have G3 := HG.out _ (by simp) G3
 have hbw5 := below_wb hbw4 g5 (by omega)
 have e0 := g5.cell e0 (by simp; omega)
 have e1 := g5.cell e1 (by simp; omega)
 have e2 := g5.cell e2 (by simp; omega)
 have e3 := g5.cell e3 (by simp; omega)
 have hs5 : w.heap.size + 2 ≤ w5.heap.size := by have := g5.size; omega
 go_wp2_with fail
 refine (K40.out w5 hbw5 hs5).mono ?_
 rintro e w6 ⟨am', nm', pm', ac', nc', pc', ap', np', pp', rfl, ho6, hb6⟩
 have G0 := G0.keep hb6
 have G1 := G1.keep hb6
 have G2 := G2.keep hb6
 have G3 := G3.keep hb6
 have hbw6 := below_tr hbw5 hb6
 clear hb6 hbw5 e0 e1 e2 e3 HG
 have f0 := G0
 have f1 := G1
 have f2 := G2
 have f3 := G3
 have q0 := f0.cell
 have q1 := f1.cell
 have q2 := f2.cell
 have q3 := f3.cell
 have q4 := f0.frozen
 have q5 := f1.frozen
 have q6 := f2.frozen
 have q7 := f3.frozen
 have HEND : Hid (OwnG w.heap.size ((((w6.setCell ⟨w.heap.size + 1, 0, none⟩ (.slice am' nm' pm')).setCell ⟨w.heap.size + 1, 1, none⟩ (.slice ac' nc' pc')).setCell ⟨w.heap.size + 1, 2, none⟩ (.int .u64 (bs : Int))).setCell ⟨w.heap.size + 1, 3, none⟩ (.slice ap' np' pp')) (.slice am' nm' pm') (.slice ac' nc' pc') (.slice ap' np' pp') ms cs ps ∧ Below w.heap.size w ((((w6.setCell ⟨w.heap.size + 1, 0, none⟩ (.slice am' nm' pm')).setCell ⟨w.heap.size + 1, 1, none⟩ (.slice ac' nc' pc')).setCell ⟨w.heap.size + 1, 2, none⟩ (.int .u64 (bs : Int))).setCell ⟨w.heap.size + 1, 3, none⟩ (.slice ap' np' pp'))) := ⟨res4_G (b := 0) ho6 (by omega) (by omega), below_set (below_set (below_set (below_set hbw6 (by simp) _) (by simp) _) (by simp) _) (by simp) _⟩
 clear ho6 hbw6
 go_wp2
 (try simp only [Exit.inBlock, Exit.then])
 obtain ⟨r0, r1, r2, r3⟩ := resG4 w6 (w.heap.size + 1) (.slice am' nm' pm') (.slice ac' nc' pc') (.int .u64 (bs : Int)) (.slice ap' np' pp') f0 f1 f2 f3
 refine bodyPost_ret (v := .tuple #[.agg #[(.slice am' nm' pm'), (.slice ac' nc' pc'), .int .u64 (bs : Int), (.slice ap' np' pp')], .int .i64 12]) ?_ rfl ⟨_, _, _, rfl, HEND.out.1, HEND.out.2⟩
 rw [results_cell_tmp rfl]; simp [go_sem, r0, r1, r2, r3]
set_option maxHeartbeats 8000000 in
theorem gmap18 (vm vc vp : Value) (ms cs ps : List (Nat × Int)) (bs first n : Nat) (prot : Int) (w : World) (hsl : SlG w vm vc vp ms cs ps) (lm : ms.length ≤ 64) (lc : cs.length ≤ 65536) (lp : ps.length ≤ 256) (h1 : first < 4294967296) (h2 : n < 4294967296) (hs : Srt ps) (hfit : FitQ ms cs) (hw : Words cs) (hrc : ∀ y ∈ cs, y.1 < 18446744073709551616) (hbs : bs ≤ 4611686018427387904) (last : Nat) (hla : last = first + n - 1) (hp : (gpagesOk first n && protOk prot) = true) (hroom : ps.length - (mid ps first last).length + n ≤ 256) (hreach : Reach ps bs ms) :
  Calls Tryz.prog 29 #[.agg #[vm, vc, .int .u64 (bs : Int), vp], .int .u32 (first : Int), .int .u32 (n : Int), .int .i64 prot] w fun e w' => ((msF ps bs ms (ksM (added first prot n) n)).length ≤ 64 ∧ ∃ vm' vc' vp', e = .returned (.tuple #[.agg #[vm', vc', .int .u64 (bs : Int), vp'], .int .i64 0]) ∧ OwnG w.heap.size w' vm' vc' vp' (msF ps bs ms (ksM (added first prot n) n)) (clearN cs (bs + first * 4096) (n * 4096)) (lo ps first ++ added first prot n ++ hi ps last) ∧ Below w.heap.size w w') ∨ (64 < (msF ps bs ms (ksM (added first prot n) n)).length ∧ ∃ vm' vc' vp', e = .returned (.tuple #[.agg #[vm', vc', .int .u64 (bs : Int), vp'], .int .i64 105]) ∧ OwnG w.heap.size w' vm' vc' vp' (ms) (cs) (ps) ∧ Below w.heap.size w w') := by
 obtain ⟨W, hW, hb, hsz, c0, c1, c2, c3, g0, g1, g2, g3⟩ := box44 w vm vc (.int .u64 (bs : Int)) vp (.slice none 0 0) (.slice none 0 0) (.int .u64 0) (.slice none 0 0) 29 29
 have K38 : Hid (∀ w', Calls Tryz.prog 51 #[.int .u32 (first : Int), .int .u32 (n : Int)] w' fun e w'' => e = .returned (.bool (gpagesOk first n)) ∧ w'' = w') := fun w' => garePages38 first n h1 h2 w'
 have K40 : Hid (∀ w', Below w.heap.size w w' → w.heap.size + 2 ≤ w'.heap.size → Calls Tryz.prog 47 #[.agg #[vm, vc, .int .u64 (bs : Int), vp]] w' fun e w'' => ∃ am nm pm ac nc pc ap np pp, e = .returned (.agg #[.slice am nm pm, .slice ac nc pc, .int .u64 (bs : Int), .slice ap np pp]) ∧ OwnG (w.heap.size + 2) w'' (.slice am nm pm) (.slice ac nc pc) (.slice ap np pp) ms cs ps ∧ Below w'.heap.size w' w'') := fun w' hb' hs' =>
  (gfresh40 vm vc vp bs ms cs ps w' (hsl.1.keep hb') (hsl.2.1.keep hb') (hsl.2.2.keep hb') (by omega) (by omega) (by omega)).mono (by
   rintro e w'' ⟨am, nm, pm, ac, nc, pc, ap, np, pp, rfl, ho, hb''⟩
   exact ⟨_, _, _, _, _, _, _, _, _, rfl, ho.base hs', hb''⟩)
 obtain ⟨xm, ym, zm, xc, yc, zc, xp, yp, zp, rfl, rfl, rfl⟩ := hsl.shape
 have K39 : Hid (∀ w', Calls Tryz.prog 52 #[.int .i64 prot] w' fun e w'' => e = .returned (.bool (protOk prot)) ∧ w'' = w') := fun w' => gisProt39 prot w'
 have hpq : gpagesOk first n = true ∧ protOk prot = true := by simpa using hp
 rw [hpq.1] at K38
 rw [hpq.2] at K39
 have HSZ : Hid (W.heap.size = w.heap.size + 2) := hsz
 obtain ⟨am2, ham2⟩ : ∃ z, z = msF ps bs ms (ksM (added first prot n) n) := ⟨_, rfl⟩
 obtain ⟨ac2, hac2⟩ : ∃ z, z = clearN cs (bs + first * 4096) (n * 4096) := ⟨_, rfl⟩
 obtain ⟨ap2, hap2⟩ : ∃ z, z = lo ps first ++ added first prot n ++ hi ps last := ⟨_, rfl⟩
 have K41 : Hid (∀ w' wb, Wk (w.heap.size + 2) w' wb ms cs ps bs → Calls Tryz.prog 53 #[.pointer (some ⟨wb, 0, none⟩), .int .u32 (first : Int), .int .u32 (n : Int), .int .i64 prot] w' fun e w'' => (e = .returned (.int .i64 0) ∧ am2.length ≤ 64 ∧ Wk (w.heap.size + 2) w'' wb am2 ac2 ap2 bs ∧ w'.grownBy w'' (some wb)) ∨ (e = .returned (.int .i64 105) ∧ 64 < am2.length ∧ w'.grownBy w'' (some wb))) := fun w' wb h => by
  have k := gadd41 _ wb first n bs _ _ last prot ms cs ps w' h hs lp hfit hw hrc hbs hpq.1 hla hroom hreach rfl rfl
  rw [← ham2, ← hac2, ← hap2] at k
  exact k
 rw [← ham2, ← hac2, ← hap2]
 clear hsl h1 h2 lm lc lp hsz hp hpq hs hfit hw hrc hbs hla hroom hreach ham2 hac2 hap2
 go_enter Tryz.func29, Tryz.ntmps29
 go_wp2_with fail
 refine (K38.out W).mono ?_
 rintro e w1 ⟨rfl, hw1⟩
 subst hw1
 go_wp2_with fail
 refine (K39.out _).mono ?_
 rintro e w9 ⟨rfl, hw9⟩
 subst hw9
 go_wp2_with fail
 refine (K40.out w9 hb (by have := HSZ.out; omega)).mono ?_
 rintro e w2 ⟨am, nm, pm, ac, nc, pc, ap, np, pp, rfl, ho, hb2⟩
 obtain ⟨W4, hW4, hb4, hs4, l0, l1, l2, l3, _⟩ := box4 w2 (.slice am nm pm) (.slice ac nc pc) (.int .u64 (bs : Int)) (.slice ap np pp) 88
 have hwk : Wk (w.heap.size + 2) W4 w2.heap.size ms cs ps bs := ⟨_, _, _, by rw [← hW4]; exact Wb.new w2 _ _ _ _, ho.keep hb4, by have h1 := hb2.size; have h2 := HSZ.out; omega⟩
 have hwz : w.heap.size + 2 ≤ w2.heap.size := by have h1 := hb2.size; have h2 := HSZ.out; omega
 have hbw4 := below_tr (below_tr hb hb2) hb4
 have G0 := (g0.keep hb2).keep hb4
 have G1 := (g1.keep hb2).keep hb4
 have G2 := (g2.keep hb2).keep hb4
 have G3 := (g3.keep hb2).keep hb4
 have e0 := keep_cell hb4 (keep_cell hb2 c0)
 have e1 := keep_cell hb4 (keep_cell hb2 c1)
 have e2 := keep_cell hb4 (keep_cell hb2 c2)
 have e3 := keep_cell hb4 (keep_cell hb2 c3)
 go_wp2_with fail
 refine (K41.out W4 _ hwk).mono ?_
 rintro e w5 (⟨rfl, hle, k5, g5⟩ | ⟨rfl, hgt, g5⟩)
 ·obtain ⟨vm5, vc5, vp5, wb5, og5, _⟩ := k5
  obtain ⟨bm, cm, dm, bc, cc, dc, rfl, rfl⟩ := og5.1.shape
  obtain ⟨bp, cp, dp, rfl⟩ := own_shape og5.2
  have HG : Hid (∀ (a : Addr), a.block < w.heap.size + 2 → Free W4 a → Free w5 a) := fun a ha hf => ⟨⟨_, g5.cell hf.cell (by simp; omega)⟩, (World.frozen?_of_block (g5.block a.block (Nat.lt_of_lt_of_le ha (by omega)) (by simp; omega))).trans hf.frozen⟩
  have G0 := HG.out _ (by simp) G0
  have G1 := HG.out _ (by simp) G1
  have G2 := HG.out _ (by simp) G2
  have G3 := HG.out _ (by simp) G3
  have hbw5 := below_wb hbw4 g5 (by omega)
  have z0 := wb5.c0
  have z1 := wb5.c1
  have z2 := wb5.c2
  have z3 := wb5.c3
  clear wb5 e0 e1 e2 e3 g5 hwk HG
  have f0 := G0
  have f1 := G1
  have f2 := G2
  have f3 := G3
  have q0 := f0.cell
  have q1 := f1.cell
  have q2 := f2.cell
  have q3 := f3.cell
  have q4 := f0.frozen
  have q5 := f1.frozen
  have q6 := f2.frozen
  have q7 := f3.frozen
  have HEND : Hid (OwnG w.heap.size ((((w5.setCell ⟨w.heap.size + 1, 0, none⟩ (.slice bm cm dm)).setCell ⟨w.heap.size + 1, 1, none⟩ (.slice bc cc dc)).setCell ⟨w.heap.size + 1, 2, none⟩ (.int .u64 (bs : Int))).setCell ⟨w.heap.size + 1, 3, none⟩ (.slice bp cp dp)) (.slice bm cm dm) (.slice bc cc dc) (.slice bp cp dp) am2 ac2 ap2 ∧ Below w.heap.size w ((((w5.setCell ⟨w.heap.size + 1, 0, none⟩ (.slice bm cm dm)).setCell ⟨w.heap.size + 1, 1, none⟩ (.slice bc cc dc)).setCell ⟨w.heap.size + 1, 2, none⟩ (.int .u64 (bs : Int))).setCell ⟨w.heap.size + 1, 3, none⟩ (.slice bp cp dp))) := ⟨res4_G (b := 0) og5 (by omega) (by omega), below_set (below_set (below_set (below_set hbw5 (by simp) _) (by simp) _) (by simp) _) (by simp) _⟩
  clear og5 hbw5
  go_wp2
  (try simp only [Exit.inBlock, Exit.then])
  obtain ⟨r0, r1, r2, r3⟩ := resG4 w5 (w.heap.size + 1) (.slice bm cm dm) (.slice bc cc dc) (.int .u64 (bs : Int)) (.slice bp cp dp) f0 f1 f2 f3
  refine bodyPost_ret (v := .tuple #[.agg #[(.slice bm cm dm), (.slice bc cc dc), .int .u64 (bs : Int), (.slice bp cp dp)], .int .i64 0]) ?_ rfl (Or.inl ⟨hle, _, _, _, rfl, HEND.out.1, HEND.out.2⟩)
  rw [results_cell_tmp rfl]; simp [go_sem, r0, r1, r2, r3]
 ·skip
  have HG : Hid (∀ (a : Addr), a.block < w.heap.size + 2 → Free W4 a → Free w5 a) := fun a ha hf => ⟨⟨_, g5.cell hf.cell (by simp; omega)⟩, (World.frozen?_of_block (g5.block a.block (Nat.lt_of_lt_of_le ha (by omega)) (by simp; omega))).trans hf.frozen⟩
  have G0 := HG.out _ (by simp) G0
  have G1 := HG.out _ (by simp) G1
  have G2 := HG.out _ (by simp) G2
  have G3 := HG.out _ (by simp) G3
  have hbw5 := below_wb hbw4 g5 (by omega)
  have e0 := g5.cell e0 (by simp; omega)
  have e1 := g5.cell e1 (by simp; omega)
  have e2 := g5.cell e2 (by simp; omega)
  have e3 := g5.cell e3 (by simp; omega)
  have hs5 : w.heap.size + 2 ≤ w5.heap.size := by have := g5.size; omega
  go_wp2_with fail
  refine (K40.out w5 hbw5 hs5).mono ?_
  rintro e w6 ⟨am', nm', pm', ac', nc', pc', ap', np', pp', rfl, ho6, hb6⟩
  have G0 := G0.keep hb6
  have G1 := G1.keep hb6
  have G2 := G2.keep hb6
  have G3 := G3.keep hb6
  have hbw6 := below_tr hbw5 hb6
  clear hb6 hbw5 e0 e1 e2 e3 HG
  have f0 := G0
  have f1 := G1
  have f2 := G2
  have f3 := G3
  have q0 := f0.cell
  have q1 := f1.cell
  have q2 := f2.cell
  have q3 := f3.cell
  have q4 := f0.frozen
  have q5 := f1.frozen
  have q6 := f2.frozen
  have q7 := f3.frozen
  have HEND : Hid (OwnG w.heap.size ((((w6.setCell ⟨w.heap.size + 1, 0, none⟩ (.slice am' nm' pm')).setCell ⟨w.heap.size + 1, 1, none⟩ (.slice ac' nc' pc')).setCell ⟨w.heap.size + 1, 2, none⟩ (.int .u64 (bs : Int))).setCell ⟨w.heap.size + 1, 3, none⟩ (.slice ap' np' pp')) (.slice am' nm' pm') (.slice ac' nc' pc') (.slice ap' np' pp') ms cs ps ∧ Below w.heap.size w ((((w6.setCell ⟨w.heap.size + 1, 0, none⟩ (.slice am' nm' pm')).setCell ⟨w.heap.size + 1, 1, none⟩ (.slice ac' nc' pc')).setCell ⟨w.heap.size + 1, 2, none⟩ (.int .u64 (bs : Int))).setCell ⟨w.heap.size + 1, 3, none⟩ (.slice ap' np' pp'))) := ⟨res4_G (b := 0) ho6 (by omega) (by omega), below_set (below_set (below_set (below_set hbw6 (by simp) _) (by simp) _) (by simp) _) (by simp) _⟩
  clear ho6 hbw6
  go_wp2
  (try simp only [Exit.inBlock, Exit.then])
  obtain ⟨r0, r1, r2, r3⟩ := resG4 w6 (w.heap.size + 1) (.slice am' nm' pm') (.slice ac' nc' pc') (.int .u64 (bs : Int)) (.slice ap' np' pp') f0 f1 f2 f3
  refine bodyPost_ret (v := .tuple #[.agg #[(.slice am' nm' pm'), (.slice ac' nc' pc'), .int .u64 (bs : Int), (.slice ap' np' pp')], .int .i64 105]) ?_ rfl (Or.inr ⟨hgt, _, _, _, rfl, HEND.out.1, HEND.out.2⟩)
  rw [results_cell_tmp rfl]; simp [go_sem, r0, r1, r2, r3]
end Go.Proofs.YtkpmkgkfpikpfaaGreat
