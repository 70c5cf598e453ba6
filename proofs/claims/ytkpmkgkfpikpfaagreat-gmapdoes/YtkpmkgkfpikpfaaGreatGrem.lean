/- What is proved here: the worker takes pages away. -/
import Derived.Test.YtkpmkgkfpikpfaaGreatGadd
namespace Go.Proofs.YtkpmkgkfpikpfaaGreat
open Go.RowKit Go.Shelf
set_option linter.unusedVariables false
set_option linter.unusedSimpArgs false
set_option maxRecDepth 100000
attribute [local go_sem] Oper.semAt_some
def stepR (ps : List (Nat × Int)) (bs : Nat) (h : List (Nat × Int) × List (Nat × Int)) (k : K4) : List (Nat × Int) × List (Nat × Int) := if usedN ps k.val then h else (lo h.1 (hp bs k.val) ++ hi h.1 (hp bs k.val + 1 - 1), lo h.2 (hp bs k.val * 16384) ++ hi h.2 ((hp bs k.val + 1 - 1) * 16384 + 16383))
def rF (ps : List (Nat × Int)) (bs : Nat) (h : List (Nat × Int) × List (Nat × Int)) (pre : List K4) : List (Nat × Int) × List (Nat × Int) := pre.foldl (stepR ps bs) h
theorem rF_snoc (ps : List (Nat × Int)) (bs : Nat) (h : List (Nat × Int) × List (Nat × Int)) (pre : List K4) (k : K4) : rF ps bs h (pre ++ [k]) = stepR ps bs (rF ps bs h pre) k := by simp [rF]
theorem Wb.ne_cell {w : World} {wb b o : Nat} {x : Nat} {a0 a1 a3 : Option Addr} {n0 n1 n3 p0 p1 p3 : Nat} {bs : Int} (h : Wb w wb (.slice a0 n0 p0) (.slice a1 n1 p1) (.int .u64 bs) (.slice a3 n3 p3)) (hc : w.cell? ⟨b, o, none⟩ = some (.int .u32 (x : Int))) : b ≠ wb := fun e => by
 subst e
 rw [Wb] at h
 simp only [World.cell?, h] at hc
 match o, hc with
 | 0, hc => simp at hc
 | 1, hc => simp at hc
 | 2, hc => simp at hc
 | 3, hc => simp at hc
 | o + 4, hc => simp at hc
theorem box1e (w : World) (x : Value) (t : Nat) : ∃ W, w.alloc (.cells #[x] t) = W ∧ Below w.heap.size w W ∧ W.heap.size = w.heap.size + 1 ∧ W.cell? ⟨w.heap.size, 0, none⟩ = some x :=
 ⟨_, rfl, (Below.refl _ _).alloc (Nat.le_refl _) _, by simp, cell_newA w _ t _ 0 x rfl rfl⟩
set_option maxHeartbeats 8000000 in
theorem grem48 (B wb first n bs a m last : Nat) (ms cs ps : List (Nat × Int)) (w : World) (hW : Wk B w wb ms cs ps bs) (hs : Srt ps) (hpl : ps.length ≤ 256) (hpb : ∀ x ∈ ps, x.1 < 1048576) (hfit : FitQ ms cs) (hw : Words cs) (hrc : ∀ y ∈ cs, y.1 < 18446744073709551616) (hfc : FitQ ms (clearN cs a m)) (hbs : bs ≤ 4611686018427387904) (hg : gpagesOk first n = true) (hla : last = first + n - 1) (ha : a = bs + first * 4096) (hm : m = n * 4096) :
  Calls Tryz.prog 61 #[.pointer (some ⟨wb, 0, none⟩), .int .u32 (first : Int), .int .u32 (n : Int)] w fun e w' =>
   e = .returned (.tuple #[]) ∧ Wk B w' wb (rF (lo ps first ++ hi ps last) bs (ms, clearN cs a m) (ksM (mid ps first last) (mid ps first last).length)).1 (rF (lo ps first ++ hi ps last) bs (ms, clearN cs a m) (ksM (mid ps first last) (mid ps first last).length)).2 (lo ps first ++ hi ps last) bs ∧ w.grownBy w' (some wb) := by
 have hgg : n ≠ 0 ∧ first + n ≤ 1048576 := by simpa [gpagesOk] using hg
 have HWK : Hid (Wk B w wb ms cs ps bs) := hW
 obtain ⟨vm, vc, vp, hb, ho, hB⟩ := hW
 obtain ⟨W, hWW, hbW, hsz, c4⟩ := box1e w (.pointer (some ⟨wb, 0, none⟩)) 121
 have K67 := gspan67 vp ps first n last W (ho.p.keep hbW) hs (by omega) hgg.1 (by omega) hla
 have hlen : (lo ps first).length + (mid ps first last).length ≤ ps.length := by
  have := parts_len ps hs first last (by omega)
  omega
 obtain ⟨vg, tg, sg⟩ := ho.p.mid22 (lo ps first).length ((lo ps first).length + (mid ps first last).length) (by omega) hlen
 rw [parts_mid ps hs first last (by omega)] at sg
 obtain ⟨xg, ng, pg, rfl⟩ : ∃ a n p, vg = .slice a n p := by obtain ⟨a, p, h, _⟩ := sg; exact ⟨_, _, _, h⟩
 obtain ⟨am, nm, pm, ac, nc, pc, rfl, rfl⟩ := ho.1.shape
 obtain ⟨ap, pp, hvp, lp1, lp2⟩ : ∃ a p, vp = .slice a ps.length p ∧ ps.length ≤ p ∧ p ≤ 9223372036854775807 := by obtain ⟨a, p, h, h1, h2, _⟩ := ho.p; exact ⟨_, _, h, h1, h2⟩
 subst hvp
 have hbk := hb.keep hbW
 have C3 := hbk.c3
 have HSG : Hid (Pg.Sl .i64 w (.slice xg ng pg) (mid ps first last) ∧ ∀ g, (Value.slice xg ng pg).ownBlock = some g → 0 < (mid ps first last).length → g < w.heap.size ∧ g ≠ wb) := ⟨sg, fun g hgo hpos => by
  obtain ⟨ao, cap, e, _, _, _, h4⟩ := sg
  obtain ⟨b, o, eb, d0, _⟩ := h4 0 hpos
  cases e
  subst eb
  have : b = g := by simpa [Value.ownBlock] using hgo
  subst this
  exact ⟨World.block_lt_of_cell? w _ d0, hb.ne_cell d0⟩⟩
 have K69 : Hid (∀ w', Below w.heap.size w w' → Calls Tryz.prog 83 #[.pointer (some ⟨wb, 0, none⟩), .int .u32 (first : Int), .int .u32 (n : Int)] w' fun e w'' => e = .returned (.tuple #[]) ∧ Wk B w'' wb ms (clearN cs a m) ps bs ∧ w'.grownBy w'' (some wb)) := fun w' hb' => gwipe69 B wb first n bs a m ms cs ps w' (HWK.out.keep hb') hfit hw hrc hbs (by omega) (by omega) ha hm
 obtain ⟨f, hf⟩ : ∃ f, f = (lo ps first).length := ⟨_, rfl⟩
 obtain ⟨md, hmd⟩ : ∃ f, f = (mid ps first last).length := ⟨_, rfl⟩
 rw [← hf, ← hmd] at K67 hlen tg
 obtain ⟨t, ht⟩ : ∃ t, t = f + md := ⟨_, rfl⟩
 rw [← ht] at K67 hlen tg
 obtain ⟨gz, hgz⟩ : ∃ z, z = mid ps first last := ⟨_, rfl⟩
 have HLF : Hid (f = (lo ps first).length ∧ md = (mid ps first last).length ∧ t = f + md ∧ t ≤ ps.length ∧ gz = mid ps first last) := ⟨hf, hmd, ht, hlen, hgz⟩
 have HGG : Hid (n ≠ 0 ∧ first + n ≤ 1048576 ∧ last = first + n - 1) := ⟨hgg.1, hgg.2, hla⟩
 have HARG : Hid (Srt ps ∧ ps.length ≤ 256 ∧ (∀ x ∈ ps, x.1 < 1048576) ∧ FitQ ms (clearN cs a m) ∧ bs ≤ 4611686018427387904) := ⟨hs, hpl, hpb, hfc, hbs⟩
 obtain ⟨zc, hzc⟩ : ∃ z, z = clearN cs a m := ⟨_, rfl⟩
 obtain ⟨zp, hzp⟩ : ∃ z, z = lo ps first ++ hi ps last := ⟨_, rfl⟩
 rw [← hzc] at K69 HARG
 rw [← hgz] at HSG
 rw [← hzc, ← hzp, ← hgz]
 obtain ⟨zm2, hzm2⟩ : ∃ z, z = (rF zp bs (ms, zc) (ksM gz gz.length)).1 := ⟨_, rfl⟩
 obtain ⟨zc2, hzc2⟩ : ∃ z, z = (rF zp bs (ms, zc) (ksM gz gz.length)).2 := ⟨_, rfl⟩
 rw [← hzm2, ← hzc2]
 have HZ : Hid (zm2 = (rF zp bs (ms, zc) (ksM gz gz.length)).1 ∧ zc2 = (rF zp bs (ms, zc) (ksM gz gz.length)).2 ∧ zp = lo ps first ++ hi ps last) := ⟨hzm2, hzc2, hzp⟩
 have HSZ : Hid (W.heap.size = w.heap.size + 1) := hsz
 have x1 : (f : Int) ≤ (t : Int) := by omega
 have x2 : (t : Int) ≤ (ps.length : Int) := by omega
 have hwlt := HWK.out.lt
 clear hzc hzp hgz hzm2 hzc2 ho hB hb hs hpl hpb hfit hw hrc hfc hbs ha hm hg hgg hla hlen hf hmd ht hbk hsz sg
 refine callsIn_wide.1 (callsIn_of_wp_marks (F := Fence.wide) (n := 3) Tryz.func61 rfl trivial ?_ rfl)
 simp only [Tryz.ntmps61, List.size_toArray, List.length_cons, List.length_nil, Nat.reduceAdd, Nat.reduceSub, Array.replicate_succ, Array.replicate_zero, List.push_toArray, List.append_toArray, List.nil_append, List.cons_append]
 refine wpIn_wide.2 ?_
 go_wp2_with fail
 refine K67.mono ?_
 rintro e w1 ⟨rfl, hb1⟩
 clear K67
 have c4' := keep_cell hb1 c4
 have C3' := keep_cell hb1 C3
 go_wp2_with fail
 refine (K69.out _ (below_tr hbW hb1)).mono ?_
 rintro e w5 ⟨rfl, k5, g5⟩
 obtain ⟨vm5, vc5, vp5, wb5, og5, hB5⟩ := k5
 obtain ⟨ap5, pp5, rfl, lq1, lq2⟩ : ∃ a p, vp5 = .slice a ps.length p ∧ ps.length ≤ p ∧ p ≤ 9223372036854775807 := by obtain ⟨a, p, h, h1, h2, _⟩ := og5.p; exact ⟨_, _, h, h1, h2⟩
 have hlf := HLF.out
 obtain ⟨v1, t1, s1, sa1, sn1, sp1, rfl⟩ := og5.p.to22 f (by omega)
 obtain ⟨v2, t2, s2, sa2, sn2, sp2, rfl⟩ := og5.p.from22 t (by omega)
 have e1 : ps.take f = lo ps first := by rw [hlf.1]; exact parts_take ps HARG.out.1 first last (by have := HGG.out; omega)
 have e2 : ps.drop t = hi ps last := by rw [hlf.2.2.1, hlf.1, hlf.2.1]; exact parts_drop ps HARG.out.1 first last (by have := HGG.out; omega)
 rw [e1] at s1
 rw [e2] at s2
 have K66 : Hid (∀ b w', Below w5.heap.size w5 w' → w'.cell? ⟨b, 0, none⟩ = some (.slice sa1 sn1 sp1) → w'.cell? ⟨b, 1, none⟩ = some (.slice sa2 sn2 sp2) → Calls Tryz.prog 77 #[.slice (some ⟨b, 0, none⟩) 2 2] w' fun e w'' => ∃ a n p, e = .returned (.slice a n p) ∧ w''.ownsRow w5.heap.size 53 2 (.slice a n p) zp.length (Pg.rowOf .i64 zp) ∧ Below w'.heap.size w' w'') := fun b w' hb' d0 d1 => by
  have hll : (lo ps first ++ hi ps last).length ≤ 1073741824 := by
   have q1 := lo_len ps first
   have q2 := hi_len ps last
   have q3 := HARG.out.2.1
   rw [List.length_append]
   omega
  have h := Pg.cat39_2 b _ _ _ _ w' d0 d1 (s1.keep hb') (s2.keep hb') hll
  rw [← HZ.out.2.2] at h
  refine h.mono ?_
  rintro e w'' ⟨v, rfl, ho, hB'⟩
  obtain ⟨a, n, p, rfl⟩ := own_shape ho
  exact ⟨a, n, p, rfl, own_base ho hb'.size, hB'⟩
 have hb5w : Below w.heap.size w w1 := below_tr hbW hb1
 have c45 := g5.cell c4' (by simp; omega)
 have C35 := wb5.c3
 have hgw5 : w.grownBy w5 (some wb) := Go.Lib.grownBy_trans (Go.Lib.grownBy_below (World.grownBy.refl w (some wb)) hb5w) g5
 have HSL : Hid (Below w5.heap.size w5 w5.drew) := (Below.refl _ _).drew
 have HQ5 : Hid (w.grownBy w5 (some wb) ∧ Wb w5 wb vm5 vc5 (.int .u64 (bs : Int)) (.slice ap5 ps.length pp5) ∧ OwnG B w5 vm5 vc5 (.slice ap5 ps.length pp5) ms zc ps ∧ B ≤ w5.heap.size) := ⟨hgw5, wb5, og5, hB5⟩
 have x3 : (f : Int) ≤ (ps.length : Int) := by omega
 have hl5 : w.heap.size < w5.heap.size := by have h1 := hb1.size; have h2 := g5.size; have h3 := HSZ.out; omega
 have hl6 : wb < w5.heap.size := by omega
 have hn5 : ¬ w5.heap.size = w.heap.size := by omega
 have hn6 : ¬ w5.heap.size = wb := by omega
 clear s1 s2 e1 e2 hlf hgw5 wb5 og5 hB5 C3' c4'
 go_wp2_with fail
 refine wp_region_noPanic ?_
 refine wp_region_last (fun w' => Below w5.heap.size w5 w' ∧ w'.cell? ⟨w.heap.size, 0, none⟩ = some (.pointer (some ⟨wb, 0, none⟩)) ∧ w'.cell? ⟨wb, 3, none⟩ = some (.slice ap5 ps.length pp5)) 17 (by kernel_rfl) ⟨HSL.out, by rw [World.cell?_drew]; exact c45, by rw [World.cell?_drew]; exact C35⟩ (fun hHeld => ?_)
 refine wpAnyN_take (i := 0) (v := ?_) (by kernel_rfl) (by decide) rfl (by kernel_rfl) (by kernel_rfl) (by kernel_rfl) (fun _ _ _ h => h) (Or.inl ⟨by rfl, ?_⟩) hHeld ?_
 rotate_left
 focus (intro w' hSw; obtain ⟨hS1, hS2, hS3⟩ := hSw; go_simp; try with_reducible rfl)
 simp only [Act.put, List.setIfInBounds_toArray, List.set_cons_zero, List.set_cons_succ]
 refine wpAnyN_take (i := 1) (v := ?_) (by kernel_rfl) (by decide) rfl (by kernel_rfl) (by kernel_rfl) (by kernel_rfl) (fun _ _ _ h => h) (Or.inl ⟨by rfl, ?_⟩) hHeld ?_
 rotate_left
 focus (intro w' hSw; obtain ⟨hS1, hS2, hS3⟩ := hSw; go_simp; try with_reducible rfl)
 simp only [Act.put, List.setIfInBounds_toArray, List.set_cons_zero, List.set_cons_succ]
 refine wpAnyN_take (i := 2) (v := ?_) (by kernel_rfl) (by decide) rfl (by kernel_rfl) (by kernel_rfl) (by kernel_rfl) (fun _ _ _ h => h) (Or.inl ⟨by rfl, ?_⟩) hHeld ?_
 rotate_left
 focus (intro w' hSw; obtain ⟨hS1, hS2, hS3⟩ := hSw; go_simp; try with_reducible rfl)
 simp only [Act.put, List.setIfInBounds_toArray, List.set_cons_zero, List.set_cons_succ]
 refine wpAnyN_take (i := 3) (v := ?_) (by kernel_rfl) (by decide) rfl (by kernel_rfl) (by kernel_rfl) (by kernel_rfl) (fun _ _ _ h => h) (Or.inl ⟨by rfl, ?_⟩) hHeld ?_
 rotate_left
 focus (intro w' hSw; obtain ⟨hS1, hS2, hS3⟩ := hSw; go_simp; try with_reducible rfl)
 simp only [Act.put, List.setIfInBounds_toArray, List.set_cons_zero, List.set_cons_succ]
 refine wpAnyN_take (i := 4) (v := ?_) (by kernel_rfl) (by decide) rfl (by kernel_rfl) (by kernel_rfl) (by kernel_rfl) (fun _ _ _ h => h) (Or.inl ⟨by rfl, ?_⟩) hHeld ?_
 rotate_left
 focus (intro w' hSw; obtain ⟨hS1, hS2, hS3⟩ := hSw; go_simp; try with_reducible rfl)
 simp only [Act.put, List.setIfInBounds_toArray, List.set_cons_zero, List.set_cons_succ]
 refine wpAnyN_take (i := 5) (v := ?_) (by kernel_rfl) (by decide) rfl (by kernel_rfl) (by kernel_rfl) (by kernel_rfl) (fun _ _ _ h => h) (Or.inl ⟨by rfl, ?_⟩) hHeld ?_
 rotate_left
 focus (intro w' hSw; obtain ⟨hS1, hS2, hS3⟩ := hSw; go_simp; try with_reducible rfl)
 simp only [Act.put, List.setIfInBounds_toArray, List.set_cons_zero, List.set_cons_succ]
 refine wpAnyN_take (i := 6) (v := ?_) (by kernel_rfl) (by decide) rfl (by kernel_rfl) (by kernel_rfl) (by kernel_rfl) (fun _ _ _ h => h) (Or.inl ⟨by rfl, ?_⟩) hHeld ?_
 rotate_left
 focus (intro w' hSw; obtain ⟨hS1, hS2, hS3⟩ := hSw; go_simp; try with_reducible rfl)
 simp only [Act.put, List.setIfInBounds_toArray, List.set_cons_zero, List.set_cons_succ]
 refine wpAnyN_take (i := 7) (v := ?_) (by kernel_rfl) (by decide) rfl (by kernel_rfl) (by kernel_rfl) (by kernel_rfl) (fun _ _ _ h => h) (Or.inl ⟨by rfl, ?_⟩) hHeld ?_
 rotate_left
 focus (intro w' hSw; obtain ⟨hS1, hS2, hS3⟩ := hSw; go_simp; try with_reducible rfl)
 simp only [Act.put, List.setIfInBounds_toArray, List.set_cons_zero, List.set_cons_succ]
 refine wpAnyN_take (i := 8) (v := ?_) (by kernel_rfl) (by decide) rfl (by kernel_rfl) (by kernel_rfl) (by kernel_rfl) (fun _ _ _ h => h) (Or.inl ⟨by rfl, ?_⟩) hHeld ?_
 rotate_left
 focus (intro w' hSw; obtain ⟨hS1, hS2, hS3⟩ := hSw; go_simp; try with_reducible rfl)
 simp only [Act.put, List.setIfInBounds_toArray, List.set_cons_zero, List.set_cons_succ]
 refine wpAnyN_take (i := 9) (v := ?_) (by kernel_rfl) (by decide) rfl (by kernel_rfl) (by kernel_rfl) (by kernel_rfl) (fun _ _ _ h => h) (Or.inl ⟨by rfl, ?_⟩) hHeld ?_
 rotate_left
 focus (intro w' hSw; obtain ⟨hS1, hS2, hS3⟩ := hSw; go_simp; try with_reducible rfl)
 simp only [Act.put, List.setIfInBounds_toArray, List.set_cons_zero, List.set_cons_succ]
 refine wpAnyN_take (i := 10) (v := ?_) (by kernel_rfl) (by decide) rfl (by kernel_rfl) (by kernel_rfl) (by kernel_rfl) (fun _ _ _ h => h) (Or.inl ⟨by rfl, ?_⟩) hHeld ?_
 rotate_left
 focus (intro w' hSw; obtain ⟨hS1, hS2, hS3⟩ := hSw; go_simp; try with_reducible rfl)
 simp only [Act.put, List.setIfInBounds_toArray, List.set_cons_zero, List.set_cons_succ]
 refine wpAnyN_take (i := 11) (v := ?_) (by kernel_rfl) (by decide) rfl (by kernel_rfl) (by kernel_rfl) (by kernel_rfl) (fun _ _ _ h => h) (Or.inl ⟨by rfl, ?_⟩) hHeld ?_
 rotate_left
 focus (intro w' hSw; obtain ⟨hS1, hS2, hS3⟩ := hSw; go_simp; try with_reducible rfl)
 simp only [Act.put, List.setIfInBounds_toArray, List.set_cons_zero, List.set_cons_succ]
 refine wpAnyN_take (i := 12) (v := ?_) (by kernel_rfl) (by decide) rfl (by kernel_rfl) (by kernel_rfl) (by kernel_rfl) (fun _ _ _ h => h) (Or.inl ⟨by rfl, ?_⟩) hHeld ?_
 rotate_left
 focus (intro w' hSw; obtain ⟨hS1, hS2, hS3⟩ := hSw; go_simp; try with_reducible rfl)
 simp only [Act.put, List.setIfInBounds_toArray, List.set_cons_zero, List.set_cons_succ]
 refine wpAnyN_take (i := 13) (v := ?_) (by kernel_rfl) (by decide) rfl (by kernel_rfl) (by kernel_rfl) (by kernel_rfl) (fun _ _ _ h => h) (Or.inl ⟨by rfl, ?_⟩) hHeld ?_
 rotate_left
 focus (intro w' hSw; obtain ⟨hS1, hS2, hS3⟩ := hSw; go_simp; try with_reducible rfl)
 simp only [Act.put, List.setIfInBounds_toArray, List.set_cons_zero, List.set_cons_succ]
 refine wpAnyN_take (i := 14) (v := ?_) (by kernel_rfl) (by decide) rfl (by kernel_rfl) (by kernel_rfl) (by kernel_rfl) (fun _ _ _ h => h) (Or.inl ⟨by rfl, ?_⟩) hHeld ?_
 rotate_left
 focus (intro w' hSw; obtain ⟨hS1, hS2, hS3⟩ := hSw; go_simp; try with_reducible rfl)
 simp only [Act.put, List.setIfInBounds_toArray, List.set_cons_zero, List.set_cons_succ]
 refine wpAnyN_one (i := 15) (by kernel_rfl) rfl (fun K hK => ?_)
 go_simp
 refine hK.out _ _ (fun _ => ⟨(by (repeat (first | with_reducible assumption | with_reducible exact Below.refl _ _ | with_reducible refine Below.drew ?_ | with_reducible refine below_alloc ?_ _ | (with_reducible refine below_set ?_ ?_ _; rotate_left; focus (first | (simp; done) | (simp; omega))) | with_reducible refine below_tr ?_ (by with_reducible assumption)))), (by (repeat (first | with_reducible assumption | with_reducible refine cell_drew ?_ | (with_reducible refine cell_newA _ _ _ _ _ _ ?_ rfl; (simp [*]; done)) | with_reducible refine cell_old ?_ _ | (with_reducible refine cell_far ?_ ?_ _; rotate_left; focus (first | (simp; done) | (simp; omega))) | with_reducible refine keep_cell (by with_reducible assumption) ?_))), (by (repeat (first | with_reducible assumption | with_reducible refine cell_drew ?_ | (with_reducible refine cell_newA _ _ _ _ _ _ ?_ rfl; (simp [*]; done)) | with_reducible refine cell_old ?_ _ | (with_reducible refine cell_far ?_ ?_ _; rotate_left; focus (first | (simp; done) | (simp; omega))) | with_reducible refine keep_cell (by with_reducible assumption) ?_)))⟩) ?_
 clear hK K
 try simp only [Act.put, List.setIfInBounds_toArray, List.set_cons_zero, List.set_cons_succ]
 refine wpAnyN_one (i := 16) (by kernel_rfl) rfl (fun K hK => ?_)
 go_simp
 refine (K66.out _ _ (by (repeat (first | with_reducible assumption | with_reducible exact Below.refl _ _ | with_reducible refine Below.drew ?_ | with_reducible refine below_alloc ?_ _ | (with_reducible refine below_set ?_ ?_ _; rotate_left; focus (first | (simp; done) | (simp; omega))) | with_reducible refine below_tr ?_ (by with_reducible assumption)))) (by (repeat (first | with_reducible assumption | with_reducible refine cell_drew ?_ | (with_reducible refine cell_newA _ _ _ _ _ _ ?_ rfl; (simp [*]; done)) | with_reducible refine cell_old ?_ _ | (with_reducible refine cell_far ?_ ?_ _; rotate_left; focus (first | (simp; done) | (simp; omega))) | with_reducible refine keep_cell (by with_reducible assumption) ?_))) (by (repeat (first | with_reducible assumption | with_reducible refine cell_drew ?_ | (with_reducible refine cell_newA _ _ _ _ _ _ ?_ rfl; (simp [*]; done)) | with_reducible refine cell_old ?_ _ | (with_reducible refine cell_far ?_ ?_ _; rotate_left; focus (first | (simp; done) | (simp; omega))) | with_reducible refine keep_cell (by with_reducible assumption) ?_)))).mono ?_
 rintro e w6 ⟨a6, n6, p6, rfl, ho6, hb6⟩
 have hbB : Below w5.heap.size w5 w6 := (by (repeat (first | with_reducible assumption | with_reducible exact Below.refl _ _ | with_reducible refine Below.drew ?_ | with_reducible refine below_alloc ?_ _ | (with_reducible refine below_set ?_ ?_ _; rotate_left; focus (first | (simp; done) | (simp; omega))) | with_reducible refine below_tr ?_ (by with_reducible assumption))))
 have q3 := keep_cell hbB C35
 have q4 := (HQ5.out.2.1.keep hbB).f 3
 have q5 := keep_cell hbB c45
 (try simp only [])
 refine hK.out _ _ (fun _ => ⟨hbB, q5, q3⟩) ?_
 clear hK K
 try simp only [Act.put, List.setIfInBounds_toArray, List.set_cons_zero, List.set_cons_succ]
 refine wpAnyN_one (i := 17) (by kernel_rfl) rfl (fun K hK => ?_)
 go_simp
 refine hK.out _ _ (fun h => absurd h (by decide)) ?_
 clear hK K
 try simp only [Act.put, List.setIfInBounds_toArray, List.set_cons_zero, List.set_cons_succ]
 refine wpAnyN_one (i := 18) (by kernel_rfl) rfl (fun K hK => ?_)
 go_simp
 refine hK.out _ _ (fun h => absurd h (by decide)) ?_
 clear hK K
 try simp only [Act.put, List.setIfInBounds_toArray, List.set_cons_zero, List.set_cons_succ]
 refine wpAnyN_one (i := 19) (by kernel_rfl) rfl (fun K hK => ?_)
 go_simp
 refine hK.out _ _ (fun h => absurd h (by decide)) ?_
 clear hK K
 try simp only [Act.put, List.setIfInBounds_toArray, List.set_cons_zero, List.set_cons_succ]
 refine wpAnyN_one (i := 20) (by kernel_rfl) rfl (fun K hK => ?_)
 go_simp
 refine hK.out _ _ (fun h => absurd h (by decide)) ?_
 clear hK K
 try simp only [Act.put, List.setIfInBounds_toArray, List.set_cons_zero, List.set_cons_succ]
 refine wpAnyN_done (by kernel_rfl) ?_ _
 refine NoPanic.normal ?_
 obtain ⟨k7, g7⟩ := wk_pages HQ5.out.2.1 HQ5.out.2.2.1 HQ5.out.2.2.2 hbB ho6
 obtain ⟨w7, hw7⟩ : ∃ x, w6.setCell ⟨wb, 3, none⟩ (.slice a6 n6 p6) = x := ⟨_, rfl⟩
 rw [hw7] at k7 g7 ⊢
 have hgw7 : w.grownBy w7 (some wb) := Go.Lib.grownBy_trans HQ5.out.1 g7
 have c47 : w7.cell? ⟨w.heap.size, 0, none⟩ = some (.pointer (some ⟨wb, 0, none⟩)) := by rw [← hw7, World.cell?_setCell_other _ _ _ _ (by simp <;> omega)]; exact q5
 have hsz7 : w.heap.size < w7.heap.size := World.block_lt_of_cell? w7 _ c47
 have HK7 : Hid (Wk B w7 wb ms zc zp bs ∧ w.grownBy w7 (some wb)) := ⟨k7, hgw7⟩
 have K58 := hostPages58 (.slice xg ng pg) w7 ⟨_, _, _, rfl⟩
 clear hHeld ho6 k7 g7 hgw7 hw7 q3 q4 q5 hbB hb6 g5 c45 C35 HSL
 go_wp2_with fail
 refine K58.mono ?_
 rintro e w3 ⟨rfl, rfl⟩
 clear K58
 go_wp2
 obtain ⟨W3, hW3⟩ : ∃ x, w7.alloc (.cells #[.slice xg ng pg] 27) = x := ⟨_, rfl⟩
 have hb3 : Below w7.heap.size w7 W3 := by rw [← hW3]; exact (Below.refl _ _).alloc (Nat.le_refl _) _
 have hs3 : W3.heap.size = w7.heap.size + 1 := by rw [← hW3]; simp
 have cB3 : W3.cell? ⟨w7.heap.size, 0, none⟩ = some (.slice xg ng pg) := by rw [← hW3]; exact cell_newA w7 _ 27 _ 0 _ rfl rfl
 rw [hW3]
 have HWK3 : Hid (Wk B W3 wb ms zc zp bs ∧ w.grownBy W3 (some wb)) := ⟨HK7.out.1.keep hb3, Go.Lib.grownBy_below HK7.out.2 hb3⟩
 have hc4 := keep_cell hb3 c47
 have hsl3 : Pg.Sl .i64 W3 (.slice xg ng pg) gz := by
  have hq := HSG.out.2
  obtain ⟨ao, cap, e, h1, h2, h3, h4⟩ := HSG.out.1
  refine ⟨ao, cap, e, h1, h2, h3, fun i hi => ?_⟩
  obtain ⟨b, o, eb, d0, d1⟩ := h4 i hi
  have hne := (hq b (by rw [e, eb]; rfl) (by omega)).2
  exact ⟨b, o, eb, HWK3.out.2.cell d0 (by simp; exact hne), HWK3.out.2.cell d1 (by simp; exact hne)⟩
 have hseq := hostPages_stops (3 - 1) (by omega) w7.heap.size W3.heap.size wb (.slice xg ng pg) gz (by have := HLF.out; have h2 := HARG.out.2.1; rw [this.2.2.2.2, ← this.2.1]; omega) (by rw [HLF.out.2.2.2.2]; exact fun x hx => HARG.out.2.2.1 x (mid_mem.1 hx).1) W3 (Nat.le_refl _) (by omega) (by omega) cB3 hsl3 (fun g e h0 => ⟨Nat.lt_of_lt_of_le (HSG.out.2 g e h0).1 HWK3.out.2.size, (HSG.out.2 g e h0).2⟩)
 clear cB3 hs3 hW3 hsl3
 refine wpIn_wide.1 (wpIn_rangeFunc_ownF (F := Fence.wide) (n := 3) rfl (by omega) (gf := 88) (lb := #[.pointer (some ⟨w7.heap.size, 0, none⟩)]) rfl trivial (enters_of Tryz.func88 (by kernel_rfl) rfl)
  hseq (fun h k => But.trans h k) (butK_b (Nat.le_refl _)) (Below.refl _ _) (fun _ => rfl)
  (fun pre Wx => But W3.heap.size wb W3 Wx ∧ Wk B Wx wb (rF zp bs (ms, zc) pre).1 (rF zp bs (ms, zc) pre).2 zp bs ∧ FitQ (rF zp bs (ms, zc) pre).1 (rF zp bs (ms, zc) pre).2)
  (fun c pre Wx => False)
  (fun pre A C row hh hgr hrr => ⟨hh.1.row hgr hh.1.size (fun r e => (hrr r e).1), hh.2.1.row hgr (fun r e => (hrr r e).2), hh.2.2⟩)
  (fun c pre A C row hh hgr hrr => hh)
  ⟨But.refl _ _ _, HWK3.out.1, HARG.out.2.2.2.1⟩ ?a1 ?assign ?body ?done ?stop)
 case assign =>
  intro l x Wx K hK
  simp only [encK]
  gi_wp2
  exact hK
 case body =>
  rintro l pre x Wx ⟨i1, i2, i3⟩ hpre
  have c4x := i1.cell (p := ⟨w.heap.size, 0, none⟩) (by have := hb3.size; simp; omega) (by simp; omega) hc4
  have hxl := x.isLt
  have hWx : W3.heap.size ≤ Wx.heap.size := i1.size
  have hzs : Srt zp := by
   rw [HZ.out.2.2]
   refine srt_join (lo_srt HARG.out.1 _) (hi_srt HARG.out.1 _) (fun a ha b hb => ?_)
   have h1 := (lo_mem.1 ha).2
   have h2 := (hi_mem.1 hb).2
   have h3 := HGG.out
   omega
  have hzl : zp.length ≤ 1073741824 := by
   have q1 := lo_len ps first
   have q2 := hi_len ps last
   have q3 := HARG.out.2.1
   rw [HZ.out.2.2, List.length_append]
   omega
  cases hu : usedN zp x.val with
  | true =>
   have u2 : rF zp bs (ms, zc) (pre ++ [x]) = rF zp bs (ms, zc) pre := by rw [rF_snoc, stepR, if_pos hu]
   have KK := grelease72_used B wb x.val bs _ _ zp Wx i2 hzs hzl (by omega) hu
   have HE : Hid (∀ w', Wk B w' wb (rF zp bs (ms, zc) pre).1 (rF zp bs (ms, zc) pre).2 zp bs → Wx.grownBy w' (some wb) → KeepsOthers Wx w' ∧ But W3.heap.size wb Wx w' ∧ (But W3.heap.size wb W3 w' ∧ Wk B w' wb (rF zp bs (ms, zc) (pre ++ [x])).1 (rF zp bs (ms, zc) (pre ++ [x])).2 zp bs ∧ FitQ (rF zp bs (ms, zc) (pre ++ [x])).1 (rF zp bs (ms, zc) (pre ++ [x])).2)) := fun w' h1 h2 =>
    ⟨KeepsOthers.of_grownBy h2 i2.cells, But.grown h2 hWx, i1.trans (But.grown h2 hWx), by rw [u2]; exact h1, by rw [u2]; exact i3⟩
   clear u2 hu i3 i2 i1 hzs hzl
   gi_wp2_with (first | (gi_at_call 86; refine (CallsIn.inRound l (callsIn_wide.2 KK)).mono ?_; rintro e w' ⟨rfl, hk', hg'⟩) | (refine ⟨trivial, ?_⟩; gi_at_call 86; refine (CallsIn.inRound l (callsIn_wide.2 KK)).mono ?_; rintro e w' ⟨rfl, hk', hg'⟩))
   exact HE.out _ hk' hg'
  | false =>
   have u2 : rF zp bs (ms, zc) (pre ++ [x]) = (lo (rF zp bs (ms, zc) pre).1 (hp bs x.val) ++ hi (rF zp bs (ms, zc) pre).1 (hp bs x.val + 1 - 1), lo (rF zp bs (ms, zc) pre).2 (hp bs x.val * 16384) ++ hi (rF zp bs (ms, zc) pre).2 ((hp bs x.val + 1 - 1) * 16384 + 16383)) := by rw [rF_snoc, stepR, if_neg (by rw [hu]; simp)]
   have KK := grelease72 B wb x.val bs (hp bs x.val) _ _ zp Wx i2 hzs hzl (by omega) hu HARG.out.2.2.2.2 rfl i3
   have f2 := fit_unmap i3 (hp bs x.val) 1 (by omega)
   have HE : Hid (∀ w', Wk B w' wb (lo (rF zp bs (ms, zc) pre).1 (hp bs x.val) ++ hi (rF zp bs (ms, zc) pre).1 (hp bs x.val + 1 - 1)) (lo (rF zp bs (ms, zc) pre).2 (hp bs x.val * 16384) ++ hi (rF zp bs (ms, zc) pre).2 ((hp bs x.val + 1 - 1) * 16384 + 16383)) zp bs → Wx.grownBy w' (some wb) → KeepsOthers Wx w' ∧ But W3.heap.size wb Wx w' ∧ (But W3.heap.size wb W3 w' ∧ Wk B w' wb (rF zp bs (ms, zc) (pre ++ [x])).1 (rF zp bs (ms, zc) (pre ++ [x])).2 zp bs ∧ FitQ (rF zp bs (ms, zc) (pre ++ [x])).1 (rF zp bs (ms, zc) (pre ++ [x])).2)) := fun w' h1 h2 =>
    ⟨KeepsOthers.of_grownBy h2 i2.cells, But.grown h2 hWx, i1.trans (But.grown h2 hWx), by rw [u2]; exact h1, by rw [u2]; exact f2⟩
   clear u2 hu i3 i2 i1 hzs hzl f2
   gi_wp2_with (first | (gi_at_call 86; refine (CallsIn.inRound l (callsIn_wide.2 KK)).mono ?_; rintro e w' ⟨rfl, hk', hg'⟩) | (refine ⟨trivial, ?_⟩; gi_at_call 86; refine (CallsIn.inRound l (callsIn_wide.2 KK)).mono ?_; rintro e w' ⟨rfl, hk', hg'⟩))
   exact HE.out _ hk' hg'
 case done =>
  rintro D ys Wx hD rfl ⟨i1, i2, i3⟩ hKD
  rw [← HZ.out.1, ← HZ.out.2.1] at i2
  have HF : Hid (Wx.heap[D]? = some (.deferred (some [])) ∧ Wk B (Wx.putObj D (.deferred none)) wb zm2 zc2 zp bs ∧ w.grownBy (Wx.putObj D (.deferred none)) (some wb)) := ⟨hKD, i2.taken hKD, grown_row (grown_but HWK3.out.2 i1 (by have := HWK3.out.2.size; omega)) (grownBy_putObj' Wx D _) (fun r e => by have := HWK3.out.2.size; cases e; omega)⟩
  clear i1 i2 i3 hKD
  go_wp2
  (try simp only [Exit.inBlock, Exit.then])
  refine ⟨by simp, .inl ⟨_, _, rfl, run_takeDeferred HF.out.1, ?_⟩⟩
  exact ⟨_, results_none rfl _ _ _, rfl, HF.out.2.1, HF.out.2.2⟩
 case stop =>
  rintro D c pre Wx hD hSp h _
  exact h.elim
end Go.Proofs.YtkpmkgkfpikpfaaGreat
