/- What is proved here: free room, from the top downwards. -/
import Derived.Test.YtkpmkgkfpikpfaaGreatStd
import Derived.Test.YtkpmkgkfpikpfaaGreatSb
import Derived.Test.YtkpmkgkfpikpfaaGreatSw
namespace Go.Proofs.YtkpmkgkfpikpfaaGreat
open Go.RowKit Go.Shelf
set_option linter.unusedVariables false
set_option linter.unusedSimpArgs false
set_option maxRecDepth 100000
attribute [local go_sem] Oper.semAt_some
def frR (n : Nat) : List (Nat × Nat) → Nat → Option Nat
 | [], _ => none
 | t :: r, b => if t.2 + n ≤ b then some (b - n) else frR n r (if t.1 < b then t.1 else b)
theorem bwT_pre (ts : List (Nat × Nat)) (k : Nat) : ∀ m, k ≤ m → ∃ rest, bwT ts m = bwT ts k ++ rest
 | 0, h => by
  have e : k = 0 := by omega
  exact ⟨[], by rw [e]; simp⟩
 | m + 1, h => by
  by_cases e : k = m + 1
  ·exact ⟨[], by rw [e]; simp⟩
  ·obtain ⟨r, hr⟩ := bwT_pre ts k m (by omega)
   exact ⟨r ++ [(bwI ts m).2], by rw [bwT_succ, hr, List.append_assoc]⟩
def FrTold (w : World) (ps : List (Nat × Int)) (st en n : Nat) (e : Ending) (w' : World) : Prop := ∃ ts, ts.Perm (takenL ps st en) ∧ RiseS ts ∧ e = .returned (.tuple #[.int .u32 ((frR n (bwT ts ts.length) 458752).getD 0 : Int), .int .i64 (if (frR n (bwT ts ts.length) 458752).isSome then 0 else 12)]) ∧ Below w.heap.size w w'
theorem frR_go (n b : Nat) (t : Nat × Nat) (r : List (Nat × Nat)) (h : ¬ t.2 + n ≤ b) : frR n (t :: r) b = frR n r (if t.1 < b then t.1 else b) := by rw [frR, if_neg h]
theorem frR_stop (n b : Nat) (t : Nat × Nat) (r : List (Nat × Nat)) (h : t.2 + n ≤ b) : frR n (t :: r) b = some (b - n) := by rw [frR, if_pos h]
theorem taken_lt {ps : List (Nat × Int)} {st en : Nat} (hps : ∀ x ∈ ps, x.1 < 1048576) (hen : en < 4294967296) (hst : st < 4294967296) {t : Nat × Nat} (h : t ∈ takenL ps st en) : t.1 ≤ 1048576 ∧ t.2 ≤ 1048576 := by
 have hg : pgN en ≤ 1048576 := by unfold pgN; omega
 simp only [takenL, tkL, List.mem_append, List.mem_cons, List.mem_map] at h
 rcases h with (rfl | ⟨p, hp, rfl⟩) | h
 ·exact ⟨by decide, by decide⟩
 ·have := hps p (List.mem_of_mem_take hp)
  exact ⟨by show p.1 ≤ _; omega, by show p.1 + 1 ≤ _; omega⟩
 ·split at h
  ·simp at h; subst h; exact ⟨by show st / 4096 ≤ _; omega, hg⟩
  ·cases h
theorem fr_start (w : World) (a0 a1 a2 a3 a4 a5 v1 v2 v3 v4 : Value) : ∃ X, ((((w.alloc (.cells #[a0, a1, a2, a3, a4, a5] 32)).alloc (.cells #[v1] 30)).alloc (.cells #[v2] 30)).alloc (.cells #[v3] 35)).alloc (.cells #[v4] 30) = X ∧ Below w.heap.size w X ∧ X.heap.size = w.heap.size + 5 ∧
  B6 X w.heap.size 32 a0 a1 a2 a3 a4 a5 ∧ Boxed X (w.heap.size + 1) 30 v1 ∧ Boxed X (w.heap.size + 2) 30 v2 ∧ Boxed X (w.heap.size + 3) 35 v3 ∧ Boxed X (w.heap.size + 4) 30 v4 := by
 obtain ⟨w1, h1⟩ : ∃ z, w.alloc (.cells #[a0, a1, a2, a3, a4, a5] 32) = z := ⟨_, rfl⟩
 obtain ⟨w2, h2⟩ : ∃ z, w1.alloc (.cells #[v1] 30) = z := ⟨_, rfl⟩
 obtain ⟨w3, h3⟩ : ∃ z, w2.alloc (.cells #[v2] 30) = z := ⟨_, rfl⟩
 obtain ⟨w4, h4⟩ : ∃ z, w3.alloc (.cells #[v3] 35) = z := ⟨_, rfl⟩
 obtain ⟨w5, h5⟩ : ∃ z, w4.alloc (.cells #[v4] 30) = z := ⟨_, rfl⟩
 have s1 : w1.heap.size = w.heap.size + 1 := by rw [← h1]; simp
 have s2 : w2.heap.size = w.heap.size + 2 := by rw [← h2]; simp; omega
 have s3 : w3.heap.size = w.heap.size + 3 := by rw [← h3]; simp; omega
 have s4 : w4.heap.size = w.heap.size + 4 := by rw [← h4]; simp; omega
 have s5 : w5.heap.size = w.heap.size + 5 := by rw [← h5]; simp; omega
 have b1 : Below w.heap.size w w1 := by rw [← h1]; exact (Below.refl _ _).alloc (Nat.le_refl _) _
 have b2 : Below w1.heap.size w1 w2 := by rw [← h2]; exact (Below.refl _ _).alloc (Nat.le_refl _) _
 have b3 : Below w2.heap.size w2 w3 := by rw [← h3]; exact (Below.refl _ _).alloc (Nat.le_refl _) _
 have b4 : Below w3.heap.size w3 w4 := by rw [← h4]; exact (Below.refl _ _).alloc (Nat.le_refl _) _
 have b5 : Below w4.heap.size w4 w5 := by rw [← h5]; exact (Below.refl _ _).alloc (Nat.le_refl _) _
 have c0 : B6 w1 w.heap.size 32 a0 a1 a2 a3 a4 a5 := by rw [← h1]; exact B6.new w 32 _ _ _ _ _ _
 have c1 : Boxed w2 (w.heap.size + 1) 30 v1 := by rw [← h2, ← s1]; exact Boxed.new w1 30 v1
 have c2 : Boxed w3 (w.heap.size + 2) 30 v2 := by rw [← h3, ← s2]; exact Boxed.new w2 30 v2
 have c3 : Boxed w4 (w.heap.size + 3) 35 v3 := by rw [← h4, ← s3]; exact Boxed.new w3 35 v3
 have c4 : Boxed w5 (w.heap.size + 4) 30 v4 := by rw [← h5, ← s4]; exact Boxed.new w4 30 v4
 refine ⟨w5, by rw [h1, h2, h3, h4, h5], below_tr b1 (below_tr b2 (below_tr b3 (below_tr b4 b5))), s5, c0.keep (below_tr b2 (below_tr b3 (below_tr b4 b5))), ((below_tr b3 (below_tr b4 b5)).block _ c1.lt).trans c1, ((below_tr b4 b5).block _ c2.lt).trans c2, (b5.block _ c3.lt).trans c3, c4⟩
structure FrI (w : World) (n : Nat) (f : Nat) (e : Int) (bh : Nat) (Wx : World) : Prop where
 nn : Boxed Wx (w.heap.size + 1) 30 (.int .u32 (n : Int))
 fi : Boxed Wx (w.heap.size + 2) 30 (.int .u32 (f : Int))
 er : Boxed Wx (w.heap.size + 3) 35 (.int .i64 e)
 bh : Boxed Wx (w.heap.size + 4) 30 (.int .u32 (bh : Int))
 bel : Below w.heap.size w Wx
theorem FrI.keep {w : World} {n f : Nat} {e : Int} {bh : Nat} {A B : World} (h : FrI w n f e bh A) (hb : Below A.heap.size A B) : FrI w n f e bh B :=
 ⟨(hb.block _ h.nn.lt).trans h.nn, (hb.block _ h.fi.lt).trans h.fi, (hb.block _ h.er.lt).trans h.er, (hb.block _ h.bh.lt).trans h.bh, below_tr h.bel hb⟩
theorem FrI.grown {w : World} {n f : Nat} {e : Int} {bh : Nat} {A B : World} {row : Option Nat} (h : FrI w n f e bh A) (hg : A.grownBy B row) (hr : ∀ r, row = some r → w.heap.size + 5 ≤ r) : FrI w n f e bh B :=
 ⟨h.nn.kept hg (fun e => by have := hr _ e.symm; omega), h.fi.kept hg (fun e => by have := hr _ e.symm; omega), h.er.kept hg (fun e => by have := hr _ e.symm; omega), h.bh.kept hg (fun e => by have := hr _ e.symm; omega), h.bel.grown hg h.bel.size (fun k e => by have := hr k e; omega)⟩
theorem FrI.setBh {w : World} {n f : Nat} {e : Int} {bh : Nat} {A : World} (h : FrI w n f e bh A) (b : Nat) : FrI w n f e b (A.setCell ⟨w.heap.size + 4, 0, none⟩ (.int .u32 (b : Int))) :=
 ⟨h.nn.other (by omega) _, h.fi.other (by omega) _, h.er.other (by omega) _, h.bh.set _, h.bel.setCell (by show w.heap.size ≤ w.heap.size + 4; omega) _⟩
theorem FrI.setFE {w : World} {n f : Nat} {e : Int} {bh : Nat} {A : World} (h : FrI w n f e bh A) (f' : Nat) (e' : Int) : FrI w n f' e' bh ((A.setCell ⟨w.heap.size + 2, 0, none⟩ (.int .u32 (f' : Int))).setCell ⟨w.heap.size + 3, 0, none⟩ (.int .i64 e')) :=
 ⟨(h.nn.other (by omega) _).other (by omega) _, (h.fi.set _).other (by omega) _, (h.er.other (by omega) _).set _, (h.bh.other (by omega) _).other (by omega) _, (h.bel.setCell (by show w.heap.size ≤ w.heap.size + 2; omega) _).setCell (by show w.heap.size ≤ w.heap.size + 3; omega) _⟩
theorem fr_end {w : World} {n f : Nat} {e : Int} {bh : Nat} {Wx : World} {D : Nat} (h : FrI w n f e bh Wx) (hK : Wx.heap[D]? = some (.deferred (some []))) (hD : w.heap.size + 5 ≤ D) :
  ((Wx.setCell ⟨w.heap.size + 2, 0, none⟩ (.int .u32 (f : Int))).setCell ⟨w.heap.size + 3, 0, none⟩ (.int .i64 e)).drew.heap[D]? = some (.deferred (some [])) ∧
  (((Wx.setCell ⟨w.heap.size + 2, 0, none⟩ (.int .u32 (f : Int))).setCell ⟨w.heap.size + 3, 0, none⟩ (.int .i64 e)).drew.putObj D (.deferred none)).cell? ⟨w.heap.size + 2, 0, none⟩ = some (.int .u32 (f : Int)) ∧
  (((Wx.setCell ⟨w.heap.size + 2, 0, none⟩ (.int .u32 (f : Int))).setCell ⟨w.heap.size + 3, 0, none⟩ (.int .i64 e)).drew.putObj D (.deferred none)).cell? ⟨w.heap.size + 3, 0, none⟩ = some (.int .i64 e) ∧
  Below w.heap.size w (((Wx.setCell ⟨w.heap.size + 2, 0, none⟩ (.int .u32 (f : Int))).setCell ⟨w.heap.size + 3, 0, none⟩ (.int .i64 e)).drew.putObj D (.deferred none)) := by
 have h2 := h.setFE f e
 obtain ⟨Y, hY⟩ : ∃ z, (Wx.setCell ⟨w.heap.size + 2, 0, none⟩ (.int .u32 (f : Int))).setCell ⟨w.heap.size + 3, 0, none⟩ (.int .i64 e) = z := ⟨_, rfl⟩
 rw [hY] at h2 ⊢
 have hKY : Y.heap[D]? = some (.deferred (some [])) := by
  rw [← hY, heap_other _ _ _ _ _ (by omega), heap_other _ _ _ _ _ (by omega)]; exact hK
 have hb : Below Y.heap.size Y Y.drew := (Below.refl _ _).drew
 have h3 := (h2.keep hb).grown (grownBy_putObj' Y.drew D (.deferred none)) (fun r e => by cases e; exact hD)
 exact ⟨hKY, h3.fi.cell, h3.er.cell, h3.bel⟩
set_option maxHeartbeats 4000000 in
theorem freeRoom50 (vm vc vp : Value) (bs st en n : Nat) (ps : List (Nat × Int)) (w : World) (hm : ∃ a n p, vm = .slice a n p) (hc : ∃ a n p, vc = .slice a n p) (hp : Pg.Sl .i64 w vp ps) (hps : ∀ x ∈ ps, x.1 < 1048576) (hl : ps.length ≤ 256) (hst : st < 4294967296) (hen : en < 4294967296) (hn : n ≤ 256) :
  Calls Tryz.prog 50 #[.agg #[vm, vc, .int .u64 (bs : Int), vp, .int .u32 (st : Int), .int .u32 (en : Int)], .int .u32 (n : Int)] w (FrTold w ps st en n) := by
 obtain ⟨am, nm, pm, rfl⟩ := hm
 obtain ⟨ac, nc, pc, rfl⟩ := hc
 obtain ⟨ap, np, pp, rfl⟩ : ∃ a n p, vp = .slice a n p := by obtain ⟨a, p, h, _⟩ := hp; exact ⟨_, _, _, h⟩
 obtain ⟨X, hX, hbX, hsX, b6, k1, k2, k3, k4⟩ := fr_start w (.slice am nm pm) (.slice ac nc pc) (.int .u64 (bs : Int)) (.slice ap np pp) (.int .u32 (st : Int)) (.int .u32 (en : Int)) (.int .u32 (n : Int)) (.int .u32 0) (.int .i64 12) (.int .u32 458752)
 have K80 := taken80 (.slice am nm pm) (.slice ac nc pc) (.slice ap np pp) bs st en ps X ⟨_, _, _, rfl⟩ ⟨_, _, _, rfl⟩ (hp.keep hbX) hps hl hst hen
 have HTL : Hid (∀ t ∈ takenL ps st en, t.1 ≤ 1048576 ∧ t.2 ≤ 1048576) := fun t ht => taken_lt hps hen hst ht
 have HTN : Hid ((takenL ps st en).length ≤ 1000) := by
  show _ ≤ _
  have e := tkL_len ps ps.length (Nat.le_refl _)
  rw [takenL, List.length_append, e]
  split <;> simp <;> omega
 have HF0 : Hid (FrI w n 0 12 458752 X) := ⟨k1, k2, k3, k4, hbX⟩
 have HSX : Hid (X.heap.size = w.heap.size + 5) := hsX
 have HPS : Hid (n ≤ 256) := hn
 obtain ⟨d0, d1, d2, d3, d4, d5⟩ := b6.cells
 clear hp hps hl hst hen k1 k2 k3 k4 hbX b6 hsX
 refine callsIn_wide.1 (callsIn_of_wp_marks (F := Fence.wide) (n := 6) Tryz.func50 rfl trivial ?_ rfl)
 simp only [Tryz.ntmps50, List.size_toArray, List.length_cons, List.length_nil, Nat.reduceAdd, Nat.reduceSub, Array.replicate_succ, Array.replicate_zero, List.push_toArray, List.append_toArray, List.nil_append, List.cons_append]
 refine wpIn_wide.2 ?_
 go_wp2
 go_step3
 go_wp2
 go_step3
 go_wp2_with fail
 refine K80.mono ?_
 rintro e w3 ⟨rfl, g, cap, ts, hpm, hrs, hLb, hsa, hg1, hg2, hg3, hb3⟩
 clear K80
 have hsX := HSX.out
 rw [hsX] at hLb hg1 hg2
 have hI3 := HF0.out.keep hb3
 have hsz3 := hb3.size
 have hLl := hLb.lt
 have hlen : ts.length ≤ 1000 := by rw [hpm.length_eq]; exact HTN.out
 have hseq := taken97 (6 - 1) (by decide) (w.heap.size + 7) g cap ts hlen w3 hLb.cell hsa hLl hg3 (w.heap.size + 4) (w3.heap.size + 1) (by omega) (by omega) (by omega) (by omega)
 have HTB : Hid (∀ k, k < ts.length → (bwI ts k).2.1 ≤ 1048576 ∧ (bwI ts k).2.2 ≤ 1048576) := fun k hk => by
  have hj : ts.length - 1 - k < ts.length := by omega
  have : (bwI ts k).2 = ts[ts.length - 1 - k] := by unfold bwI; simp [hj]
  rw [this]
  exact HTL.out _ (hpm.mem_iff.1 (List.getElem_mem hj))
 have HPM : Hid (ts.Perm (takenL ps st en) ∧ RiseS ts) := ⟨hpm, hrs⟩
 obtain ⟨FR, hFR⟩ : ∃ z, z = frR n (bwT ts ts.length) 458752 := ⟨_, rfl⟩
 have HFR : Hid (FR = frR n (bwT ts ts.length) 458752) := hFR
 have HPRE : Hid (∀ k, k ≤ ts.length → ∃ rest, bwT ts ts.length = bwT ts k ++ rest) := fun k hk => bwT_pre ts k ts.length hk
 clear hFR hpm hrs hlen hb3 hg1 hg2 HF0 HTL HTN
 go_wp2
 refine wpIn_wide.1 (wpIn_range_ny (n := 6) (by decide) (gf := 97) rfl (enters_of Tryz.func97 (by kernel_rfl) rfl)
  hseq (by omega) (fun h k => h.trans k) (fun Wq o o' ho _ _ => Kx.grown (grownBy_putObj' Wq _ o') (fun r e => by cases e; exact .inr rfl)) (Below.refl _ _) (fun _ => rfl)
  (fun pre Wx => ∃ bh, bh ≤ 458752 ∧ FrI w n 0 12 bh Wx ∧ w3.heap.size ≤ Wx.heap.size ∧ ∀ rest, frR n (pre ++ rest) 458752 = frR n rest bh)
  (fun c pre Wx => c = .exit 0 ∧ ∃ bh f, FrI w n f 0 bh Wx ∧ ∀ rest, frR n (pre ++ rest) 458752 = some f)
  (fun pre A C row hh hgr hrr => by obtain ⟨bh, h1, h2, h3, h4⟩ := hh; exact ⟨bh, h1, h2.grown hgr (fun r e => by have := (hrr r e).1; omega), Nat.le_trans h3 hgr.size, h4⟩)
  (fun c pre A C row hh hgr hrr => by obtain ⟨h1, bh, f, h2, h3⟩ := hh; exact ⟨h1, bh, f, h2.grown hgr (fun r e => by have := (hrr r e).1; omega), h3⟩)
  ⟨458752, Nat.le_refl _, hI3, Nat.le_refl _, fun rest => rfl⟩
  (fun x a' Wx => ∃ B v7, a' = { tmps := #[.agg #[.slice am nm pm, .slice ac nc pc, .int .u64 (bs : Int), .slice ap np pp, .int .u32 (st : Int), .int .u32 (en : Int)], .int .u32 (n : Int), .pointer (some ⟨w.heap.size, 0, none⟩), .pointer (some ⟨w.heap.size + 1, 0, none⟩), .pointer (some ⟨w.heap.size + 2, 0, none⟩), .pointer (some ⟨w.heap.size + 3, 0, none⟩), .pointer (some ⟨w.heap.size + 4, 0, none⟩), .pointer (some ⟨B, 0, none⟩), .agg #[.slice am nm pm, .slice ac nc pc, .int .u64 (bs : Int), .slice ap np pp, .int .u32 (st : Int), .int .u32 (en : Int)], v7, .agg #[.int .u32 (x.1 : Int), .int .u32 (x.2 : Int)], undef, undef, undef, undef, undef, undef, undef, undef, undef, undef, undef, undef, undef, undef, undef, undef, undef, undef, undef], defers := [] } ∧ w3.heap.size ≤ B ∧ Wx.heap[B]? = some (.cells #[.int .u32 (x.1 : Int), .int .u32 (x.2 : Int)] 120 (0, 0)))
  (fun x a' s A C row hh hgr hrr => ?hAx) ?assign ?body ?done ?stop)
 case hAx =>
  obtain ⟨B, v7, e1, e2, e3⟩ := hh
  refine ⟨B, v7, e1, e2, (hgr.block B (Array.getElem?_eq_some_iff.1 e3).1 (fun e => ?_)).trans e3⟩
  obtain ⟨_, o, h1, h2⟩ := hrr B e.symm
  rw [e3] at h1
  cases h1
  simp [Obj.isCells] at h2
 case assign =>
  intro l' pre x Wx K hnx hi hK
  simp only [encT]
  gi_wp2
  obtain ⟨bh, i1, i2, i3, i4⟩ := hi
  have hb' : Below Wx.heap.size Wx (Wx.alloc (.cells #[.int .u32 (x.1 : Int), .int .u32 (x.2 : Int)] 120)) := (Below.refl _ _).alloc (Nat.le_refl _) _
  refine hK _ _ (keeps_below hb' _) (Kx.below hb') ⟨bh, i1, i2.keep hb', Nat.le_trans i3 hb'.size, i4⟩ ⟨_, _, rfl, i3, heap_alloc_new Wx _⟩
 case body =>
  rintro l' pre x a' Wx ⟨k, hk, hpre, hx⟩ ⟨bh, i1, i2, i3, i4⟩ ⟨B, v7, rfl, hB, hBc⟩
  obtain ⟨xb1, xb2⟩ := HTB.out k hk
  rw [← hx] at xb1 xb2
  have q0 : Wx.cell? ⟨B, 0, none⟩ = some (.int .u32 (x.1 : Int)) := by simp [World.cell?, hBc]
  have q1 : Wx.cell? ⟨B, 1, none⟩ = some (.int .u32 (x.2 : Int)) := by simp [World.cell?, hBc]
  have cn := i2.nn.cell
  have cb := i2.bh.cell
  have fb := i2.bh.frozen
  have cf := i2.fi.cell
  have ff := i2.fi.frozen
  have ce := (i2.er.other (B' := w.heap.size + 2) (by omega) (.int .u32 ((bh - n : Nat) : Int))).cell
  have fe := (i2.er.other (B' := w.heap.size + 2) (by omega) (.int .u32 ((bh - n : Nat) : Int))).frozen
  have hn := HPS.out
  obtain ⟨u, hu⟩ : ∃ z, z = x.2 + n := ⟨_, rfl⟩
  have a1 : ((x.2 : Int) + (n : Int)) % 4294967296 = (u : Int) := by omega
  have a2 : ((x.2 : Int) + (n : Int)) = (u : Int) := by omega
  by_cases hs : x.2 + n ≤ bh
  ·have hsI : (u : Int) ≤ (bh : Int) := by omega
   have hsN : u ≤ bh := by omega
   obtain ⟨f, hf⟩ : ∃ z, z = bh - n := ⟨_, rfl⟩
   have a3 : ((bh : Int) - (n : Int)) % 4294967296 = (f : Int) := by omega
   have a4 : ((bh : Int) - (n : Int)) = (f : Int) := by omega
   rw [← hf] at ce fe
   have HE : Hid (KeepsFrom w3.heap.size Wx ((Wx.setCell ⟨w.heap.size + 2, 0, none⟩ (.int .u32 (f : Int))).setCell ⟨w.heap.size + 3, 0, none⟩ (.int .i64 0)) ∧ FrI w n f 0 bh ((Wx.setCell ⟨w.heap.size + 2, 0, none⟩ (.int .u32 (f : Int))).setCell ⟨w.heap.size + 3, 0, none⟩ (.int .i64 0)) ∧ ∀ rest, frR n ((pre ++ [x]) ++ rest) 458752 = some f) :=
    ⟨((KeepsOthers.setCell _ _ _).trans (KeepsOthers.setCell _ _ _)).from _, i2.setFE f 0, fun rest => by rw [List.append_assoc, i4, List.singleton_append, frR_stop _ _ _ _ hs, hf]⟩
   clear hseq hx hpre i1 i2 i3 i4 hu hf hs HTB
   gi_wp2
   exact ⟨HE.out.1, rfl, bh, f, HE.out.2.1, HE.out.2.2⟩
  ·have hsI : ¬ (u : Int) ≤ (bh : Int) := by omega
   have hsN : ¬ u ≤ bh := by omega
   by_cases hlt : x.1 < bh
   ·have hlI : (x.1 : Int) < (bh : Int) := by omega
    have HE : Hid (KeepsFrom w3.heap.size Wx (Wx.setCell ⟨w.heap.size + 4, 0, none⟩ (.int .u32 (x.1 : Int))) ∧ Kx (w.heap.size + 4) (w3.heap.size + 1) Wx (Wx.setCell ⟨w.heap.size + 4, 0, none⟩ (.int .u32 (x.1 : Int))) ∧ ∃ b2, b2 ≤ 458752 ∧ FrI w n 0 12 b2 (Wx.setCell ⟨w.heap.size + 4, 0, none⟩ (.int .u32 (x.1 : Int))) ∧ w3.heap.size ≤ (Wx.setCell ⟨w.heap.size + 4, 0, none⟩ (.int .u32 (x.1 : Int))).heap.size ∧ ∀ rest, frR n ((pre ++ [x]) ++ rest) 458752 = frR n rest b2) :=
     ⟨(KeepsOthers.setCell _ _ _).from _, ⟨by simp, fun k hk h1 _ => heap_other Wx (w.heap.size + 4) 0 k _ h1⟩, x.1, by omega, i2.setBh x.1, by simpa using i3, fun rest => by rw [List.append_assoc, i4, List.singleton_append, frR_go _ _ _ _ hs, if_pos hlt]⟩
    clear hseq hx hpre i1 i2 i3 i4 hu hs HTB
    gi_wp2
    exact HE.out
   ·have hlI : ¬ (x.1 : Int) < (bh : Int) := by omega
    have HE : Hid (KeepsFrom w3.heap.size Wx Wx ∧ Kx (w.heap.size + 4) (w3.heap.size + 1) Wx Wx ∧ ∃ b2, b2 ≤ 458752 ∧ FrI w n 0 12 b2 Wx ∧ w3.heap.size ≤ Wx.heap.size ∧ ∀ rest, frR n ((pre ++ [x]) ++ rest) 458752 = frR n rest b2) :=
     ⟨KeepsFrom.refl _ _, Kx.below (Below.refl _ _), bh, i1, i2, i3, fun rest => by rw [List.append_assoc, i4, List.singleton_append, frR_go _ _ _ _ hs, if_neg hlt]⟩
    clear hseq hx hpre i1 i2 i3 i4 hu hs HTB
    gi_wp2
    exact HE.out
 case done =>
  rintro D xs Wx hD hS ⟨bh, i1, i2, i3, i4⟩ hK
  have HFN : Hid (FR = none) := by
   show _ = _
   have h := i4 []
   rw [List.append_nil, hS] at h
   rw [HFR.out, h]; rfl
  have cf := i2.fi.cell
  have ff := i2.fi.frozen
  have ce := i2.er.cell
  have fe := i2.er.frozen
  have HKE : Hid _ := fr_end i2 hK (by omega)
  clear hseq hS i1 i2 i3 i4 HTB HPRE hK
  go_wp2
  go_region
  go_wp2
  rw [Exit.noGoto_ret]
  obtain ⟨u0, u1, u2, u3⟩ := HKE.out
  refine ⟨by simp, .inl ⟨_, _, rfl, run_takeDeferred u0, ?_⟩⟩
  refine ⟨.tuple #[.int .u32 0, .int .i64 12], ?_, ts, HPM.out.1, HPM.out.2, by rw [← HFR.out, HFN.out]; rfl, u3⟩
  rw [results_cells rfl]
  simp only [Int.natCast_zero] at u1 u2
  simp only [show w.heap.size + 1 + 1 = w.heap.size + 2 from rfl, show w.heap.size + 2 + 1 = w.heap.size + 3 from rfl]
  simp [go_sem, u1, u2]
 case stop =>
  rintro D c pre Wx hD ⟨k, hk, hpre⟩ ⟨rfl, bh, f, i2, i4⟩ hK
  have HFN : Hid (FR = some f) := by
   show _ = _
   obtain ⟨rest, hr⟩ := HPRE.out (k + 1) hk
   rw [HFR.out, hr, ← hpre]
   exact i4 rest
  have cf := i2.fi.cell
  have ff := i2.fi.frozen
  have ce := i2.er.cell
  have fe := i2.er.frozen
  have HKE : Hid _ := fr_end i2 hK (by omega)
  clear hseq hpre i2 i4 HTB HPRE hK hk
  refine wpIn_wide.2 ?_
  go_wp2
  go_region
  go_wp2
  rw [Exit.noGoto_ret]
  obtain ⟨u0, u1, u2, u3⟩ := HKE.out
  refine ⟨by simp, .inl ⟨_, _, rfl, run_takeDeferred u0, ?_⟩⟩
  refine ⟨.tuple #[.int .u32 (f : Int), .int .i64 0], ?_, ts, HPM.out.1, HPM.out.2, by rw [← HFR.out, HFN.out]; rfl, u3⟩
  rw [results_cells rfl]
  simp only [show w.heap.size + 1 + 1 = w.heap.size + 2 from rfl, show w.heap.size + 2 + 1 = w.heap.size + 3 from rfl]
  simp [go_sem, u1, u2]
end Go.Proofs.YtkpmkgkfpikpfaaGreat
namespace Go.Proofs.YtkpmkgkfpikpfaaGreat
open Go.RowKit
set_option linter.unusedVariables false
set_option linter.unusedSimpArgs false
set_option maxRecDepth 100000
def FpIs (ps : List (Nat × Int)) (st en a n : Nat) (fixed : Bool) (f : Nat) (err : Int) : Prop :=
 ((256 < n ∨ fixed = true ∧ 1048576 < a / 4096 + n) ∧ f = 0 ∧ err = 12) ∨
 (n ≤ 256 ∧ (fixed = true ∧ a / 4096 + n ≤ 1048576 ∨ fixed = false ∧ a ≠ 0 ∧ a % 4096 = 0 ∧ a / 4096 + n ≤ 458752 ∧ someB ps (a / 4096) n = false) ∧ f = a / 4096 ∧ err = 0) ∨
 (n ≤ 256 ∧ fixed = false ∧ ¬ (a ≠ 0 ∧ a % 4096 = 0 ∧ a / 4096 + n ≤ 458752 ∧ someB ps (a / 4096) n = false) ∧ ∃ ts, ts.Perm (takenL ps st en) ∧ RiseS ts ∧ f = (frR n (bwT ts ts.length) 458752).getD 0 ∧ err = if (frR n (bwT ts ts.length) 458752).isSome then 0 else 12)
def FpTold (ps : List (Nat × Int)) (st en a n : Nat) (fixed : Bool) (w : World) (e : Ending) (w' : World) : Prop := ∃ f : Nat, ∃ err : Int, e = .returned (.tuple #[.int .u32 (f : Int), .int .i64 err]) ∧ FpIs ps st en a n fixed f err ∧ Below w.heap.size w w'
set_option maxHeartbeats 4000000 in
theorem firstPage28 (vm vc vp : Value) (bs st en a n : Nat) (fixed : Bool) (ps : List (Nat × Int)) (w : World) (hm : ∃ a n p, vm = .slice a n p) (hc : ∃ a n p, vc = .slice a n p) (hp : Pg.Sl .i64 w vp ps) (hps : ∀ x ∈ ps, x.1 < 1048576) (hl : ps.length ≤ 256) (hst : st < 4294967296) (hen : en < 4294967296) (ha : a < 4294967296) (hn : n ≤ 1048576) :
  Calls Tryz.prog 28 #[.agg #[vm, vc, .int .u64 (bs : Int), vp, .int .u32 (st : Int), .int .u32 (en : Int)], .int .u32 (a : Int), .int .u32 (n : Int), .bool fixed] w (FpTold ps st en a n fixed w) := by
 obtain ⟨am, nm, pm, rfl⟩ := hm
 obtain ⟨ac, nc, pc, rfl⟩ := hc
 obtain ⟨ap, np, pp, rfl⟩ : ∃ a n p, vp = .slice a n p := by obtain ⟨a, p, h, _⟩ := hp; exact ⟨_, _, _, h⟩
 obtain ⟨W, hW⟩ : ∃ z, w.alloc (.cells #[.slice am nm pm, .slice ac nc pc, .int .u64 (bs : Int), .slice ap np pp, .int .u32 (st : Int), .int .u32 (en : Int)] 32) = z := ⟨_, rfl⟩
 have hb : Below w.heap.size w W := by rw [← hW]; exact (Below.refl _ _).alloc (Nat.le_refl _) _
 have hB : B6 W w.heap.size 32 (.slice am nm pm) (.slice ac nc pc) (.int .u64 (bs : Int)) (.slice ap np pp) (.int .u32 (st : Int)) (.int .u32 (en : Int)) := by rw [← hW]; exact B6.new w 32 _ _ _ _ _ _
 obtain ⟨d0, d1, d2, d3, d4, d5⟩ := hB.cells
 have HB : Hid (Below w.heap.size w W) := hb
 obtain ⟨q, hq⟩ : ∃ q, q = a / 4096 := ⟨_, rfl⟩
 have hql : q ≤ 1048575 := by omega
 have e1 : (a : Int) / 4096 = (q : Int) := by omega
 have e1' : (a : Int).tdiv 4096 = (q : Int) := by rw [Int.tdiv_eq_ediv_of_nonneg (by omega)]; omega
 obtain ⟨s, hs⟩ : ∃ s, s = q + n := ⟨_, rfl⟩
 have e2 : ((q : Int) + (n : Int)) % 4294967296 = (s : Int) := by omega
 have e2' : ((q : Int) + (n : Int)) = (s : Int) := by omega
 have K23 : Hid (∀ w', Calls Tryz.prog 23 #[.int .u32 (a : Int)] w' fun e w'' => e = .returned (.bool (decide (a % 4096 = 0))) ∧ w'' = w') := fun w' => isPlace23 a w'
 have K49 : Hid (Calls Tryz.prog 49 #[.agg #[.slice am nm pm, .slice ac nc pc, .int .u64 (bs : Int), .slice ap np pp], .int .u32 (q : Int), .int .u32 (n : Int)] W fun e w'' => e = .returned (.bool (!(someB ps q n))) ∧ Below W.heap.size W w'') := isUnmapped49 _ _ _ bs q n ps W ⟨_, _, _, rfl⟩ ⟨_, _, _, rfl⟩ (hp.keep hb) hps (by omega) hn (by omega)
 have K50 : Hid (n ≤ 256 → ∀ w', Below W.heap.size W w' → Calls Tryz.prog 50 #[.agg #[.slice am nm pm, .slice ac nc pc, .int .u64 (bs : Int), .slice ap np pp, .int .u32 (st : Int), .int .u32 (en : Int)], .int .u32 (n : Int)] w' (FrTold w' ps st en n)) := fun h w' hb' => freeRoom50 _ _ _ bs st en n ps w' ⟨_, _, _, rfl⟩ ⟨_, _, _, rfl⟩ (hp.keep (below_tr hb hb')) hps hl hst hen h
 have HS : Hid (s = a / 4096 + n ∧ q = a / 4096) := ⟨by rw [hs, hq], hq⟩
 have HQ : Hid (∀ f err, FpIs ps st en a n fixed f err → FpIs ps st en a n fixed f err) := fun _ _ h => h
 clear hp hps hl hst hen hb hB hq hs
 by_cases h256 : 256 < n
 ·have hI : (256 : Int) < (n : Int) := by omega
  have HF : Hid (FpIs ps st en a n fixed 0 12) := .inl ⟨.inl h256, rfl, rfl⟩
  clear K49 K50
  go_enter Tryz.func28, Tryz.ntmps28
  go_wp2
  go_ret2
  exact ⟨0, 12, rfl, HF.out, HB.out⟩
 ·have hI : ¬ (256 : Int) < (n : Int) := by omega
  have h256' : n ≤ 256 := by omega
  have K50' : Hid _ := K50.out h256'
  clear K50
  cases fixed with
  | true =>
   clear K49 K50'
   by_cases h2 : 1048576 < s
   ·have hI2 : (1048576 : Int) < (s : Int) := by omega
    have HF : Hid (FpIs ps st en a n true 0 12) := .inl ⟨.inr ⟨rfl, by rw [← HS.out.1]; exact h2⟩, rfl, rfl⟩
    go_enter Tryz.func28, Tryz.ntmps28
    go_wp2
    go_ret2
    exact ⟨0, 12, rfl, HF.out, HB.out⟩
   ·have hI2 : ¬ (1048576 : Int) < (s : Int) := by omega
    have HF : Hid (FpIs ps st en a n true q 0) := .inr (.inl ⟨h256', .inl ⟨rfl, by rw [← HS.out.1]; omega⟩, HS.out.2, rfl⟩)
    go_enter Tryz.func28, Tryz.ntmps28
    go_wp2
    go_ret2
    exact ⟨q, 0, rfl, HF.out, HB.out⟩
  | false =>
   by_cases h3 : a = 0
   ·have hA : ((a : Int) != 0) = false := by rw [h3]; rfl
    have HN : Hid (¬ (a ≠ 0 ∧ a % 4096 = 0 ∧ a / 4096 + n ≤ 458752 ∧ someB ps (a / 4096) n = false)) := fun h => h.1 h3
    clear h3
    have HFN : Hid (n ≤ 256) := h256'
    clear K49
    go_enter Tryz.func28, Tryz.ntmps28
    go_wp2_with fail
    refine (K50'.out _ (Below.refl _ _)).mono ?_
    rintro e w7 ⟨ts, hp1, hp2, rfl, hb7⟩
    have HE : Hid (FpIs ps st en a n false ((frR n (bwT ts ts.length) 458752).getD 0) (if (frR n (bwT ts ts.length) 458752).isSome then 0 else 12) ∧ Below w.heap.size w w7) := ⟨.inr (.inr ⟨HFN.out, rfl, HN.out, ts, hp1, hp2, rfl, rfl⟩), below_tr HB.out hb7⟩
    generalize (frR n (bwT ts ts.length) 458752).getD 0 = f at HE ⊢
    generalize (if (frR n (bwT ts ts.length) 458752).isSome then (0 : Int) else 12) = er at HE ⊢
    clear hp1 hp2 hb7
    go_wp2
    go_ret2
    exact ⟨f, er, rfl, HE.out.1, HE.out.2⟩
   ·have hA : ((a : Int) != 0) = true := by simp; exact h3
    by_cases h4 : a % 4096 = 0
    ·have K23' : Hid (∀ w', Calls Tryz.prog 23 #[.int .u32 (a : Int)] w' fun e w'' => e = .returned (.bool true) ∧ w'' = w') := fun w' => by have := K23.out w'; rw [decide_eq_true h4] at this; exact this
     clear K23
     by_cases h5 : s ≤ 458752
     ·have hI5 : (s : Int) ≤ 458752 := by omega
      cases h6 : someB ps q n with
      | true =>
       have HN : Hid (¬ (a ≠ 0 ∧ a % 4096 = 0 ∧ a / 4096 + n ≤ 458752 ∧ someB ps (a / 4096) n = false)) := fun h => by have := h.2.2.2; rw [← HS.out.2, h6] at this; cases this
       rw [h6] at K49
       have HFN : Hid (n ≤ 256) := h256'
       clear h3 h4
       go_enter Tryz.func28, Tryz.ntmps28
       go_wp2_with fail
       refine (K23'.out _).mono ?_
       rintro e w9 ⟨rfl, rfl⟩
       go_wp2_with fail
       refine K49.out.mono ?_
       rintro e w8 ⟨rfl, hb8⟩
       have d0 := keep_cell hb8 d0
       have d1 := keep_cell hb8 d1
       have d2 := keep_cell hb8 d2
       have d3 := keep_cell hb8 d3
       have d4 := keep_cell hb8 d4
       have d5 := keep_cell hb8 d5
       have HB8 : Hid (Below w.heap.size w w8) := below_tr HB.out hb8
       have K5 := K50'.out w8 hb8
       clear hb8 K49 K50'
       go_wp2_with fail
       refine (K5).mono ?_
       rintro e w7 ⟨ts, hp1, hp2, rfl, hb7⟩
       have HE : Hid (FpIs ps st en a n false ((frR n (bwT ts ts.length) 458752).getD 0) (if (frR n (bwT ts ts.length) 458752).isSome then 0 else 12) ∧ Below w.heap.size w w7) := ⟨.inr (.inr ⟨HFN.out, rfl, HN.out, ts, hp1, hp2, rfl, rfl⟩), below_tr HB8.out hb7⟩
       generalize (frR n (bwT ts ts.length) 458752).getD 0 = f at HE ⊢
       generalize (if (frR n (bwT ts ts.length) 458752).isSome then (0 : Int) else 12) = er at HE ⊢
       clear hp1 hp2 hb7
       go_wp2
       go_ret2
       exact ⟨f, er, rfl, HE.out.1, HE.out.2⟩
      | false =>
       have HF : Hid (FpIs ps st en a n false q 0) := .inr (.inl ⟨h256', .inr ⟨rfl, h3, h4, by rw [← HS.out.1]; exact h5, by rw [← HS.out.2]; exact h6⟩, HS.out.2, rfl⟩)
       rw [h6] at K49
       clear h3 h4 K50'
       go_enter Tryz.func28, Tryz.ntmps28
       go_wp2_with fail
       refine (K23'.out _).mono ?_
       rintro e w9 ⟨rfl, rfl⟩
       go_wp2_with fail
       refine K49.out.mono ?_
       rintro e w9 ⟨rfl, hb9⟩
       have HB9 : Hid (Below w.heap.size w w9) := below_tr HB.out hb9
       clear hb9
       go_wp2
       go_ret2
       exact ⟨q, 0, rfl, HF.out, HB9.out⟩
     ·have hI5 : ¬ (s : Int) ≤ 458752 := by omega
      have HN : Hid (¬ (a ≠ 0 ∧ a % 4096 = 0 ∧ a / 4096 + n ≤ 458752 ∧ someB ps (a / 4096) n = false)) := fun h => h5 (by rw [HS.out.1]; exact h.2.2.1)
      have HFN : Hid (n ≤ 256) := h256'
      clear h3 h4
      clear K49
      go_enter Tryz.func28, Tryz.ntmps28
      go_wp2_with fail
      refine (K23'.out _).mono ?_
      rintro e w9 ⟨rfl, rfl⟩
      go_wp2_with fail
      refine (K50'.out _ (Below.refl _ _)).mono ?_
      rintro e w7 ⟨ts, hp1, hp2, rfl, hb7⟩
      have HE : Hid (FpIs ps st en a n false ((frR n (bwT ts ts.length) 458752).getD 0) (if (frR n (bwT ts ts.length) 458752).isSome then 0 else 12) ∧ Below w.heap.size w w7) := ⟨.inr (.inr ⟨HFN.out, rfl, HN.out, ts, hp1, hp2, rfl, rfl⟩), below_tr HB.out hb7⟩
      generalize (frR n (bwT ts ts.length) 458752).getD 0 = f at HE ⊢
      generalize (if (frR n (bwT ts ts.length) 458752).isSome then (0 : Int) else 12) = er at HE ⊢
      clear hp1 hp2 hb7
      go_wp2
      go_ret2
      exact ⟨f, er, rfl, HE.out.1, HE.out.2⟩
    ·have K23' : Hid (∀ w', Calls Tryz.prog 23 #[.int .u32 (a : Int)] w' fun e w'' => e = .returned (.bool false) ∧ w'' = w') := fun w' => by have := K23.out w'; rw [decide_eq_false h4] at this; exact this
     have HN : Hid (¬ (a ≠ 0 ∧ a % 4096 = 0 ∧ a / 4096 + n ≤ 458752 ∧ someB ps (a / 4096) n = false)) := fun h => h4 h.2.1
     clear K23
     have HFN : Hid (n ≤ 256) := h256'
     clear h3 h4
     clear K49
     go_enter Tryz.func28, Tryz.ntmps28
     go_wp2_with fail
     refine (K23'.out _).mono ?_
     rintro e w9 ⟨rfl, rfl⟩
     go_wp2_with fail
     refine (K50'.out _ (Below.refl _ _)).mono ?_
     rintro e w7 ⟨ts, hp1, hp2, rfl, hb7⟩
     have HE : Hid (FpIs ps st en a n false ((frR n (bwT ts ts.length) 458752).getD 0) (if (frR n (bwT ts ts.length) 458752).isSome then 0 else 12) ∧ Below w.heap.size w w7) := ⟨.inr (.inr ⟨HFN.out, rfl, HN.out, ts, hp1, hp2, rfl, rfl⟩), below_tr HB.out hb7⟩
     generalize (frR n (bwT ts ts.length) 458752).getD 0 = f at HE ⊢
     generalize (if (frR n (bwT ts ts.length) 458752).isSome then (0 : Int) else 12) = er at HE ⊢
     clear hp1 hp2 hb7
     go_wp2
     go_ret2
     exact ⟨f, er, rfl, HE.out.1, HE.out.2⟩
end Go.Proofs.YtkpmkgkfpikpfaaGreat
