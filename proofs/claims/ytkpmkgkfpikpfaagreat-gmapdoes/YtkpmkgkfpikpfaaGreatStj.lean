/- What is proved here: free room is free: plain words on Mmap and Brk. -/
import Derived.Test.YtkpmkgkfpikpfaaGreatStg
import Derived.Test.YtkpmkgkfpikpfaaGreatSz
import Derived.Test.YtkpmkgkfpikpfaaGreatGagp
import Derived.Test.YtkpmkgkfpikpfaaGreatSvf
import Derived.Test.YtkpmkgkfpikpfaaGreatGr3
import Derived.Test.YtkpmkgkfpikpfaaGreatSv
import Derived.Test.YtkpmkgkfpikpfaaGreatGdoc
namespace Go.Proofs.YtkpmkgkfpikpfaaGreat
open Go.RowKit
set_option linter.unusedVariables false
set_option linter.unusedSimpArgs false
set_option maxRecDepth 100000
theorem bwT_take (ts : List (Nat × Nat)) : ∀ k, k ≤ ts.length → bwT ts k = ts.reverse.take k
 | 0, _ => by simp [bwT, bwL, sndL]
 | k + 1, h => by
  have hj : ts.length - 1 - k < ts.length := by omega
  rw [bwT_succ, bwT_take ts k (by omega), List.take_add_one, List.getElem?_eq_getElem (by simp; omega)]
  congr 1
  have e : (bwI ts k).2 = ts[ts.length - 1 - k] := by unfold bwI; simp [hj]
  rw [e, List.getElem_reverse]
  rfl
theorem bwT_all (ts : List (Nat × Nat)) : bwT ts ts.length = ts.reverse := by
 rw [bwT_take ts _ (Nat.le_refl _)]
 rw [List.take_of_length_le (by simp)]
theorem frR_free (n f : Nat) : ∀ (l : List (Nat × Nat)) (b : Nat), l.Pairwise (fun x y => y.2 ≤ x.2) → frR n l b = some f → f + n ≤ b ∧ ∀ t ∈ l, t.2 ≤ f ∨ f + n ≤ t.1
 | [], b, _, h => by simp [frR] at h
 | t :: r, b, hp, h => by
  obtain ⟨h1, h2⟩ := List.pairwise_cons.1 hp
  by_cases hc : t.2 + n ≤ b
  ·rw [frR_stop _ _ _ _ hc] at h
   have e : f = b - n := by simpa using h.symm
   refine ⟨by omega, fun x hx => .inl ?_⟩
   rcases List.mem_cons.1 hx with rfl | hx
   ·omega
   ·have := h1 x hx; omega
  ·rw [frR_go _ _ _ _ hc] at h
   obtain ⟨i1, i2⟩ := frR_free n f r _ h2 h
   have hb : (if t.1 < b then t.1 else b) ≤ b ∧ (if t.1 < b then t.1 else b) ≤ t.1 := by split <;> omega
   refine ⟨by omega, fun x hx => ?_⟩
   rcases List.mem_cons.1 hx with rfl | hx
   ·exact .inr (by omega)
   ·exact i2 x hx
theorem rise_rev {ts : List (Nat × Nat)} (h : RiseS ts) : ts.reverse.Pairwise (fun x y => y.2 ≤ x.2) := by
 rw [List.pairwise_reverse, List.pairwise_iff_getElem]
 intro i j hi hj hij
 exact h i j hij hj
theorem fr_free {ps : List (Nat × Int)} {st en n f : Nat} {ts : List (Nat × Nat)} (hp : ts.Perm (takenL ps st en)) (hr : RiseS ts) (hn : 0 < n) (h : frR n (bwT ts ts.length) 458752 = some f) :
  0 < f ∧ f + n ≤ 458752 ∧ (∀ x ∈ ps, x.1 < f ∨ f + n ≤ x.1) ∧ (st / 4096 < pgN en → pgN en ≤ f ∨ f + n ≤ st / 4096) := by
 rw [bwT_all] at h
 obtain ⟨h1, h2⟩ := frR_free n f _ _ (rise_rev hr) h
 have h3 : ∀ t ∈ takenL ps st en, t.2 ≤ f ∨ f + n ≤ t.1 := fun t ht => h2 t (List.mem_reverse.2 (hp.mem_iff.2 ht))
 refine ⟨?_, h1, fun x hx => ?_, fun hl => ?_⟩
 ·have := h3 (0, 1) (by simp [takenL, tkL])
  simp only at this
  omega
 ·have := h3 (x.1, x.1 + 1) (by
   simp only [takenL, tkL, List.mem_append, List.mem_cons, List.mem_map]
   exact .inl (.inr ⟨x, by rw [List.take_of_length_le (Nat.le_refl _)]; exact hx, rfl⟩))
  simp only at this
  omega
 ·exact h3 (st / 4096, pgN en) (by simp only [takenL, List.mem_append]; rw [if_pos hl]; simp)
theorem frR_high (n f : Nat) (hf : 0 < f) : ∀ (l : List (Nat × Nat)) (b : Nat), (0, 1) ∈ l → f + n ≤ b → (∀ t ∈ l, t.2 ≤ f ∨ f + n ≤ t.1) → ∃ g, frR n l b = some g ∧ f ≤ g
 | [], b, h0, _, _ => by simp at h0
 | t :: r, b, h0, hb, h => by
  by_cases hc : t.2 + n ≤ b
  ·exact ⟨b - n, frR_stop _ _ _ _ hc, by omega⟩
  ·rw [frR_go _ _ _ _ hc]
   have ht := h t (List.mem_cons_self ..)
   have h1 : f + n ≤ t.1 := by omega
   have hr : (0, 1) ∈ r := by
    rcases List.mem_cons.1 h0 with e | e
    ·rw [← e] at hc; simp only at hc; omega
    ·exact e
   exact frR_high n f hf r _ hr (by split <;> omega) (fun x hx => h x (List.mem_cons_of_mem _ hx))
theorem free_taken {ps : List (Nat × Int)} {st en n f : Nat} (h : FreeAt ps st en n f) : ∀ t ∈ takenL ps st en, t.2 ≤ f ∨ f + n ≤ t.1 := by
 obtain ⟨h1, h2, h3, h4⟩ := h
 intro t ht
 simp only [takenL, tkL, List.mem_append, List.mem_cons, List.mem_map] at ht
 rcases ht with (rfl | ⟨p, hp, rfl⟩) | ht
 ·exact .inl (by show 1 ≤ f; omega)
 ·have := h3 p (List.mem_of_mem_take hp)
  show p.1 + 1 ≤ f ∨ f + n ≤ p.1
  omega
 ·split at ht
  ·rename_i hl
   have e : t = (st / 4096, pgN en) := by simpa using ht
   subst e
   exact h4 hl
  ·simp at ht
theorem fr_room {ps : List (Nat × Int)} {st en n : Nat} {ts : List (Nat × Nat)} (hp : ts.Perm (takenL ps st en)) (hr : RiseS ts) (hn : 0 < n) :
  IsRoom ps st en n ((frR n (bwT ts ts.length) 458752).getD 0) ∧ ((frR n (bwT ts ts.length) 458752).isSome = true ↔ (frR n (bwT ts ts.length) 458752).getD 0 ≠ 0) := by
 have hm : ∀ t, t ∈ bwT ts ts.length ↔ t ∈ takenL ps st en := fun t => by rw [bwT_all, List.mem_reverse]; exact hp.mem_iff
 have hi : ∀ f, FreeAt ps st en n f → ∃ g, frR n (bwT ts ts.length) 458752 = some g ∧ f ≤ g := fun f hf => frR_high n f hf.1 _ _ ((hm _).2 (by simp [takenL, tkL])) hf.2.1 (fun t ht => free_taken hf t ((hm t).1 ht))
 cases h : frR n (bwT ts ts.length) 458752 with
 | none =>
  refine ⟨.inl ⟨rfl, fun f hf => ?_⟩, by simp⟩
  obtain ⟨g, hg, _⟩ := hi f hf
  rw [h] at hg; cases hg
 | some g =>
  have hf := fr_free hp hr hn h
  refine ⟨.inr ⟨hf, fun f hff => ?_⟩, ?_⟩
  ·obtain ⟨g', hg, hle⟩ := hi f hff
   rw [h] at hg
   cases hg; exact hle
  ·have := hf.1
   simp; omega
theorem rise_of {ts : List (Nat × Nat)} (h : ts.Pairwise (fun x y => x.2 ≤ y.2)) : RiseS ts := fun i j hij hj => (List.pairwise_iff_getElem.1 h) i j (by omega) hj hij
theorem room_fr {ps : List (Nat × Int)} {st en n z : Nat} (hn : 0 < n) (h : IsRoom ps st en n z) :
  ∃ ts, ts.Perm (takenL ps st en) ∧ RiseS ts ∧ z = (frR n (bwT ts ts.length) 458752).getD 0 ∧ ((frR n (bwT ts ts.length) 458752).isSome = true ↔ z ≠ 0) := by
 have hp := List.mergeSort_perm (takenL ps st en) (fun x y => decide (x.2 ≤ y.2))
 have hs := List.pairwise_mergeSort (le := fun x y : Nat × Nat => decide (x.2 ≤ y.2)) (by intro a b c h1 h2; simp at *; omega) (by intro a b; simp; omega) (takenL ps st en)
 have hr : RiseS ((takenL ps st en).mergeSort (fun x y => decide (x.2 ≤ y.2))) := rise_of (hs.imp (by intro a b h; simpa using h))
 obtain ⟨r1, r2⟩ := fr_room hp hr hn
 have e := room_one h r1
 exact ⟨_, hp, hr, e, by rw [r2, ← e]⟩
theorem fp_one {ps : List (Nat × Int)} {st en a n : Nat} {fixed : Bool} {f f' : Nat} {err err' : Int} (hn : 0 < n) (h : FpIs ps st en a n fixed f err) (h' : FpIs ps st en a n fixed f' err') : f = f' ∧ err = err' := by
 rcases h with ⟨h1, rfl, rfl⟩ | ⟨h1, h2, rfl, rfl⟩ | ⟨h1, h2, h3, ts, hp, hr, rfl, rfl⟩
 ·rcases h' with ⟨k1, rfl, rfl⟩ | ⟨k1, k2, rfl, rfl⟩ | ⟨k1, k2, k3, ts, hp, hr, rfl, rfl⟩
  ·exact ⟨rfl, rfl⟩
  ·exfalso
   rcases h1 with h1 | ⟨h1, h1'⟩
   ·omega
   ·rcases k2 with ⟨_, k2⟩ | ⟨k2, _⟩
    ·omega
    ·rw [h1] at k2; cases k2
  ·exfalso
   rcases h1 with h1 | ⟨h1, _⟩
   ·omega
   ·rw [h1] at k2; cases k2
 ·rcases h' with ⟨k1, rfl, rfl⟩ | ⟨k1, k2, rfl, rfl⟩ | ⟨k1, k2, k3, ts, hp, hr, rfl, rfl⟩
  ·exfalso
   rcases k1 with k1 | ⟨k1, k1'⟩
   ·omega
   ·rcases h2 with ⟨_, h2⟩ | ⟨h2, _⟩
    ·omega
    ·rw [k1] at h2; cases h2
  ·exact ⟨rfl, rfl⟩
  ·exfalso
   rcases h2 with ⟨h2, _⟩ | ⟨_, h2⟩
   ·rw [k2] at h2; cases h2
   ·exact k3 h2
 ·rcases h' with ⟨k1, rfl, rfl⟩ | ⟨k1, k2, rfl, rfl⟩ | ⟨k1, k2, k3, ts', hp', hr', rfl, rfl⟩
  ·exfalso
   rcases k1 with k1 | ⟨k1, _⟩
   ·omega
   ·rw [h2] at k1; cases k1
  ·exfalso
   rcases k2 with ⟨k2, _⟩ | ⟨_, k2⟩
   ·rw [h2] at k2; cases k2
   ·exact h3 k2
  ·obtain ⟨r1, r2⟩ := fr_room hp hr hn
   obtain ⟨q1, q2⟩ := fr_room hp' hr' hn
   have e := room_one r1 q1
   refine ⟨e, ?_⟩
   have e2 : (frR n (bwT ts ts.length) 458752).isSome = (frR n (bwT ts' ts'.length) 458752).isSome := by
    rw [Bool.eq_iff_iff, r2, q2, e]
   rw [e2]
theorem mm_one {ms cs ps : List (Nat × Int)} {bs st en a n : Nat} {prot : Int} {fixed : Bool} {R R' : GRes} {a1 a2 : Nat} (hn : n ≠ 0 → 0 < pgN n) (hb : n = 0 → MmBad a n prot fixed) (h : MmIs ms cs ps bs st en a n prot fixed R a1) (h' : MmIs ms cs ps bs st en a n prot fixed R' a2) : R = R' ∧ a1 = a2 := by
 rcases h with ⟨_, rfl, rfl⟩ | ⟨h1, f, err, h2, h3⟩
 ·rcases h' with ⟨_, rfl, rfl⟩ | ⟨k1, _⟩
  ·exact ⟨rfl, rfl⟩
  ·exact absurd (by assumption) k1
 ·rcases h' with ⟨k1, _⟩ | ⟨_, f', err', k2, k3⟩
  ·exact absurd k1 h1
  ·obtain ⟨rfl, rfl⟩ := fp_one (hn (fun e => h1 (hb e))) h2 k2
   rcases h3 with ⟨h3, rfl, rfl⟩ | ⟨h3, rfl, rfl⟩
   ·rcases k3 with ⟨_, rfl, rfl⟩ | ⟨k3, _, _⟩
    ·exact ⟨rfl, rfl⟩
    ·exact absurd k3 h3
   ·rcases k3 with ⟨k3, _, _⟩ | ⟨_, rfl, rfl⟩
    ·exact absurd h3 k3
    ·exact ⟨rfl, rfl⟩
theorem heapR_fit {ms cs ps : List (Nat × Int)} {bs : Nat} (st en a : Nat) (hf : FitG ms cs ps bs) (hw : Words cs) (hrc : ∀ y ∈ cs, y.1 < 18446744073709551616) : RFit (heapR ms cs ps bs st en a) bs := by
 unfold heapR
 split
 ·exact rfit_same hf hw hrc
 split
 ·unfold grR
  split
  ·exact rfit_same hf hw hrc
  ·exact mapR_fit _ _ _ hf hw hrc
 split
 ·exact unmapR_fit _ _ hf hw hrc
 ·exact rfit_same hf hw hrc
theorem heapR_ge {ms cs ps : List (Nat × Int)} {bs st en a : Nat} (h : (heapR ms cs ps bs st en a).1 = 0) : st ≤ a := by
 by_cases g : a < st
 ·unfold heapR at h; rw [if_pos g] at h; simp at h
 ·omega
theorem spFit_of {ms cs ps : List (Nat × Int)} {bs st en : Nat} (hf : FitG ms cs ps bs) (h1 : st % 4096 = 0) (h2 : st ≤ en) : spFit ms cs ps bs st en = true := by
 unfold spFit
 rw [decide_eq_true h1, decide_eq_true h2]
 have : fitGB ms cs ps bs = true := by unfold fitGB; simp [hf]
 rw [this]; rfl
theorem of_spFit {ms cs ps : List (Nat × Int)} {bs st en : Nat} (h : spFit ms cs ps bs st en = true) : FitG ms cs ps bs ∧ st % 4096 = 0 ∧ st ≤ en := by
 unfold spFit at h
 simp only [Bool.and_eq_true, decide_eq_true_eq] at h
 exact ⟨of_fitGB h.1.1, h.1.2, h.2⟩
theorem fit_nil : FitG [] [] [] 0 := ⟨⟨by simp, by simp, List.Pairwise.nil, List.Pairwise.nil, (fun x h => by cases h), (fun x h => by cases h)⟩, rfl, by omega, by simp, List.Pairwise.nil, (fun x h => by cases h), (fun x h => by cases h), (fun x h => by cases h)⟩
theorem ex_map : mapR [] [] [] 0 458750 2 3 = (0, [(114687, 3)], [], [(458750, 3), (458751, 3)]) := by kernel_rfl
theorem ex_mun : munR [(114687, 3)] [] [(458750, 3), (458751, 3)] 0 1879040000 1 = (0, [(114687, 3)], [], [(458751, 3)]) := by kernel_rfl
theorem ex_heap : heapR [] [] [] 0 8192 8192 8193 = (0, [(0, 3)], [], [(2, 3)]) := by kernel_rfl
theorem ex_prot : protN [(2, 3)] 2 = 3 := by kernel_rfl
theorem ex_fr : frR 2 [(0, 1)] 458752 = some 458750 := by kernel_rfl
theorem ex_mm {R : GRes} {at_ : Nat} (h : MmIs [] [] [] 0 0 0 0 5000 3 false R at_) : R = (0, [(114687, 3)], [], [(458750, 3), (458751, 3)]) ∧ at_ = 1879040000 := by
 rcases h with ⟨hb, _, _⟩ | ⟨hb, f, err, hfp, hh⟩
 ·rcases hb with hb | hb | hb
  ·simp at hb
  ·simp [protOk] at hb
  ·simp at hb
 have e2 : pgN 5000 = 2 := by rfl
 rw [e2] at hfp hh
 rcases hfp with ⟨hc | hc, _, _⟩ | ⟨_, ⟨hc, _⟩ | ⟨_, hc, _⟩, _, _⟩ | ⟨_, _, _, ts, hp, hr, hF, he⟩
 ·omega
 iterate 2
  ·simp at hc
 ·exact absurd rfl hc
 have ht : takenL [] 0 0 = [(0, 1)] := by rfl
 rw [ht] at hp
 have hts : ts = [(0, 1)] := List.perm_singleton.1 hp
 rw [hts, bwT_all] at hF he
 rw [show [((0 : Nat), (1 : Nat))].reverse = [(0, 1)] from rfl, ex_fr] at hF he
 have hf : f = 458750 := by simpa using hF
 have her : err = 0 := by simpa using he
 rcases hh with ⟨hc, _⟩ | ⟨_, hR, hat⟩
 ·exact absurd her hc
 rw [hf, ex_map] at hR
 rw [hR, hf] at hat
 exact ⟨hR, hat⟩
theorem mapR_no {ms cs ps : List (Nat × Int)} {bs first n : Nat} {prot : Int} (h : (mapR ms cs ps bs first n prot).1 ≠ 0) : mapR ms cs ps bs first n prot = ((mapR ms cs ps bs first n prot).1, ms, cs, ps) := by
 revert h
 unfold mapR
 split
 ·intro _; rfl
 split
 ·intro _; rfl
 split
 ·intro h; exact absurd rfl h
 ·intro _; rfl
theorem new6 (w : World) (y0 y1 y2 y3 y4 y5 : Value) : ∃ Xa X, w.alloc (.cells #[.slice none 0 0, .slice none 0 0, .int .u64 0, .slice none 0 0, .int .u32 0, .int .u32 0] 32) = Xa ∧ (((((Xa.setCell ⟨w.heap.size, 0, none⟩ y0).setCell ⟨w.heap.size, 1, none⟩ y1).setCell ⟨w.heap.size, 2, none⟩ y2).setCell ⟨w.heap.size, 3, none⟩ y3).setCell ⟨w.heap.size, 4, none⟩ y4).setCell ⟨w.heap.size, 5, none⟩ y5 = X ∧
  (Xa.cell? ⟨w.heap.size, 0, none⟩ = some (.slice none 0 0) ∧ Xa.cell? ⟨w.heap.size, 1, none⟩ = some (.slice none 0 0) ∧ Xa.cell? ⟨w.heap.size, 2, none⟩ = some (.int .u64 0) ∧ Xa.cell? ⟨w.heap.size, 3, none⟩ = some (.slice none 0 0) ∧ Xa.cell? ⟨w.heap.size, 4, none⟩ = some (.int .u32 0) ∧ Xa.cell? ⟨w.heap.size, 5, none⟩ = some (.int .u32 0)) ∧
  (Xa.frozen? ⟨w.heap.size, 0, none⟩ = false ∧ Xa.frozen? ⟨w.heap.size, 1, none⟩ = false ∧ Xa.frozen? ⟨w.heap.size, 2, none⟩ = false ∧ Xa.frozen? ⟨w.heap.size, 3, none⟩ = false ∧ Xa.frozen? ⟨w.heap.size, 4, none⟩ = false ∧ Xa.frozen? ⟨w.heap.size, 5, none⟩ = false) ∧
  B6 X w.heap.size 32 y0 y1 y2 y3 y4 y5 ∧ Below w.heap.size w X := by
 have h := B6.new w 32 (.slice none 0 0) (.slice none 0 0) (.int .u64 0) (.slice none 0 0) (.int .u32 0) (.int .u32 0)
 exact ⟨_, _, rfl, rfl, h.cells, h.frees, h.set6 y0 y1 y2 y3 y4 y5, S6.below ((Below.refl _ _).alloc (Nat.le_refl _) _) (Nat.le_refl _) y0 y1 y2 y3 y4 y5⟩
set_option maxHeartbeats 4000000 in
theorem awake10 (w : World) : Calls Tryz.prog 10 #[] w fun e w' => e = .returned (.bool true) ∧ Below w.heap.size w w' := by
 have K11 : Calls Tryz.prog 11 #[.agg #[.slice none 0 0, .slice none 0 0, .int .u64 0, .slice none 0 0, .int .u32 0, .int .u32 0], .int .u32 0, .int .u32 5000, .int .i64 3, .bool false] w fun e w' => ∃ x1 x2 x3 x4 x5 x6 x7 x8 x9, e = .returned (.tuple #[.agg #[.slice x1 x2 x3, .slice x4 x5 x6, .int .u64 0, .slice x7 x8 x9, .int .u32 0, .int .u32 0], .int .u32 1879040000, .int .i64 0]) ∧ SlG w' (.slice x1 x2 x3) (.slice x4 x5 x6) (.slice x7 x8 x9) [(114687, 3)] [] [(458750, 3), (458751, 3)] ∧ Below w.heap.size w w' := by
  refine (mmap11 (.slice none 0 0) (.slice none 0 0) (.slice none 0 0) 0 0 0 0 5000 3 false [] [] [] w (slg_nil w) (fun y hy => by cases hy) (fun y hy => by cases hy) fit_nil (by omega) (by omega) (by omega) (by omega)).mono ?_
  rintro e w' ⟨R, at_, hm, c1, c2, c3, c4, c5, c6, c7, c8, c9, rfl, hs, hb⟩
  obtain ⟨rfl, rfl⟩ := ex_mm hm
  exact ⟨_, _, _, _, _, _, _, _, _, rfl, hs, hb⟩
 go_enter Tryz.func10, Tryz.ntmps10
 go_wp2_with fail
 refine K11.mono ?_
 rintro e w1 ⟨x1, x2, x3, x4, x5, x6, x7, x8, x9, rfl, hs1, hb1⟩
 clear K11
 obtain ⟨Xa, X1, hXa, hX1, ⟨i0, i1, i2, i3, i4, i5⟩, ⟨j0, j1, j2, j3, j4, j5⟩, B1, bb1⟩ := new6 w1 (.slice x1 x2 x3) (.slice x4 x5 x6) (.int .u64 0) (.slice x7 x8 x9) (.int .u32 0) (.int .u32 0)
 have hs1 := hs1.keep bb1
 have HN : Hid (w.heap.size ≤ w1.heap.size ∧ Below w.heap.size w X1) := ⟨hb1.size, below_tr hb1 bb1⟩
 obtain ⟨c0, c1, c2, c3, c4, c5⟩ := B1.cells
 have hf1 : FitG [(114687, 3)] [] [(458750, 3), (458751, 3)] 0 := by
  have h := (mapR_fit 458750 2 3 fit_nil (fun y hy => by cases hy) (fun y hy => by cases hy)).1
  rw [ex_map] at h
  exact h
 have K13 := munmap13 (.slice x1 x2 x3) (.slice x4 x5 x6) (.slice x7 x8 x9) 0 0 0 1879040000 1 [(114687, 3)] [] [(458750, 3), (458751, 3)] X1 hs1 (fun y hy => by cases hy) (fun y hy => by cases hy) hf1 (by omega) (by omega)
 rw [ex_mun] at K13
 clear hb1 bb1 hs1 hf1
 go_wp2_with fail
 refine K13.mono ?_
 rintro e w2 ⟨y1, y2, y3, y4, y5, y6, y7, y8, y9, rfl, hs2, hb2⟩
 obtain rfl : y8 = 1 := by
  obtain ⟨_, _, e8, _⟩ := id hs2.2.2
  cases e8
  rfl
 clear K13
 have B2' := B1.keep hb2
 clear B1 hX1 hXa i0 i1 i2 i3 i4 i5 j0 j1 j2 j3 j4 j5 c0 c1 c2 c3 c4 c5
 obtain ⟨q0, q1, q2, q3, q4, q5⟩ := B2'.cells
 obtain ⟨f0, f1, f2, f3, f4, f5⟩ := B2'.frees
 have hS := slg_S6 hs2 B2' y1 y4 y7 y2 y3 y5 y6 1 y9 0 0 0
 have B3 := B2'.set6 (.slice y1 y2 y3) (.slice y4 y5 y6) (.int .u64 0) (.slice y7 1 y9) (.int .u32 0) (.int .u32 0)
 have hW := S6.below (B := w.heap.size) (b := w1.heap.size) (below_tr HN.out.2 hb2) HN.out.1 (.slice y1 y2 y3) (.slice y4 y5 y6) (.int .u64 0) (.slice y7 1 y9) (.int .u32 0) (.int .u32 0)
 obtain ⟨W3, hW3⟩ : ∃ z, S6 w2 w1.heap.size (.slice y1 y2 y3) (.slice y4 y5 y6) (.int .u64 0) (.slice y7 1 y9) (.int .u32 0) (.int .u32 0) = z := ⟨_, rfl⟩
 rw [hW3] at hS B3 hW
 unfold S6 S4 at hW3
 have HS3 : Hid (Below w.heap.size w W3) := hW
 have K17 : Calls Tryz.prog 17 #[.agg #[.slice none 0 0, .slice none 0 0, .int .u64 0, .slice none 0 0, .int .u32 8192, .int .u32 8192], .int .u32 8193] W3 (BTold [(0, 3)] [] [(2, 3)] 0 8192 8193 W3) := by
  have h := brk17 (.slice none 0 0) (.slice none 0 0) (.slice none 0 0) 0 8192 8192 8193 [] [] [] W3 (slg_nil W3) (fun y hy => by cases hy) (fun y hy => by cases hy) fit_nil (by omega) (by omega)
  rw [ex_heap, if_pos rfl] at h
  exact h
 clear hs2 hb2 B2' hS hW
 go_wp2_with fail
 refine K17.mono ?_
 rintro e w4 ⟨z1, z2, z3, z4, z5, z6, z7, z8, z9, rfl, hs4, hb4⟩
 clear K17
 obtain ⟨Xb, X5, hXb, hX5, ⟨i0, i1, i2, i3, i4, i5⟩, ⟨j0, j1, j2, j3, j4, j5⟩, B5, bb5⟩ := new6 w4 (.slice z1 z2 z3) (.slice z4 z5 z6) (.int .u64 0) (.slice z7 z8 z9) (.int .u32 8192) (.int .u32 8193)
 have B3 := (B3.keep hb4).keep bb5
 have hs5 := hs4.keep bb5
 have HS5 : Hid (Below w.heap.size w X5) := below_tr HS3.out (below_tr hb4 bb5)
 have K21 := rprot15 (.slice z1 z2 z3) (.slice z4 z5 z6) (.slice z7 z8 z9) 0 2 [(2, 3)] X5 ⟨_, _, _, rfl⟩ ⟨_, _, _, rfl⟩ hs5.2.2
 rw [ex_prot] at K21
 obtain ⟨c0, c1, c2, c3, c4, c5⟩ := B3.cells
 obtain ⟨d0, d1, d2, d3, d4, d5⟩ := B5.cells
 clear q0 q1 q2 q3 q4 q5 f0 f1 f2 f3 f4 f5 hW3 hs4 hb4 bb5 hs5 B3 B5
 go_wp2_with fail
 refine K21.mono ?_
 rintro e w6 ⟨rfl, hb6⟩
 have HS6 : Hid (Below w.heap.size w w6) := below_tr HS5.out hb6
 go_wp2
 go_ret
 exact ⟨rfl, HS6.out⟩
end Go.Proofs.YtkpmkgkfpikpfaaGreat
