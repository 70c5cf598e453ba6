/- What is proved here: free room is free: plain words on Mmap and Brk. -/
import Derived.Test.YtkpmkgkfpikpfaaGreatStg
import Derived.Test.YtkpmkgkfpikpfaaGreatSz
import Derived.Test.YtkpmkgkfpikpfaaGreatGagp
import Derived.Test.YtkpmkgkfpikpfaaGreatGr3
import Derived.Test.YtkpmkgkfpikpfaaGreatSv
import Derived.Test.YtkpmkgkfpikpfaaGreatGdoc
namespace Go.Proofs.YtkpmkgkfpikpfaaGreat
open Go.RowKit
set_option linter.unusedVariables false
set_option linter.unusedSimpArgs false
set_option maxRecDepth 100000
theorem bwT_take (ts : List (Nat × Nat)) : ∀ k, k ≤ ts.length → bwT ts k = ts.reverse.take k
  | 0, _ => by simp [bwT, bwL, sndL]
  | k + 1, h => by
    have hj : ts.length - 1 - k < ts.length := by omega
    rw [bwT_succ, bwT_take ts k (by omega), List.take_add_one, List.getElem?_eq_getElem (by simp; omega)]
    congr 1
    have e : (bwI ts k).2 = ts[ts.length - 1 - k] := by unfold bwI; simp [hj]
    rw [e, List.getElem_reverse]
    rfl
theorem bwT_all (ts : List (Nat × Nat)) : bwT ts ts.length = ts.reverse := by
  rw [bwT_take ts _ (Nat.le_refl _)]
  rw [List.take_of_length_le (by simp)]
theorem frR_free (n f : Nat) : ∀ (l : List (Nat × Nat)) (b : Nat), l.Pairwise (fun x y => y.2 ≤ x.2) → frR n l b = some f → f + n ≤ b ∧ ∀ t ∈ l, t.2 ≤ f ∨ f + n ≤ t.1
  | [], b, _, h => by simp [frR] at h
  | t :: r, b, hp, h => by
    obtain ⟨h1, h2⟩ := List.pairwise_cons.1 hp
    by_cases hc : t.2 + n ≤ b
    · rw [frR_stop _ _ _ _ hc] at h
      have e : f = b - n := by simpa using h.symm
      refine ⟨by omega, fun x hx => .inl ?_⟩
      rcases List.mem_cons.1 hx with rfl | hx
      · omega
      · have := h1 x hx; omega
    · rw [frR_go _ _ _ _ hc] at h
      obtain ⟨i1, i2⟩ := frR_free n f r _ h2 h
      have hb : (if t.1 < b then t.1 else b) ≤ b ∧ (if t.1 < b then t.1 else b) ≤ t.1 := by split <;> omega
      refine ⟨by omega, fun x hx => ?_⟩
      rcases List.mem_cons.1 hx with rfl | hx
      · exact .inr (by omega)
      · exact i2 x hx
theorem rise_rev {ts : List (Nat × Nat)} (h : RiseS ts) : ts.reverse.Pairwise (fun x y => y.2 ≤ x.2) := by
  rw [List.pairwise_reverse, List.pairwise_iff_getElem]
  intro i j hi hj hij
  exact h i j hij hj
/-- Free room was free. -/
theorem fr_free {ps : List (Nat × Int)} {st en n f : Nat} {ts : List (Nat × Nat)} (hp : ts.Perm (takenL ps st en)) (hr : RiseS ts) (hn : 0 < n) (h : frR n (bwT ts ts.length) 458752 = some f) :
    0 < f ∧ f + n ≤ 458752 ∧ (∀ x ∈ ps, x.1 < f ∨ f + n ≤ x.1) ∧ (st / 4096 < pgN en → pgN en ≤ f ∨ f + n ≤ st / 4096) := by
  rw [bwT_all] at h
  obtain ⟨h1, h2⟩ := frR_free n f _ _ (rise_rev hr) h
  have h3 : ∀ t ∈ takenL ps st en, t.2 ≤ f ∨ f + n ≤ t.1 := fun t ht => h2 t (List.mem_reverse.2 (hp.mem_iff.2 ht))
  refine ⟨?_, h1, fun x hx => ?_, fun hl => ?_⟩
  · have := h3 (0, 1) (by simp [takenL, tkL])
    simp only at this
    omega
  · have := h3 (x.1, x.1 + 1) (by
      simp only [takenL, tkL, List.mem_append, List.mem_cons, List.mem_map]
      exact .inl (.inr ⟨x, by rw [List.take_of_length_le (Nat.le_refl _)]; exact hx, rfl⟩))
    simp only at this
    omega
  · exact h3 (st / 4096, pgN en) (by simp only [takenL, List.mem_append]; rw [if_pos hl]; simp)
end Go.Proofs.YtkpmkgkfpikpfaaGreat
namespace Go.Proofs.YtkpmkgkfpikpfaaGreat
open Go.RowKit
set_option linter.unusedVariables false
set_option linter.unusedSimpArgs false
set_option maxRecDepth 100000
theorem map_back {ms cs ps : List (Nat × Int)} {bs first n : Nat} {prot : Int} (hf : FitG ms cs ps bs) (hn : n ≠ 0) (hb : first + n ≤ 1048576) (hx : ∀ x ∈ ps, x.1 < first ∨ first + n ≤ x.1) (h0 : (mapR ms cs ps bs first n prot).1 = 0) :
    unmapR (mapR ms cs ps bs first n prot).2.1 (mapR ms cs ps bs first n prot).2.2.1 (mapR ms cs ps bs first n prot).2.2.2 bs first n = (0, ms, cs, ps) := by
  have hm : mid ps first (first + n - 1) = [] := mid_nil (fun x h => by have := hx x h; omega)
  have hg : gpagesOk first n = true := decide_eq_true ⟨hn, hb⟩
  cases hp : (gpagesOk first n && protOk prot) with
  | false => unfold mapR at h0; rw [hp, if_pos rfl] at h0; simp at h0
  | true =>
  by_cases h1 : 256 < ps.length - (mid ps first (first + n - 1)).length + n
  · unfold mapR at h0; rw [hp, if_neg (by decide), if_pos h1] at h0; simp at h0
  by_cases h2 : (msF ps bs ms (ksM (added first prot n) n)).length ≤ 64
  case neg => unfold mapR at h0; rw [hp, if_neg (by decide), if_neg h1, if_neg h2] at h0; simp at h0
  have e : mapR ms cs ps bs first n prot = (0, msF ps bs ms (ksM (added first prot n) n), clearN cs (bs + first * 4096) (n * 4096), lo ps first ++ added first prot n ++ hi ps (first + n - 1)) := by
    unfold mapR; rw [hp, if_neg (by decide), if_neg h1, if_pos h2]
  obtain ⟨q1, q2⟩ := again_eq (prot := prot) hf rfl hn hb hm
  have hcl := clear_free hf rfl hn hb hm
  rw [hcl] at q2
  rw [e]
  unfold unmapR
  rw [hg, if_neg (by decide)]
  simp only [hcl, q1, q2]
theorem someB_free {ps : List (Nat × Int)} {first n : Nat} (h : someB ps first n = false) : ∀ x ∈ ps, x.1 < first ∨ first + n ≤ x.1 := fun x hx => by
  have := List.any_eq_false.1 h x hx
  simp at this
  omega
theorem heapR_fit {ms cs ps : List (Nat × Int)} {bs : Nat} (st en a : Nat) (hf : FitG ms cs ps bs) (hw : Words cs) (hrc : ∀ y ∈ cs, y.1 < 18446744073709551616) : RFit (heapR ms cs ps bs st en a) bs := by
  unfold heapR
  split
  · exact rfit_same hf hw hrc
  split
  · unfold grR
    split
    · exact rfit_same hf hw hrc
    · exact mapR_fit _ _ _ hf hw hrc
  split
  · exact unmapR_fit _ _ hf hw hrc
  · exact rfit_same hf hw hrc
theorem heapR_ge {ms cs ps : List (Nat × Int)} {bs st en a : Nat} (h : (heapR ms cs ps bs st en a).1 = 0) : st ≤ a := by
  by_cases g : a < st
  · unfold heapR at h; rw [if_pos g] at h; simp at h
  · omega
theorem heapR_same (ms cs ps : List (Nat × Int)) (bs st en : Nat) (h : st ≤ en) : heapR ms cs ps bs st en en = (0, ms, cs, ps) := by
  unfold heapR
  rw [if_neg (by omega), if_neg (Nat.lt_irrefl _), if_neg (Nat.lt_irrefl _)]
theorem heapR_back {ms cs ps : List (Nat × Int)} {bs st en a : Nat} (hf : FitG ms cs ps bs) (h : st ≤ en) (hae : en ≤ a) (ha : a < 4294967296) (h0 : (heapR ms cs ps bs st en a).1 = 0) :
    heapR (heapR ms cs ps bs st en a).2.1 (heapR ms cs ps bs st en a).2.2.1 (heapR ms cs ps bs st en a).2.2.2 bs st a en = (0, ms, cs, ps) := by
  have hpg : pgN en ≤ pgN a := by unfold pgN; omega
  have hpa : pgN a ≤ 1048576 := pgN_le a ha
  by_cases g : pgN en < pgN a
  · have e : heapR ms cs ps bs st en a = grR ms cs ps bs (pgN en) (pgN a) := by unfold heapR; rw [if_neg (by omega), if_pos g]
    by_cases gb : 458752 < pgN a ∨ someB ps (pgN en) (pgN a - pgN en) = true
    · rw [e] at h0; unfold grR at h0; rw [if_pos gb] at h0; simp at h0
    have e2 : heapR ms cs ps bs st en a = mapR ms cs ps bs (pgN en) (pgN a - pgN en) 3 := by rw [e]; unfold grR; rw [if_neg gb]
    rw [e2] at h0 ⊢
    have hs : someB ps (pgN en) (pgN a - pgN en) = false := by
      cases hq : someB ps (pgN en) (pgN a - pgN en) with
      | false => rfl
      | true => exact absurd (.inr hq) gb
    have k := map_back (prot := 3) hf (by omega) (by omega) (someB_free hs) h0
    unfold heapR
    rw [if_neg (by omega), if_neg (by omega), if_pos g, k]
  · have e : heapR ms cs ps bs st en a = (0, ms, cs, ps) := by unfold heapR; rw [if_neg (by omega), if_neg g, if_neg (by omega)]
    rw [e]
    unfold heapR
    rw [if_neg (by omega), if_neg (by omega), if_neg (by omega)]
theorem mm_back {ms cs ps : List (Nat × Int)} {bs st en n : Nat} {prot : Int} {R : GRes} {at_ : Nat} (hf : FitG ms cs ps bs) (hw : Words cs) (hrc : ∀ y ∈ cs, y.1 < 18446744073709551616) (h : MmIs ms cs ps bs st en 0 n prot false R at_) (h0 : R.1 = 0) :
    munR R.2.1 R.2.2.1 R.2.2.2 bs at_ n = (0, ms, cs, ps) ∧ at_ < 4294967296 ∧ RFit R bs := by
  rcases h with ⟨_, rfl, _⟩ | ⟨hb, f, err, hfp, ⟨he, rfl, _⟩ | ⟨rfl, hR, hat⟩⟩
  · simp at h0
  · exact absurd h0 he
  have hn : n ≠ 0 := fun e => hb (.inl e)
  have hpn : 0 < pgN n := by unfold pgN; omega
  rcases hfp with ⟨_, _, he⟩ | ⟨_, ⟨hc, _⟩ | ⟨_, hc, _⟩, _, _⟩ | ⟨_, _, _, ts, hp, hr, hF, he⟩
  · simp at he
  · simp at hc
  · exact absurd rfl hc
  cases hs : frR (pgN n) (bwT ts ts.length) 458752 with
  | none => rw [hs] at he; simp at he
  | some g =>
  rw [hs] at hF
  obtain rfl : f = g := by simpa using hF
  obtain ⟨g1, g2, g3, _⟩ := fr_free hp hr hpn hs
  rw [h0, if_pos rfl] at hat
  have hRF : RFit R bs := by rw [hR]; exact mapR_fit _ _ _ hf hw hrc
  refine ⟨?_, by omega, hRF⟩
  unfold munR
  have d : at_ / 4096 = f := by omega
  rw [if_neg (by omega), d, hR]
  rw [hR] at h0
  exact map_back hf (by omega) (by omega) g3 h0
theorem spFit_of {ms cs ps : List (Nat × Int)} {bs st en : Nat} (hf : FitG ms cs ps bs) (h1 : st % 4096 = 0) (h2 : st ≤ en) : spFit ms cs ps bs st en = true := by
  unfold spFit
  rw [decide_eq_true h1, decide_eq_true h2]
  have : fitGB ms cs ps bs = true := by unfold fitGB; simp [hf]
  rw [this]; rfl
theorem of_spFit {ms cs ps : List (Nat × Int)} {bs st en : Nat} (h : spFit ms cs ps bs st en = true) : FitG ms cs ps bs ∧ st % 4096 = 0 ∧ st ≤ en := by
  unfold spFit at h
  simp only [Bool.and_eq_true, decide_eq_true_eq] at h
  exact ⟨of_fitGB h.1.1, h.1.2, h.2⟩
theorem fit_nil : FitG [] [] [] 0 := ⟨⟨by simp, by simp, List.Pairwise.nil, List.Pairwise.nil, (fun x h => by cases h), (fun x h => by cases h)⟩, rfl, by omega, by simp, List.Pairwise.nil, (fun x h => by cases h), (fun x h => by cases h), (fun x h => by cases h)⟩
theorem ex_map : mapR [] [] [] 0 458750 2 3 = (0, [(114687, 3)], [], [(458750, 3), (458751, 3)]) := by kernel_rfl
theorem ex_mun : munR [(114687, 3)] [] [(458750, 3), (458751, 3)] 0 1879040000 1 = (0, [(114687, 3)], [], [(458751, 3)]) := by kernel_rfl
theorem ex_heap : heapR [] [] [] 0 8192 8192 8193 = (0, [(0, 3)], [], [(2, 3)]) := by kernel_rfl
theorem ex_prot : protN [(2, 3)] 2 = 3 := by kernel_rfl
theorem ex_fr : frR 2 [(0, 1)] 458752 = some 458750 := by kernel_rfl
theorem ex_mm {R : GRes} {at_ : Nat} (h : MmIs [] [] [] 0 0 0 0 5000 3 false R at_) : R = (0, [(114687, 3)], [], [(458750, 3), (458751, 3)]) ∧ at_ = 1879040000 := by
  rcases h with ⟨hb, _, _⟩ | ⟨hb, f, err, hfp, hh⟩
  · rcases hb with hb | hb | hb
    · simp at hb
    · simp [protOk] at hb
    · simp at hb
  have e2 : pgN 5000 = 2 := by rfl
  rw [e2] at hfp hh
  rcases hfp with ⟨hc | hc, _, _⟩ | ⟨_, ⟨hc, _⟩ | ⟨_, hc, _⟩, _, _⟩ | ⟨_, _, _, ts, hp, hr, hF, he⟩
  · omega
  · simp at hc
  · simp at hc
  · exact absurd rfl hc
  have ht : takenL [] 0 0 = [(0, 1)] := by rfl
  rw [ht] at hp
  have hts : ts = [(0, 1)] := List.perm_singleton.1 hp
  rw [hts, bwT_all] at hF he
  rw [show [((0 : Nat), (1 : Nat))].reverse = [(0, 1)] from rfl, ex_fr] at hF he
  have hf : f = 458750 := by simpa using hF
  have her : err = 0 := by simpa using he
  rcases hh with ⟨hc, _⟩ | ⟨_, hR, hat⟩
  · exact absurd her hc
  rw [hf, ex_map] at hR
  rw [hR, hf] at hat
  exact ⟨hR, hat⟩
end Go.Proofs.YtkpmkgkfpikpfaaGreat
namespace Go.Proofs.YtkpmkgkfpikpfaaGreat
open Go.RowKit
set_option linter.unusedVariables false
set_option linter.unusedSimpArgs false
set_option maxRecDepth 100000
theorem new6 (w : World) (y0 y1 y2 y3 y4 y5 : Value) : ∃ Xa X, w.alloc (.cells #[.slice none 0 0, .slice none 0 0, .int .u64 0, .slice none 0 0, .int .u32 0, .int .u32 0] 32) = Xa ∧ (((((Xa.setCell ⟨w.heap.size, 0, none⟩ y0).setCell ⟨w.heap.size, 1, none⟩ y1).setCell ⟨w.heap.size, 2, none⟩ y2).setCell ⟨w.heap.size, 3, none⟩ y3).setCell ⟨w.heap.size, 4, none⟩ y4).setCell ⟨w.heap.size, 5, none⟩ y5 = X ∧
    (Xa.cell? ⟨w.heap.size, 0, none⟩ = some (.slice none 0 0) ∧ Xa.cell? ⟨w.heap.size, 1, none⟩ = some (.slice none 0 0) ∧ Xa.cell? ⟨w.heap.size, 2, none⟩ = some (.int .u64 0) ∧ Xa.cell? ⟨w.heap.size, 3, none⟩ = some (.slice none 0 0) ∧ Xa.cell? ⟨w.heap.size, 4, none⟩ = some (.int .u32 0) ∧ Xa.cell? ⟨w.heap.size, 5, none⟩ = some (.int .u32 0)) ∧
    (Xa.frozen? ⟨w.heap.size, 0, none⟩ = false ∧ Xa.frozen? ⟨w.heap.size, 1, none⟩ = false ∧ Xa.frozen? ⟨w.heap.size, 2, none⟩ = false ∧ Xa.frozen? ⟨w.heap.size, 3, none⟩ = false ∧ Xa.frozen? ⟨w.heap.size, 4, none⟩ = false ∧ Xa.frozen? ⟨w.heap.size, 5, none⟩ = false) ∧
    B6 X w.heap.size 32 y0 y1 y2 y3 y4 y5 ∧ Below w.heap.size w X := by
  have h := B6.new w 32 (.slice none 0 0) (.slice none 0 0) (.int .u64 0) (.slice none 0 0) (.int .u32 0) (.int .u32 0)
  exact ⟨_, _, rfl, rfl, h.cells, h.frees, h.set6 y0 y1 y2 y3 y4 y5, S6.below ((Below.refl _ _).alloc (Nat.le_refl _) _) (Nat.le_refl _) y0 y1 y2 y3 y4 y5⟩
set_option maxHeartbeats 4000000 in
theorem awake10 (w : World) : Calls Tryz.prog 10 #[] w fun e w' => e = .returned (.bool true) ∧ Below w.heap.size w w' := by
  have K11 : Calls Tryz.prog 11 #[.agg #[.slice none 0 0, .slice none 0 0, .int .u64 0, .slice none 0 0, .int .u32 0, .int .u32 0], .int .u32 0, .int .u32 5000, .int .i64 3, .bool false] w fun e w' => ∃ x1 x2 x3 x4 x5 x6 x7 x8 x9, e = .returned (.tuple #[.agg #[.slice x1 x2 x3, .slice x4 x5 x6, .int .u64 0, .slice x7 x8 x9, .int .u32 0, .int .u32 0], .int .u32 1879040000, .int .i64 0]) ∧ SlG w' (.slice x1 x2 x3) (.slice x4 x5 x6) (.slice x7 x8 x9) [(114687, 3)] [] [(458750, 3), (458751, 3)] ∧ Below w.heap.size w w' := by
    refine (mmap11 (.slice none 0 0) (.slice none 0 0) (.slice none 0 0) 0 0 0 0 5000 3 false [] [] [] w (slg_nil w) (fun y hy => by cases hy) (fun y hy => by cases hy) fit_nil (by omega) (by omega) (by omega) (by omega)).mono ?_
    rintro e w' ⟨R, at_, hm, c1, c2, c3, c4, c5, c6, c7, c8, c9, rfl, hs, hb⟩
    obtain ⟨rfl, rfl⟩ := ex_mm hm
    exact ⟨_, _, _, _, _, _, _, _, _, rfl, hs, hb⟩
  go_enter Tryz.func10, Tryz.ntmps10
  go_wp2_with fail
  refine K11.mono ?_
  rintro e w1 ⟨x1, x2, x3, x4, x5, x6, x7, x8, x9, rfl, hs1, hb1⟩
  clear K11
  obtain ⟨Xa, X1, hXa, hX1, ⟨i0, i1, i2, i3, i4, i5⟩, ⟨j0, j1, j2, j3, j4, j5⟩, B1, bb1⟩ := new6 w1 (.slice x1 x2 x3) (.slice x4 x5 x6) (.int .u64 0) (.slice x7 x8 x9) (.int .u32 0) (.int .u32 0)
  have hs1 := hs1.keep bb1
  have HN : Hid (w.heap.size ≤ w1.heap.size ∧ Below w.heap.size w X1) := ⟨hb1.size, below_tr hb1 bb1⟩
  obtain ⟨c0, c1, c2, c3, c4, c5⟩ := B1.cells
  have hf1 : FitG [(114687, 3)] [] [(458750, 3), (458751, 3)] 0 := by
    have h := (mapR_fit 458750 2 3 fit_nil (fun y hy => by cases hy) (fun y hy => by cases hy)).1
    rw [ex_map] at h
    exact h
  have K13 := munmap13 (.slice x1 x2 x3) (.slice x4 x5 x6) (.slice x7 x8 x9) 0 0 0 1879040000 1 [(114687, 3)] [] [(458750, 3), (458751, 3)] X1 hs1 (fun y hy => by cases hy) (fun y hy => by cases hy) hf1 (by omega) (by omega)
  rw [ex_mun] at K13
  clear hb1 bb1 hs1 hf1
  go_wp2_with fail
  refine K13.mono ?_
  rintro e w2 ⟨y1, y2, y3, y4, y5, y6, y7, y8, y9, rfl, hs2, hb2⟩
  obtain rfl : y8 = 1 := by
    obtain ⟨_, _, e8, _⟩ := id hs2.2.2
    cases e8
    rfl
  clear K13
  have B2' := B1.keep hb2
  clear B1 hX1 hXa i0 i1 i2 i3 i4 i5 j0 j1 j2 j3 j4 j5 c0 c1 c2 c3 c4 c5
  obtain ⟨q0, q1, q2, q3, q4, q5⟩ := B2'.cells
  obtain ⟨f0, f1, f2, f3, f4, f5⟩ := B2'.frees
  have hS := slg_S6 hs2 B2' y1 y4 y7 y2 y3 y5 y6 1 y9 0 0 0
  have B3 := B2'.set6 (.slice y1 y2 y3) (.slice y4 y5 y6) (.int .u64 0) (.slice y7 1 y9) (.int .u32 0) (.int .u32 0)
  have hW := S6.below (B := w.heap.size) (b := w1.heap.size) (below_tr HN.out.2 hb2) HN.out.1 (.slice y1 y2 y3) (.slice y4 y5 y6) (.int .u64 0) (.slice y7 1 y9) (.int .u32 0) (.int .u32 0)
  obtain ⟨W3, hW3⟩ : ∃ z, S6 w2 w1.heap.size (.slice y1 y2 y3) (.slice y4 y5 y6) (.int .u64 0) (.slice y7 1 y9) (.int .u32 0) (.int .u32 0) = z := ⟨_, rfl⟩
  rw [hW3] at hS B3 hW
  unfold S6 S4 at hW3
  have HS3 : Hid (Below w.heap.size w W3) := hW
  have K17 : Calls Tryz.prog 17 #[.agg #[.slice none 0 0, .slice none 0 0, .int .u64 0, .slice none 0 0, .int .u32 8192, .int .u32 8192], .int .u32 8193] W3 (BTold [(0, 3)] [] [(2, 3)] 0 8192 8193 W3) := by
    have h := brk17 (.slice none 0 0) (.slice none 0 0) (.slice none 0 0) 0 8192 8192 8193 [] [] [] W3 (slg_nil W3) (fun y hy => by cases hy) (fun y hy => by cases hy) fit_nil (by omega) (by omega)
    rw [ex_heap, if_pos rfl] at h
    exact h
  clear hs2 hb2 B2' hS hW
  go_wp2_with fail
  refine K17.mono ?_
  rintro e w4 ⟨z1, z2, z3, z4, z5, z6, z7, z8, z9, rfl, hs4, hb4⟩
  clear K17
  obtain ⟨Xb, X5, hXb, hX5, ⟨i0, i1, i2, i3, i4, i5⟩, ⟨j0, j1, j2, j3, j4, j5⟩, B5, bb5⟩ := new6 w4 (.slice z1 z2 z3) (.slice z4 z5 z6) (.int .u64 0) (.slice z7 z8 z9) (.int .u32 8192) (.int .u32 8193)
  have B3 := (B3.keep hb4).keep bb5
  have hs5 := hs4.keep bb5
  have HS5 : Hid (Below w.heap.size w X5) := below_tr HS3.out (below_tr hb4 bb5)
  have K21 := rprot15 (.slice z1 z2 z3) (.slice z4 z5 z6) (.slice z7 z8 z9) 0 2 [(2, 3)] X5 ⟨_, _, _, rfl⟩ ⟨_, _, _, rfl⟩ hs5.2.2
  rw [ex_prot] at K21
  obtain ⟨c0, c1, c2, c3, c4, c5⟩ := B3.cells
  obtain ⟨d0, d1, d2, d3, d4, d5⟩ := B5.cells
  clear q0 q1 q2 q3 q4 q5 f0 f1 f2 f3 f4 f5 hW3 hs4 hb4 bb5 hs5 B3 B5
  go_wp2_with fail
  refine K21.mono ?_
  rintro e w6 ⟨rfl, hb6⟩
  have HS6 : Hid (Below w.heap.size w w6) := below_tr HS5.out hb6
  go_wp2
  go_ret
  exact ⟨rfl, HS6.out⟩
end Go.Proofs.YtkpmkgkfpikpfaaGreat
