/- What is proved here: what is put is told: the bytes behind stores of pieces, and that the memory stays fit. -/
import Derived.Test.YtdhjmghfiodifaaGby
import Derived.Test.YtdhjmghfiodifaaGpu
namespace Go.Proofs.Ytdhjmghfiodifaa
open Go.RowKit
set_option linter.unusedVariables false
set_option linter.unusedSimpArgs false
set_option maxRecDepth 100000

theorem peek_store (cs : List (Nat × Int)) (hw : Words cs) (a k v p : Nat) (k1 : 1 ≤ k) (k8 : k ≤ 8) : peekN (storeN cs a k v) p = if a ≤ p ∧ p < a + k then W.byteAt v (p - a) else peekN cs p := by
  refine Nat.eq_of_testBit_eq (fun j => ?_)
  rw [peekN_bit]
  by_cases hj : j < 8
  · rw [storeN_bit cs hw a k v (cellOf p) (8 * (p % 8) + j) k1 k8 (cellOf_facts p).1 (by omega)]
    rw [show cellOf p + (8 * (p % 8) + j) / 8 = p by unfold cellOf; omega, show (8 * (p % 8) + j) % 8 = j by omega]
    split
    · rw [W.byteAt, show (256 : Nat) = 2 ^ 8 from rfl, Nat.testBit_mod_two_pow, Nat.testBit_div_two_pow, Nat.add_comm j]
    · rw [peekN_bit]
  · split
    · rw [W.byteAt, show (256 : Nat) = 2 ^ 8 from rfl, Nat.testBit_mod_two_pow]; simp [hj]
    · rw [peekN_bit]; simp [hj]
theorem byte_rev : ∀ (l : List UInt8) (i : Nat) (hi : i < l.length), W.byteAt (W.beL l.reverse) i = (l[i]).toNat
  | [], i, hi => by simp at hi
  | c :: t, 0, _ => by
    rw [List.reverse_cons, W.beL_snoc, W.byteAt]
    have := c.toNat_lt
    simp
  | c :: t, i + 1, hi => by
    have h := byte_rev t i (by simpa using hi)
    have hc := c.toNat_lt
    rw [List.reverse_cons, W.beL_snoc]
    rw [W.byteAt] at h ⊢
    rw [show 8 * (i + 1) = 8 + 8 * i by omega, Nat.pow_add, ← Nat.div_div_eq_div_mul, show (W.beL t.reverse * 256 + c.toNat) / 2 ^ 8 = W.beL t.reverse by omega]
    simpa using h
theorem byte_le (l : List UInt8) (h : l.length ≤ 8) (i : Nat) (hi : i < l.length) : W.byteAt (W.leS ⟨l.toArray⟩) i = (l[i]).toNat := by
  rw [W.leS, if_pos (show (⟨l.toArray⟩ : ByteArray).size ≤ 8 from by show l.toArray.size ≤ 8; simpa using h)]
  exact byte_rev l i hi
theorem lohi_len (xs : List (Nat × Int)) (a b : Nat) (h : a ≤ b) : (lo xs a).length + (hi xs b).length ≤ xs.length := by
  induction xs with
  | nil => simp [lo, hi]
  | cons x t ih =>
    unfold lo hi at ih ⊢
    by_cases h1 : x.1 < a
    · rw [List.filter_cons_of_pos (by simpa using h1), List.filter_cons_of_neg (by simp; omega)]
      simp only [List.length_cons]; omega
    · rw [List.filter_cons_of_neg (by simpa using h1)]
      by_cases h2 : b < x.1
      · rw [List.filter_cons_of_pos (by simpa using h2)]
        simp only [List.length_cons]; omega
      · rw [List.filter_cons_of_neg (by simpa using h2)]
        simp only [List.length_cons]; omega
theorem cellOf_le {a b : Nat} (h : a ≤ b) : cellOf a ≤ cellOf b := by unfold cellOf; omega
theorem store_len (cs : List (Nat × Int)) (a k v : Nat) (k1 : 1 ≤ k) : (storeN cs a k v).length ≤ cs.length + 2 := by
  have h1 := put_len cs a (a + k - 1) v
  have h2 := lohi_len cs (cellOf a) (cellOf (a + k - 1)) (cellOf_le (by omega))
  unfold storeN
  simp only [List.length_append]
  omega
theorem store_keys {cs : List (Nat × Int)} (hw : Words cs) {a k v : Nat} {y : Nat × Int} (h : y ∈ storeN cs a k v) : y ∈ cs ∨ y.1 = cellOf a ∨ y.1 = cellOf (a + k - 1) := by
  unfold storeN at h
  rcases List.mem_append.1 h with h | h
  · rcases List.mem_append.1 h with h | h
    · exact Or.inl (List.mem_filter.1 h).1
    · exact Or.inr (put_mem hw h).1
  · exact Or.inl (List.mem_filter.1 h).1
/-- What stores of pieces leave. -/
structure PutI (ms cs : List (Nat × Int)) (bs a : Nat) (s : ByteArray) (k : Nat) (S : List (Nat × Int)) : Prop where
  fq : FitQ ms S
  ww : Words S
  rc : ∀ y ∈ S, y.1 < 18446744073709551616
  ln : S.length ≤ cs.length + 2 * k
  ks : ∀ y ∈ S, y ∈ cs ∨ ∃ i, i < offP a s.size k ∧ y.1 = cellOf (bs + a + i)
  pk : ∀ p, peekN S p = if bs + a ≤ p ∧ p < bs + a + offP a s.size k then (s.data.toList.getD (p - (bs + a)) 0).toNat else peekN cs p
theorem stL_snoc (cs : List (Nat × Int)) (xs : List S3) (x : S3) : stL cs (xs ++ [x]) = storeN (stL cs xs) x.1 x.2.1 x.2.2 := by simp [stL, List.foldl_append]
theorem put_inv {ms cs : List (Nat × Int)} {bs a : Nat} {s : ByteArray} (hq : FitQ ms cs) (hw : Words cs) (hrc : ∀ y ∈ cs, y.1 < 18446744073709551616) (hfew : cs.length + 2 * s.size ≤ 65534)
    (h : ∀ x ∈ pcM a (bs + a) s.size s.size, (faultFrom ms x.2.1 2 0 x.2.2).1 = 0) : ∀ k, k ≤ s.size → PutI ms cs bs a s k (stL cs ((pcM a (bs + a) s.size k).map (trP s a)))
  | 0, _ => ⟨hq, hw, hrc, by simp [stL, pcM], fun y hy => Or.inl hy, fun p => by rw [if_neg (by simp [offP])]; rfl⟩
  | k + 1, hk => by
    have ih := put_inv hq hw hrc hfew h k (by omega)
    have hl := offP_le a s.size k
    by_cases c : offP a s.size k < s.size
    · have hz := h _ (pcM_mem a (bs + a) s.size k c s.size (by omega))
      obtain ⟨o, ho⟩ : ∃ o, o = offP a s.size k := ⟨_, rfl⟩
      obtain ⟨m, hm⟩ : ∃ m, m = min (8 - (a + o) % 8) (s.size - o) := ⟨_, rfl⟩
      have e1 : offP a s.size (k + 1) = o + m := by rw [offP, ← ho, hm]
      have e2 : pcOf a (bs + a) s.size (offP a s.size k) = (a + o, bs + a + o, m) := by rw [← ho, hm, pcOf]
      rw [e2] at hz
      have m1 : 1 ≤ m := by omega
      have m8 : m ≤ 8 := by omega
      have e3 : stL cs ((pcM a (bs + a) s.size (k + 1)).map (trP s a)) = storeN (stL cs ((pcM a (bs + a) s.size k).map (trP s a))) (bs + a + o) m (W.leS ⟨((s.data.toList.drop o).take m).toArray⟩) := by
        rw [pcM, if_pos c, e2, List.map_append, List.map_cons, List.map_nil, stL_snoc]
        simp only [trP]
        rw [show a + o - a = o by omega]
      obtain ⟨f1, f2, f3⟩ := fit_store ih.fq ih.ww ih.rc (by have := ih.ln; omega) (bs + a + o) m (W.leS ⟨((s.data.toList.drop o).take m).toArray⟩) m1 hz
      rw [e3]
      have hsl : s.data.toList.length = s.size := Array.length_toList
      have hln : ((s.data.toList.drop o).take m).length = m := by rw [List.length_take, List.length_drop, hsl]; omega
      refine ⟨f1, f2, f3, ?_, ?_, ?_⟩
      · have := store_len (stL cs ((pcM a (bs + a) s.size k).map (trP s a))) (bs + a + o) m (W.leS ⟨((s.data.toList.drop o).take m).toArray⟩) m1
        have := ih.ln
        omega
      · intro y hy
        rw [e1]
        rcases store_keys ih.ww hy with e | e | e
        · rcases ih.ks y e with e | ⟨i, hi, e⟩
          · exact Or.inl e
          · exact Or.inr ⟨i, by omega, e⟩
        · exact Or.inr ⟨o, by omega, e⟩
        · exact Or.inr ⟨o + m - 1, by omega, by rw [e, show bs + a + o + m - 1 = bs + a + (o + m - 1) by omega]⟩
      · intro p
        rw [peek_store _ ih.ww _ _ _ _ m1 m8, ih.pk p, e1, ← ho]
        by_cases c1 : bs + a + o ≤ p ∧ p < bs + a + o + m
        · rw [if_pos c1, if_pos (by omega), byte_le _ (by omega) _ (by omega)]
          rw [List.getElem_take, List.getElem_drop, List.getD_eq_getElem?_getD, List.getElem?_eq_getElem (by omega)]
          simp only [Option.getD_some]
          congr 2
          omega
        · rw [if_neg c1]
          by_cases c2 : bs + a ≤ p ∧ p < bs + a + o
          · rw [if_pos c2, if_pos (by omega)]
          · rw [if_neg c2, if_neg (by omega)]
    · have e1 : offP a s.size (k + 1) = offP a s.size k := by rw [offP, show s.size - offP a s.size k = 0 by omega, Nat.min_zero, Nat.add_zero]
      have e3 : pcM a (bs + a) s.size (k + 1) = pcM a (bs + a) s.size k := by rw [pcM, if_neg c, List.append_nil]
      rw [e3]
      exact ⟨ih.fq, ih.ww, ih.rc, by have := ih.ln; omega, fun y hy => by rw [e1]; exact ih.ks y hy, fun p => by rw [e1]; exact ih.pk p⟩
/-- What a put leaves, where there is no fault. -/
theorem put_put {ms cs ps : List (Nat × Int)} {bs a : Nat} {s : ByteArray} {asked : Int} (hf : FitG ms cs ps bs) (hw : Words cs) (hrc : ∀ y ∈ cs, y.1 < 18446744073709551616) (hfew : cs.length + 2 * s.size ≤ 65534) (ha : a < 4294967296) (h : (ffN ps a s.size asked).1 = 0) :
    PutI ms cs bs a s s.size (chL cs ps bs a s asked) := by
  rw [chL, if_pos h]
  exact put_inv hf.fq hw hrc hfew (fit_host hf ha (Or.inr rfl) h) s.size (Nat.le_refl _)
theorem put_fit {ms cs ps : List (Nat × Int)} {bs a : Nat} {s : ByteArray} {asked : Int} (hf : FitG ms cs ps bs) (hw : Words cs) (hrc : ∀ y ∈ cs, y.1 < 18446744073709551616) (hfew : cs.length + 2 * s.size ≤ 65534) (ha : a < 4294967296) :
    FitG ms (chL cs ps bs a s asked) ps bs ∧ Words (chL cs ps bs a s asked) ∧ (∀ y ∈ chL cs ps bs a s asked, y.1 < 18446744073709551616) ∧ (chL cs ps bs a s asked).length ≤ cs.length + 2 * s.size := by
  by_cases h : (ffN ps a s.size asked).1 = 0
  · have hp := put_put hf hw hrc hfew ha h
    refine ⟨⟨hp.fq, hf.al, hf.le, hf.lp, hf.sp, hf.pg, hf.rm, fun c hc hin => ?_⟩, hp.ww, hp.rc, hp.ln⟩
    rcases hp.ks c hc with e | ⟨i, hi, e⟩
    · exact hf.rc c e hin
    · have hi' : i < s.size := Nat.lt_of_lt_of_le hi (offP_le _ _ _)
      have hg := ((ffN_bytes ps a s.size asked).1 h).2 i hi'
      have hal := hf.al
      have e2 : (c.1 - bs) / 4096 = (a + i) / 4096 := by rw [e]; unfold cellOf; omega
      rw [e2]
      unfold gk at hg
      split at hg
      · simp at hg
      · omega
  · rw [chL, if_neg h]
    exact ⟨hf, hw, hrc, by omega⟩
theorem put_told {ms cs ps : List (Nat × Int)} {bs a : Nat} {s : ByteArray} {asked asked' : Int} (hf : FitG ms cs ps bs) (hw : Words cs) (hrc : ∀ y ∈ cs, y.1 < 18446744073709551616) (hfew : cs.length + 2 * s.size ≤ 65534) (ha : a < 4294967296) (h : (ffN ps a s.size asked).1 = 0) (h' : (ffN ps a s.size asked').1 = 0) :
    tdL ms (chL cs ps bs a s asked) ps bs a s.size asked' = s.data.toList := by
  have hp := put_put hf hw hrc hfew ha h
  obtain ⟨f1, f2, f3, f4⟩ := put_fit (asked := asked) hf hw hrc hfew ha
  rw [tdL_by f1 f2 ha h']
  have hsl : s.data.toList.length = s.size := Array.length_toList
  refine List.ext_getElem (by rw [byL_length, hsl]) (fun i h1 h2 => ?_)
  rw [byL_length] at h1
  simp only [byL, List.getElem_map, List.getElem_range]
  rw [hp.pk, offP_full, if_pos (by omega), show bs + a + i - (bs + a) = i by omega]
  rw [List.getD_eq_getElem?_getD, List.getElem?_eq_getElem h2]
  simp
theorem put_else {ms cs ps : List (Nat × Int)} {bs a : Nat} {s : ByteArray} {asked : Int} (hf : FitG ms cs ps bs) (hw : Words cs) (hrc : ∀ y ∈ cs, y.1 < 18446744073709551616) (hfew : cs.length + 2 * s.size ≤ 65534) (ha : a < 4294967296) (h : (ffN ps a s.size asked).1 = 0) (p : Nat) (hp : ¬ (bs + a ≤ p ∧ p < bs + a + s.size)) :
    peekN (chL cs ps bs a s asked) p = peekN cs p := by
  have hq := put_put hf hw hrc hfew ha h
  rw [hq.pk, offP_full, if_neg hp]
theorem ffL_kind (ps : List (Nat × Int)) (asked asked' : Int) : ∀ xs : List P3, (∀ y ∈ xs, gk ps asked y.1 = 0) → (ffL ps asked' xs).1 ≠ 1
  | [], _ => by simp [ffL]
  | x :: t, h => by
    rw [ffL]
    split
    · exact ffL_kind ps asked asked' t (fun y hy => h y (by simp [hy]))
    · have h0 := h x (by simp)
      unfold gk at h0 ⊢
      split at h0
      · simp at h0
      · rename_i c
        rw [if_neg c]
        split <;> simp
theorem ffN_kind {ps : List (Nat × Int)} {a n : Nat} {asked asked' : Int} (h : (ffN ps a n asked).1 = 0) : (ffN ps a n asked').1 ≠ 1 := by
  have hz := (ffN_zero ps a n asked h).2
  unfold ffN at h ⊢
  rw [if_neg (by omega)] at h ⊢
  exact ffL_kind ps asked asked' _ (ffL_all ps asked _ h)
theorem newGF (w : World) (y0 y1 y2 y3 x y : Value) : ∃ Wa Wb Wc Wd n, w.alloc (.cells #[.slice none 0 0, .slice none 0 0, .int .u64 0, .slice none 0 0] 29) = Wa ∧ Wa.alloc (.cells #[.int .i64 0, .int .u64 0] 34) = Wb ∧ Wa.heap.size = n ∧
    (((Wb.setCell ⟨w.heap.size, 0, none⟩ y0).setCell ⟨w.heap.size, 1, none⟩ y1).setCell ⟨w.heap.size, 2, none⟩ y2).setCell ⟨w.heap.size, 3, none⟩ y3 = Wc ∧ (Wc.setCell ⟨n, 0, none⟩ x).setCell ⟨n, 1, none⟩ y = Wd ∧
    (Wb.cell? ⟨w.heap.size, 0, none⟩ = some (.slice none 0 0) ∧ Wb.cell? ⟨w.heap.size, 1, none⟩ = some (.slice none 0 0) ∧ Wb.cell? ⟨w.heap.size, 2, none⟩ = some (.int .u64 0) ∧ Wb.cell? ⟨w.heap.size, 3, none⟩ = some (.slice none 0 0) ∧ Wb.frozen? ⟨w.heap.size, 0, none⟩ = false ∧ Wb.frozen? ⟨w.heap.size, 1, none⟩ = false ∧ Wb.frozen? ⟨w.heap.size, 2, none⟩ = false ∧ Wb.frozen? ⟨w.heap.size, 3, none⟩ = false) ∧
    (Wc.cell? ⟨n, 0, none⟩ = some (.int .i64 0) ∧ Wc.cell? ⟨n, 1, none⟩ = some (.int .u64 0) ∧ Wc.frozen? ⟨n, 0, none⟩ = false ∧ Wc.frozen? ⟨n, 1, none⟩ = false) ∧
    B4 Wd w.heap.size 29 y0 y1 y2 y3 ∧ B2 Wd n 34 x y ∧ Below w.heap.size w Wd := by
  obtain ⟨Wa, hWa⟩ : ∃ z, w.alloc (.cells #[.slice none 0 0, .slice none 0 0, .int .u64 0, .slice none 0 0] 29) = z := ⟨_, rfl⟩
  have h0 : B4 Wa w.heap.size 29 (.slice none 0 0) (.slice none 0 0) (.int .u64 0) (.slice none 0 0) := by rw [← hWa]; exact B4.new w 29 _ _ _ _
  have b0 : Below w.heap.size w Wa := by rw [← hWa]; exact (Below.refl _ _).alloc (Nat.le_refl _) _
  have hlt := h0.lt
  have hk : Below Wa.heap.size Wa (Wa.alloc (.cells #[.int .i64 0, .int .u64 0] 34)) := (Below.refl _ _).alloc (Nat.le_refl _) _
  have h1 := h0.keep hk
  have g1 : B2 (Wa.alloc (.cells #[.int .i64 0, .int .u64 0] 34)) Wa.heap.size 34 (.int .i64 0) (.int .u64 0) := B2.new Wa 34 _ _
  have h2 := h1.set y0 y1 y2 y3
  have q := set4_by (Wa.alloc (.cells #[.int .i64 0, .int .u64 0] 34)) w.heap.size y0 y1 y2 y3
  have g2 := g1.by q (by omega)
  have g3 := g2.set x y
  have h3 := h2.by (set2_by _ Wa.heap.size x y) (by omega)
  obtain ⟨a1, a2, a3, a4⟩ := h1.cells
  obtain ⟨f1, f2, f3, f4⟩ := h1.frees
  refine ⟨Wa, _, _, _, _, hWa, rfl, rfl, rfl, rfl, ⟨a1, a2, a3, a4, f1, f2, f3, f4⟩, ⟨g2.c0, g2.c1, g2.f0, g2.f1⟩, h3, g3, ?_⟩
  have b1 : Below w.heap.size w (Wa.alloc (.cells #[.int .i64 0, .int .u64 0] 34)) := b0.alloc (by omega) _
  have l0 : w.heap.size ≤ Wa.heap.size := by omega
  exact (((((b1.setCell (by simp) y0).setCell (by simp) y1).setCell (by simp) y2).setCell (by simp) y3).setCell (by simpa using l0) x).setCell (by simpa using l0) y
end Go.Proofs.Ytdhjmghfiodifaa
