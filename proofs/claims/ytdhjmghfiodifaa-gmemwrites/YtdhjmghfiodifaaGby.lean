/- What is proved here: what is told, byte by byte. -/
import Derived.Test.YtdhjmghfiodifaaGpu
import Derived.Test.YtdhjmghfiodifaaBackPlain
import Derived.Test.YtdhjmghfiodifaaGld
import Derived.Test.YtdhjmghfiodifaaGfit
import Derived.Test.YtdhjmghfiodifaaGtd
import Derived.Test.YtdhjmghfiodifaaGr3
namespace Go.Proofs.Ytdhjmghfiodifaa
open Go.RowKit
set_option linter.unusedVariables false
set_option linter.unusedSimpArgs false
set_option maxRecDepth 100000
theorem byte_load (cs : List (Nat × Int)) (hw : Words cs) (a k i : Nat) (k8 : k ≤ 8) (hi : i < k) : W.byteAt (loadN cs a k) i = peekN cs (a + i) := by
  refine Nat.eq_of_testBit_eq (fun b => ?_)
  rw [W.byteAt, peekN, show (256 : Nat) = 2 ^ 8 from rfl, Nat.testBit_mod_two_pow, Nat.testBit_mod_two_pow, Nat.testBit_div_two_pow, Nat.testBit_div_two_pow, loadN_bit cs hw a k _ (by omega) k8]
  by_cases hb : b < 8
  · rw [show (b + 8 * i) / 8 = i by omega, show (b + 8 * i) % 8 = b by omega, Nat.add_comm (8 * ((a + i) % 8)) b]
    simp [hb, show b + 8 * i < 8 * k by omega]
  · simp [hb]
/-- Bytes of the host in a row. -/
def byL (cs : List (Nat × Int)) (p n : Nat) : List UInt8 := (List.range n).map (fun i => UInt8.ofNat (peekN cs (p + i)))
theorem byL_length (cs : List (Nat × Int)) (p n : Nat) : (byL cs p n).length = n := by simp [byL]
theorem byL_add (cs : List (Nat × Int)) (p m n : Nat) : byL cs p (m + n) = byL cs p m ++ byL cs (p + m) n := by
  unfold byL
  rw [List.range_add, List.map_append, List.map_map]
  congr 1
  exact List.map_congr_left (fun i _ => by simp [Nat.add_assoc])
theorem leB_load (cs : List (Nat × Int)) (hw : Words cs) (p k : Nat) (k8 : k ≤ 8) : W.leB (loadN cs p k) k = byL cs p k := by
  refine List.ext_getElem (by rw [W.leB_length, byL_length]) (fun i h1 h2 => ?_)
  rw [W.leB_get]
  rw [byL_length] at h2
  rw [byte_load cs hw p k i k8 h2]
  simp [byL]
theorem rdL_by (ms cs : List (Nat × Int)) (hw : Words cs) (bs a n : Nat) (h : ∀ x ∈ pcM a (bs + a) n n, (faultFrom ms x.2.1 1 0 x.2.2).1 = 0) : ∀ k, k ≤ n → rdL ms cs (pcM a (bs + a) n k) = byL cs (bs + a) (offP a n k)
  | 0, _ => by simp [rdL, pcM, byL, offP]
  | k + 1, hk => by
    have ih := rdL_by ms cs hw bs a n h k (by omega)
    have hl := offP_le a n k
    rw [pcM, offP]
    by_cases c : offP a n k < n
    · rw [if_pos c, rdL_snoc, ih, byL_add]
      congr 1
      have hz := h _ (pcM_mem a (bs + a) n k c n (by omega))
      rw [loadV, if_pos hz]
      exact leB_load cs hw _ _ (by unfold pcOf; simp only; omega)
    · rw [if_neg c, List.append_nil, ih, show n - offP a n k = 0 by omega, Nat.min_zero, Nat.add_zero]
/-- What is told where there is no fault: the bytes. -/
theorem tdL_by {ms cs ps : List (Nat × Int)} {bs a n : Nat} {asked : Int} (hf : FitG ms cs ps bs) (hw : Words cs) (ha : a < 4294967296) (h : (ffN ps a n asked).1 = 0) : tdL ms cs ps bs a n asked = byL cs (bs + a) n := by
  rw [tdL, if_pos h, rdL_by ms cs hw bs a n (fit_host hf ha (Or.inl rfl) h) n (Nat.le_refl _), offP_full]
theorem off_in (a n : Nat) : ∀ k i, i < offP a n k → ∃ j, offP a n j ≤ i ∧ i < offP a n (j + 1) ∧ offP a n j < n
  | 0, i, h => by simp [offP] at h
  | k + 1, i, h => by
    by_cases c : i < offP a n k
    · exact off_in a n k i c
    · refine ⟨k, by omega, h, ?_⟩
      rw [offP] at h
      omega
/-- No fault: few bytes, and none of them has one. -/
theorem ffN_bytes (ps : List (Nat × Int)) (a n : Nat) (asked : Int) : (ffN ps a n asked).1 = 0 ↔ n ≤ 65536 ∧ ∀ i, i < n → gk ps asked (a + i) = 0 := by
  constructor
  · intro h
    have hz := (ffN_zero ps a n asked h).2
    refine ⟨hz, fun i hi => ?_⟩
    unfold ffN at h
    rw [if_neg (by omega)] at h
    have hfull := offP_full a n
    obtain ⟨j, h1, h2, h3⟩ := off_in a n n i (by rw [hfull]; exact hi)
    have hj := offP_ge a n j h3
    have hg := ffL_all ps asked _ h _ (pcM_mem a 0 n j h3 n (by omega))
    rw [offP] at h2
    have e : (a + i) / 4096 = (a + offP a n j) / 4096 := by omega
    simp only [pcOf] at hg
    unfold gk at hg ⊢
    rw [e]
    exact hg
  · rintro ⟨h1, h2⟩
    unfold ffN
    rw [if_neg (by omega), ffL_clean ps asked _ (fun y hy => ?_)]
    obtain ⟨j, hj, rfl⟩ := pcM_is _ _ _ _ _ hy
    exact h2 _ hj
end Go.Proofs.Ytdhjmghfiodifaa
namespace Go.Proofs.Ytdhjmghfiodifaa
open Go.RowKit
set_option linter.unusedVariables false
set_option linter.unusedSimpArgs false
set_option maxRecDepth 100000
noncomputable def fewB (ms cs ps : List (Nat × Int)) (bs : Nat) : Bool := decide (ms.length ≤ 70 ∧ cs.length ≤ 100 ∧ ps.length ≤ 60) && fitGB ms cs ps bs
set_option maxHeartbeats 1000000 in
theorem gfew8 (vm vc vp : Value) (ms cs ps : List (Nat × Int)) (bs : Nat) (w : World) (hsl : SlG w vm vc vp ms cs ps) (hrc : ∀ y ∈ cs, y.1 < 18446744073709551616) (hbs : bs < 18446744073709551616) :
    Calls Try.prog 8 #[.agg #[vm, vc, .int .u64 (bs : Int), vp]] w fun e w' => e = .returned (.bool (fewB ms cs ps bs)) ∧ Below w.heap.size w w' := by
  obtain ⟨W, hW, hb, hsz, c0, c1, c2, c3, _⟩ := box4 w vm vc (.int .u64 (bs : Int)) vp 29
  have K25 := rfit11 vm vc vp ms cs ps bs W (hsl.keep hb) hrc hbs
  obtain ⟨am, pm, rfl, a1, a2⟩ : ∃ a p, vm = .slice a ms.length p ∧ ms.length ≤ p ∧ p ≤ 9223372036854775807 := by obtain ⟨a, p, h, h1, h2, _⟩ := hsl.1; exact ⟨_, _, h, h1, h2⟩
  obtain ⟨ac, pc, rfl, b1, b2⟩ : ∃ a p, vc = .slice a cs.length p ∧ cs.length ≤ p ∧ p ≤ 9223372036854775807 := by obtain ⟨a, p, h, h1, h2, _⟩ := hsl.2.1; exact ⟨_, _, h, h1, h2⟩
  obtain ⟨ap, pp, rfl, d1, d2⟩ : ∃ a p, vp = .slice a ps.length p ∧ ps.length ≤ p ∧ p ≤ 9223372036854775807 := by obtain ⟨a, p, h, h1, h2, _⟩ := hsl.2.2; exact ⟨_, _, h, h1, h2⟩
  obtain ⟨F, hF⟩ : ∃ b, b = fitGB ms cs ps bs := ⟨_, rfl⟩
  rw [← hF] at K25
  obtain ⟨R, hR⟩ : ∃ b, b = fewB ms cs ps bs := ⟨_, rfl⟩
  rw [← hR]
  have HR : Hid (R = (decide (ms.length ≤ 70 ∧ cs.length ≤ 100 ∧ ps.length ≤ 60) && F)) := by show _ = _; rw [hR, fewB, hF]
  generalize ms.length = nm at *
  generalize cs.length = nc at *
  generalize ps.length = np at *
  clear hsl hrc hR hF
  by_cases k1 : nm ≤ 70
  · have y1 : (nm : Int) ≤ 70 := by omega
    by_cases k2 : nc ≤ 100
    · have y2 : (nc : Int) ≤ 100 := by omega
      by_cases k3 : np ≤ 60
      · have y3 : (np : Int) ≤ 60 := by omega
        have HE : Hid (R = F) := by show _ = _; rw [HR.out, decide_eq_true ⟨k1, k2, k3⟩, Bool.true_and]
        go_enter Try.func8, Try.ntmps8
        go_wp2_with fail
        refine K25.mono ?_
        rintro e w1 ⟨rfl, hb1⟩
        go_wp2
        go_ret
        exact ⟨by rw [HE.out]; rfl, below_tr hb hb1⟩
      · have y3 : ¬ (np : Int) ≤ 60 := by omega
        have HE : Hid (R = false) := by show _ = _; rw [HR.out, decide_eq_false (fun c => k3 c.2.2), Bool.false_and]
        go_enter Try.func8, Try.ntmps8
        go_wp2
        go_ret
        exact ⟨by first | rfl | (rw [HE.out]; rfl), hb⟩
    · have y2 : ¬ (nc : Int) ≤ 100 := by omega
      have HE : Hid (R = false) := by show _ = _; rw [HR.out, decide_eq_false (fun c => k2 c.2.1), Bool.false_and]
      go_enter Try.func8, Try.ntmps8
      go_wp2
      go_ret
      exact ⟨by first | rfl | (rw [HE.out]; rfl), hb⟩
  · have y1 : ¬ (nm : Int) ≤ 70 := by omega
    have HE : Hid (R = false) := by show _ = _; rw [HR.out, decide_eq_false (fun c => k1 c.1), Bool.false_and]
    go_enter Try.func8, Try.ntmps8
    go_wp2
    go_ret
    exact ⟨by first | rfl | (rw [HE.out]; rfl), hb⟩
end Go.Proofs.Ytdhjmghfiodifaa
namespace Go.Proofs.Ytdhjmghfiodifaa
open Go.RowKit
set_option linter.unusedVariables false
set_option linter.unusedSimpArgs false
set_option maxRecDepth 100000
theorem fit_nil : FitG [] [] [] 0 := ⟨⟨by simp, by simp, List.Pairwise.nil, List.Pairwise.nil, (fun x h => by cases h), (fun x h => by cases h)⟩, rfl, by omega, by simp, List.Pairwise.nil, (fun x h => by cases h), (fun x h => by cases h), (fun x h => by cases h)⟩
theorem ex_ms : msF [] 0 [] (ksM (added 1 3 1) 1) = [(0, 3)] := by kernel_rfl
theorem ex_cs : clearN [] (0 + 1 * 4096) (1 * 4096) = [] := by kernel_rfl
theorem ex_ps : lo [] 1 ++ added 1 3 1 ++ hi [] 1 = [(1, 3)] := by kernel_rfl
theorem ex_F : stF [(1, 3)] 4096 4 258 = (0, 0) := by kernel_rfl
theorem ex_C : stC [] [(1, 3)] 0 4096 4 258 = [(4096, 33619968)] := by kernel_rfl
theorem ex_V1 : ldV [(0, 3)] [(4096, 33619968)] [(1, 3)] 0 4096 4 = 258 := by kernel_rfl
theorem ex_V2 : ldV [(0, 3)] [(4096, 33619968)] [(1, 3)] 0 4098 2 = 258 := by kernel_rfl
theorem ex_V3 : ldV [(0, 3)] [(4096, 33619968)] [(1, 3)] 0 8190 4 = 0 := by kernel_rfl
theorem ex_F1 : ldF [(1, 3)] 4096 4 = (0, 0) := by kernel_rfl
theorem ex_F2 : ldF [(1, 3)] 4098 2 = (0, 0) := by kernel_rfl
theorem ex_F3 : ldF [(1, 3)] 8190 4 = (1, 8192) := by kernel_rfl
theorem fit_ex : FitG [(0, 3)] [] [(1, 3)] 0 := by
  refine ⟨⟨by simp, by simp, List.pairwise_singleton _ _, List.Pairwise.nil, ?_, (fun x h => by cases h)⟩, rfl, by omega, by simp, List.pairwise_singleton _ _, ?_, ?_, (fun x h => by cases h)⟩
  · intro x h
    obtain rfl : x = (0, 3) := by simpa using h
    simp
  · intro x h
    obtain rfl : x = (1, 3) := by simpa using h
    simp [hp]
  · intro x h
    obtain rfl : x = (0, 3) := by simpa using h
    simp [hp]
theorem newF (w : World) (x y : Value) : ∃ Wa Wb, w.alloc (.cells #[.int .i64 0, .int .u64 0] 34) = Wa ∧ (Wa.setCell ⟨w.heap.size, 0, none⟩ x).setCell ⟨w.heap.size, 1, none⟩ y = Wb ∧
    (Wa.cell? ⟨w.heap.size, 0, none⟩ = some (.int .i64 0) ∧ Wa.cell? ⟨w.heap.size, 1, none⟩ = some (.int .u64 0) ∧ Wa.frozen? ⟨w.heap.size, 0, none⟩ = false ∧ Wa.frozen? ⟨w.heap.size, 1, none⟩ = false) ∧ B2 Wb w.heap.size 34 x y ∧ Below w.heap.size w Wb := by
  have h := B2.new w 34 (.int .i64 0) (.int .u64 0)
  exact ⟨_, _, rfl, rfl, ⟨h.c0, h.c1, h.f0, h.f1⟩, h.set x y, (((Below.refl _ _).alloc (Nat.le_refl _) _).setCell (by simp) _).setCell (by simp) _⟩
set_option maxHeartbeats 1000000 in
theorem awake9 (w : World) : Calls Try.prog 9 #[] w fun e w' => e = .returned (.bool true) ∧ Below w.heap.size w w' := by
  have K30 : Calls Try.prog 30 #[.agg #[.slice none 0 0, .slice none 0 0, .int .u64 0, .slice none 0 0], .int .u32 1, .int .u32 1, .int .i64 3] w fun e w' => ∃ am nm pm ac nc pc ap np pp, e = .returned (.tuple #[.agg #[.slice am nm pm, .slice ac nc pc, .int .u64 0, .slice ap np pp], .int .i64 0]) ∧ SlG w' (.slice am nm pm) (.slice ac nc pc) (.slice ap np pp) [(0, 3)] [] [(1, 3)] ∧ Below w.heap.size w w' := by
    have h := rmap19 (.slice none 0 0) (.slice none 0 0) (.slice none 0 0) [] [] [] 0 1 1 3 w ⟨sl_nil _ _, sl_nil _ _, pg_nil _ _⟩ (by simp) (fun y hy => by cases hy) (by omega) (by omega) (fun y hy => by cases hy) (fun y hy => by cases hy) fit_nil 1 rfl (by kernel_rfl) (by decide)
    rw [ex_ms, ex_cs, ex_ps] at h
    refine h.mono ?_
    rintro e w' (⟨_, vm', vc', vp', rfl, hs, hb⟩ | ⟨hl, _⟩)
    · obtain ⟨am, pm, rfl, _⟩ := id hs.1
      obtain ⟨ac, pc, rfl, _⟩ := id hs.2.1
      obtain ⟨ap, pp, rfl, _⟩ := id hs.2.2
      exact ⟨_, _, _, _, _, _, _, _, _, rfl, hs, hb⟩
    · simp at hl
  go_enter Try.func9, Try.ntmps9
  go_wp2_with fail
  refine K30.mono ?_
  rintro e w1 ⟨am, nm, pm, ac, nc, pc, ap, np, pp, rfl, hs, hb⟩
  clear K30
  obtain ⟨W1, hW1⟩ : ∃ z, w1.alloc (.cells #[.slice am nm pm, .slice ac nc pc, .int .u64 0, .slice ap np pp] 29) = z := ⟨_, rfl⟩
  have D0 : B4 W1 w1.heap.size 29 (.slice am nm pm) (.slice ac nc pc) (.int .u64 0) (.slice ap np pp) := by rw [← hW1]; exact B4.new w1 29 _ _ _ _
  have b1 : Below w1.heap.size w1 W1 := by rw [← hW1]; exact (Below.refl _ _).alloc (Nat.le_refl _) _
  obtain ⟨c0, c1, c2, c3⟩ := D0.cells
  have K22 := gstore22 (.slice am nm pm) (.slice ac nc pc) (.slice ap np pp) 0 4096 258 4 [(0, 3)] [] [(1, 3)] W1 ⟨hs.1.keep b1, hs.2.1.keep b1, hs.2.2.keep b1, fit_ex.fq.2.2.1, List.Pairwise.nil, fit_ex.sp, by simp, by simp, by simp, (fun y hy => by cases hy), by omega⟩ (by omega) rfl (fun y hy => by cases hy) (by simp) (fun h1 h2 => fit_host fit_ex (by omega) (Or.inr rfl) h2)
  rw [ex_F, ex_C] at K22
  have HB1 : Hid (Below w.heap.size w W1 ∧ w.heap.size ≤ w1.heap.size) := ⟨below_tr hb b1, hb.size⟩
  clear hs hb b1
  go_wp2_with fail
  refine K22.mono ?_
  rintro e w2 ⟨um, uc, up, rfl, ho, hb2⟩
  obtain ⟨bm, xm, ym, rfl⟩ := own_shape ho.1.1
  obtain ⟨bc, xc, yc, rfl⟩ := own_shape ho.1.2
  obtain ⟨bp, xp, yp, rfl⟩ := own_shape ho.2
  clear K22
  obtain ⟨W3, hW3⟩ : ∃ z, w2.alloc (.cells #[.int .i64 0, .int .u64 0] 34) = z := ⟨_, rfl⟩
  have b3 : Below w2.heap.size w2 W3 := by rw [← hW3]; exact (Below.refl _ _).alloc (Nat.le_refl _) _
  have F3 : B2 W3 w2.heap.size 34 (.int .i64 0) (.int .u64 0) := by rw [← hW3]; exact B2.new w2 34 _ _
  have D0 := (D0.keep hb2).keep b3
  have ho := ho.keep b3
  obtain ⟨c0, c1, c2, c3⟩ := D0.cells
  obtain ⟨f0, f1, f2, f3⟩ := D0.frees
  have lt0 := D0.lt
  have hl1 : w1.heap.size < W1.heap.size := by rw [← hW1]; simp
  have hl2 : W1.heap.size ≤ w2.heap.size := hb2.size
  have gs := set4_by W3 w1.heap.size (.slice bm xm ym) (.slice bc xc yc) (.int .u64 0) (.slice bp xp yp)
  have D0 := D0.set (.slice bm xm ym) (.slice bc xc yc) (.int .u64 0) (.slice bp xp yp)
  obtain ⟨W4, hW4⟩ : ∃ z, ((((W3.setCell ⟨w1.heap.size, 0, none⟩ (.slice bm xm ym)).setCell ⟨w1.heap.size, 1, none⟩ (.slice bc xc yc)).setCell ⟨w1.heap.size, 2, none⟩ (.int .u64 0)).setCell ⟨w1.heap.size, 3, none⟩ (.slice bp xp yp)) = z := ⟨_, rfl⟩
  rw [hW4] at gs D0
  have F3 := F3.by gs (by omega)
  have ho := ho.by gs (by omega)
  have b4 : Below w.heap.size w W4 := (below_tr HB1.out.1 (below_tr hb2 b3)).grown gs (below_tr HB1.out.1 (below_tr hb2 b3)).size (fun r e => by cases e; exact HB1.out.2)
  have F34 := F3
  have e0 := F3.c0
  have e1 := F3.c1
  have e2 := F3.f0
  have e3 := F3.f1
  have gt := set2_by W4 w2.heap.size (.int .i64 0) (.int .u64 0)
  have F3 := F3.set (.int .i64 0) (.int .u64 0)
  obtain ⟨W5, hW5⟩ : ∃ z, (W4.setCell ⟨w2.heap.size, 0, none⟩ (.int .i64 0)).setCell ⟨w2.heap.size, 1, none⟩ (.int .u64 0) = z := ⟨_, rfl⟩
  rw [hW5] at gt F3
  have D0 := D0.by gt (by omega)
  have GD : GdM W5 (.slice bm xm ym) (.slice bc xc yc) (.slice bp xp yp) [(0, 3)] [(4096, 33619968)] [(1, 3)] 0 := by
    have hk : ∀ {e B n : Nat} {v : Value} {xs : List Value}, W4.ownsRow B e 2 v n xs → e ≠ 34 → W5.ownsRow B e 2 v n xs := fun h he => h.kept gt (Or.inr (fun e' => by
      obtain ⟨c, fz, q⟩ := Go.Lib.ownsRow_kind h _ e'
      have h4 : B2 W4 w2.heap.size 34 (.int .i64 0) (.int .u64 0) := F34
      rw [B2, q] at h4
      simp at h4
      exact he h4.2.1))
    exact ⟨own_sl (hk ho.1.1 (by decide)), own_sl (hk ho.1.2 (by decide)), Pg.own_sl (hk ho.2 (by decide)), fit_ex.fq.2.2.1, List.pairwise_singleton _ _, fit_ex.sp, by simp, by simp, by simp, (fun y hy => by obtain rfl : y = (4096, 33619968) := (by simpa using hy); exact ⟨by decide, by decide⟩), by omega⟩
  have b5 : Below w.heap.size w W5 := b4.grown gt b4.size (fun r e => by cases e; have := HB1.out.2; omega)
  have HB5 : Hid (Below w.heap.size w W5) := b5
  have K1 := gload12 (.slice bm xm ym) (.slice bc xc yc) (.slice bp xp yp) 0 4096 4 [(0, 3)] [(4096, 33619968)] [(1, 3)] W5 GD (by omega)
  rw [ex_V1, ex_F1] at K1
  have HGD : Hid (GdM W5 (.slice bm xm ym) (.slice bc xc yc) (.slice bp xp yp) [(0, 3)] [(4096, 33619968)] [(1, 3)] 0) := GD
  obtain ⟨d0, d1, d2, d3⟩ := D0.cells
  have k0 := F3.c0
  have k1 := F3.c1
  clear GD b5 b4 b3 hb2 gs gt ho F34
  go_wp2_with fail
  refine K1.mono ?_
  rintro e w6 ⟨rfl, hb6⟩
  clear K1
  obtain ⟨Wa7, W7, hWa7, hW7, ⟨qa7, qb7, qc7, qd7⟩, G7, bb7⟩ := newF w6 (.int .i64 0) (.int .u64 0)
  have D0 := (D0.keep hb6).keep bb7
  have F3 := (F3.keep hb6).keep bb7
  have HGD7 : Hid (GdM W7 (.slice bm xm ym) (.slice bc xc yc) (.slice bp xp yp) [(0, 3)] [(4096, 33619968)] [(1, 3)] 0) := (HGD.out.keep hb6).keep bb7
  have HB7 : Hid (Below w.heap.size w W7) := below_tr HB5.out (below_tr hb6 bb7)
  have K2 := gload12 (.slice bm xm ym) (.slice bc xc yc) (.slice bp xp yp) 0 4098 2 [(0, 3)] [(4096, 33619968)] [(1, 3)] W7 HGD7.out (by omega)
  rw [ex_V2, ex_F2] at K2
  obtain ⟨d0, d1, d2, d3⟩ := D0.cells
  have k0 := F3.c0
  have k1 := F3.c1
  clear hb6 bb7
  go_wp2_with fail
  refine K2.mono ?_
  rintro e w8 ⟨rfl, hb8⟩
  clear K2
  obtain ⟨Wa9, W9, hWa9, hW9, ⟨qa9, qb9, qc9, qd9⟩, G9, bb9⟩ := newF w8 (.int .i64 0) (.int .u64 0)
  have D0 := (D0.keep hb8).keep bb9
  have F3 := (F3.keep hb8).keep bb9
  have G7 := (G7.keep hb8).keep bb9
  have HGD9 : Hid (GdM W9 (.slice bm xm ym) (.slice bc xc yc) (.slice bp xp yp) [(0, 3)] [(4096, 33619968)] [(1, 3)] 0) := (HGD7.out.keep hb8).keep bb9
  have HB9 : Hid (Below w.heap.size w W9) := below_tr HB7.out (below_tr hb8 bb9)
  have K3 := gload12 (.slice bm xm ym) (.slice bc xc yc) (.slice bp xp yp) 0 8190 4 [(0, 3)] [(4096, 33619968)] [(1, 3)] W9 HGD9.out (by omega)
  rw [ex_V3, ex_F3] at K3
  obtain ⟨d0, d1, d2, d3⟩ := D0.cells
  clear hb8 bb9
  go_wp2_with fail
  refine K3.mono ?_
  rintro e w10 ⟨rfl, hb10⟩
  clear K3
  obtain ⟨Wa11, W11, hWa11, hW11, ⟨qa11, qb11, qc11, qd11⟩, G11, bb11⟩ := newF w10 (.int .i64 1) (.int .u64 8192)
  have F3 := (F3.keep hb10).keep bb11
  have G7 := (G7.keep hb10).keep bb11
  have G9 := (G9.keep hb10).keep bb11
  have k0 := F3.c0
  have k1 := F3.c1
  have m0 := G7.c0
  have m1 := G7.c1
  have n0 := G9.c0
  have n1 := G9.c1
  have p0 := G11.c0
  have p1 := G11.c1
  have HB11 : Hid (Below w.heap.size w W11) := below_tr HB9.out (below_tr hb10 bb11)
  clear hb10 bb11
  go_wp2
  go_ret
  exact ⟨rfl, HB11.out⟩
end Go.Proofs.Ytdhjmghfiodifaa
