/- What is proved here: plain words for GmapDoes. -/
import Derived.Test.YtkpmkgkfpikpfaaGreatSvp
import Derived.Test.YtkpmkgkfpikpfaaGreatSvb
import Derived.Test.YtkpmkgkfpikpfaaGreatSvn
import Derived.Test.YtkpmkgkfpikpfaaGreatStj
import Derived.Test.YtkpmkgkfpikpfaaGreatEach
namespace Go.Proofs.YtkpmkgkfpikpfaaGreat
open Go.RowKit
set_option linter.unusedVariables false
set_option linter.unusedSimpArgs false
set_option maxRecDepth 100000
theorem mm_fit {ms cs ps : List (Nat × Int)} {bs st en a n : Nat} {prot : Int} {fixed : Bool} {R : GRes} {at_ : Nat} (hf : FitG ms cs ps bs) (hw : Words cs) (hrc : ∀ y ∈ cs, y.1 < 18446744073709551616) (h : MmIs ms cs ps bs st en a n prot fixed R at_) : RFit R bs := by
 rcases h with ⟨_, rfl, _⟩ | ⟨_, f, err, _, ⟨_, rfl, _⟩ | ⟨_, rfl, _⟩⟩
 iterate 2
  ·exact rfit_same hf hw hrc
 ·exact mapR_fit f (pgN n) prot hf hw hrc
theorem mun_fit {ms cs ps : List (Nat × Int)} {bs a n : Nat} (hf : FitG ms cs ps bs) (hw : Words cs) (hrc : ∀ y ∈ cs, y.1 < 18446744073709551616) : RFit (munR ms cs ps bs a n) bs := by
 unfold munR; split
 ·exact rfit_same hf hw hrc
 ·exact unmapR_fit _ _ hf hw hrc
theorem mpr_fit {ms cs ps : List (Nat × Int)} {bs a n : Nat} {prot : Int} (hf : FitG ms cs ps bs) (hw : Words cs) (hrc : ∀ y ∈ cs, y.1 < 18446744073709551616) : RFit (mprR ms cs ps a n prot) bs := by
 unfold mprR; split
 ·exact rfit_same hf hw hrc
 ·split
  ·exact rfit_same hf hw hrc
  ·split
   ·exact rfit_same hf hw hrc
   ·exact protR_fit _ _ _ hf hw hrc
theorem brk_two (bs st en a : Nat) (ms cs ps : List (Nat × Int)) (hrc : ∀ y ∈ cs, y.1 < 18446744073709551616) (hw : Words cs) (hf : FitG ms cs ps bs) (ha : a < 4294967296) (hen : en < 4294967296) (hse : st ≤ en) : ∃ m c p, ∃ e4 : Nat,
  (∀ vm vc vp w, SlG w vm vc vp ms cs ps → Calls Tryz.prog 17 #[.agg #[vm, vc, .int .u64 (bs : Int), vp, .int .u32 (st : Int), .int .u32 (en : Int)], .int .u32 (a : Int)] w (BTold m c p bs st e4 w)) ∧
  (∀ vm vc vp w, SlG w vm vc vp ms cs ps → Calls Tryz.prog 18 #[.agg #[vm, vc, .int .u64 (bs : Int), vp, .int .u32 (st : Int), .int .u32 (en : Int)], .int .u32 (a : Int)] w (BTold m c p bs st e4 w)) ∧ RFit (0, m, c, p) bs ∧ st ≤ e4 ∧ e4 < 4294967296 := by
 by_cases h0 : (heapR ms cs ps bs st en a).1 = 0
 ·refine ⟨_, _, _, a, fun vm vc vp w h => ?_, fun vm vc vp w h => ?_, heapR_fit st en a hf hw hrc, heapR_ge h0, ha⟩
  ·have k := brk17 vm vc vp bs st en a ms cs ps w h hrc hw hf ha hen
   rw [if_pos h0] at k; exact k
  ·have k := rbrk18 vm vc vp bs st en a ms cs ps w h hrc hw hf ha hen
   rw [if_pos h0] at k; exact k
 ·refine ⟨ms, cs, ps, en, fun vm vc vp w h => ?_, fun vm vc vp w h => ?_, rfit_same hf hw hrc, hse, hen⟩
  ·have k := brk17 vm vc vp bs st en a ms cs ps w h hrc hw hf ha hen
   rw [if_neg h0] at k; exact k
  ·have k := rbrk18 vm vc vp bs st en a ms cs ps w h hrc hw hf ha hen
   rw [if_neg h0] at k; exact k
theorem same_id (ms cs ps : List (Nat × Int)) (bs st en : Nat) : (sameG ms cs ps bs ms cs ps bs && decide (st = st) && decide (en = en)) = true := by unfold sameG; simp
theorem box6S (w : World) (y0 y1 y2 y3 y4 y5 : Value) : ∃ X, w.alloc (.cells #[y0, y1, y2, y3, y4, y5] 32) = X ∧ B6 X w.heap.size 32 y0 y1 y2 y3 y4 y5 ∧ Below w.heap.size w X :=
 ⟨_, rfl, B6.new w 32 _ _ _ _ _ _, (Below.refl _ _).alloc (Nat.le_refl _) _⟩
set_option maxHeartbeats 4000000 in
theorem does_walk (vm vc vp : Value) (ms cs ps : List (Nat × Int)) (bs st en : Nat) (w : World) (hsl : SlG w vm vc vp ms cs ps) (hrc : ∀ y ∈ cs, y.1 < 18446744073709551616) (hw : Words cs) (hbs : bs < 18446744073709551616) (hpn : ∀ y ∈ ps, y.1 < 4294967296) (hst : st < 4294967296) (hen : en < 4294967296) (a n : Nat) (prot : Int) (fixed : Bool) (ha : a < 4294967296) (hn : n < 4294967296) :
  Calls Tryz.prog 3 #[.agg #[vm, vc, .int .u64 (bs : Int), vp, .int .u32 (st : Int), .int .u32 (en : Int)], .int .u32 (a : Int), .int .u32 (n : Int), .int .i64 prot, .bool fixed] w fun e w' => e = .returned (.bool true) ∧ Below w.heap.size w w' := by
 obtain ⟨s1, s3, rfl, l0a, l0b⟩ : ∃ x p, vm = .slice x ms.length p ∧ ms.length ≤ p ∧ p ≤ 9223372036854775807 := by obtain ⟨x, p, h, h1, h2, _⟩ := id hsl.1; exact ⟨_, _, h, h1, h2⟩
 obtain ⟨s4, s6, rfl, l1a, l1b⟩ : ∃ x p, vc = .slice x cs.length p ∧ cs.length ≤ p ∧ p ≤ 9223372036854775807 := by obtain ⟨x, p, h, h1, h2, _⟩ := id hsl.2.1; exact ⟨_, _, h, h1, h2⟩
 obtain ⟨s7, s9, rfl, l2a, l2b⟩ : ∃ x p, vp = .slice x ps.length p ∧ ps.length ≤ p ∧ p ≤ 9223372036854775807 := by obtain ⟨x, p, h, h1, h2, _⟩ := id hsl.2.2; exact ⟨_, _, h, h1, h2⟩
 obtain ⟨s2, hs2⟩ : ∃ z, z = ms.length := ⟨_, rfl⟩
 obtain ⟨s5, hs5⟩ : ∃ z, z = cs.length := ⟨_, rfl⟩
 obtain ⟨s8, hs8⟩ : ∃ z, z = ps.length := ⟨_, rfl⟩
 rw [← hs2, ← hs5, ← hs8] at hsl ⊢
 clear l0a l0b l1a l1b l2a l2b hs2 hs5 hs8
 obtain ⟨X, hX, BS, hb⟩ := box6S w (.slice s1 s2 s3) (.slice s4 s5 s6) (.int .u64 (bs : Int)) (.slice s7 s8 s9) (.int .u32 (st : Int)) (.int .u32 (en : Int))
 obtain ⟨c0, c1, c2, c3, c4, c5⟩ := BS.cells
 have HSL : Hid (SlG X (.slice s1 s2 s3) (.slice s4 s5 s6) (.slice s7 s8 s9) ms cs ps) := hsl.keep hb
 have K7 : Hid (∀ w', Below X.heap.size X w' → Calls Tryz.prog 7 #[.agg #[.slice s1 s2 s3, .slice s4 s5 s6, .int .u64 (bs : Int), .slice s7 s8 s9, .int .u32 (st : Int), .int .u32 (en : Int)]] w' fun e w'' => e = .returned (.bool (decide (ms.length ≤ 70 ∧ cs.length ≤ 100 ∧ ps.length ≤ 80))) ∧ Below w'.heap.size w' w'') := fun w' hb' => few7 (.slice s1 s2 s3) (.slice s4 s5 s6) (.slice s7 s8 s9) bs st en ms cs ps w' (HSL.out.keep hb')
 have K8 : Hid (∀ w', Below X.heap.size X w' → Calls Tryz.prog 8 #[.agg #[.slice s1 s2 s3, .slice s4 s5 s6, .int .u64 (bs : Int), .slice s7 s8 s9, .int .u32 (st : Int), .int .u32 (en : Int)]] w' fun e w'' => e = .returned (.bool (spFit ms cs ps bs st en)) ∧ Below w'.heap.size w' w'') := fun w' hb' => gspFit8 (.slice s1 s2 s3) (.slice s4 s5 s6) (.slice s7 s8 s9) bs st en ms cs ps w' (HSL.out.keep hb') hrc hbs hpn
 have K9 : Hid (∀ w', Below X.heap.size X w' → Calls Tryz.prog 9 #[.agg #[.slice s1 s2 s3, .slice s4 s5 s6, .int .u64 (bs : Int), .slice s7 s8 s9, .int .u32 (st : Int), .int .u32 (en : Int)]] w' fun e w'' => e = .returned (.bool (spFit ms cs ps bs st en)) ∧ Below w'.heap.size w' w'') := fun w' hb' => rspFit9 (.slice s1 s2 s3) (.slice s4 s5 s6) (.slice s7 s8 s9) bs st en ms cs ps w' (HSL.out.keep hb') hrc hbs
 have HRC : Hid (∀ y ∈ cs, y.1 < 18446744073709551616) := hrc
 have HWO : Hid (Words cs) := hw
 have HR : Hid (st < 4294967296 ∧ en < 4294967296 ∧ a < 4294967296 ∧ n < 4294967296 ∧ bs < 18446744073709551616) := ⟨hst, hen, ha, hn, hbs⟩
 have HB : Hid (Below w.heap.size w X) := hb
 clear hsl hrc hw hb hst hen ha hn hbs hpn
 by_cases hfew : ms.length ≤ 70 ∧ cs.length ≤ 100 ∧ ps.length ≤ 80
 case neg =>
  rw [decide_eq_false hfew] at K7
  clear hfew
  go_enter Tryz.func3, Tryz.ntmps3
  go_wp2
  refine wp_region_slots (R := Ext) [⟨29, fun v _ => v = .agg #[.slice s1 s2 s3, .slice s4 s5 s6, .int .u64 (bs : Int), .slice s7 s8 s9, .int .u32 (st : Int), .int .u32 (en : Int)], fun _ _ _ _ h => h⟩, ⟨30, fun v _ => v = .bool false, fun _ _ _ _ h => h⟩, ⟨31, fun v _ => v = .bool true, fun _ _ _ _ h => h⟩, ⟨32, fun v _ => v = .bool true, fun _ _ _ _ h => h⟩, ⟨33, fun v _ => v = undef, fun _ _ _ _ h => h⟩, ⟨34, fun v _ => v = undef, fun _ _ _ _ h => h⟩, ⟨35, fun v _ => v = undef, fun _ _ _ _ h => h⟩, ⟨36, fun v _ => v = undef, fun _ _ _ _ h => h⟩, ⟨37, fun v _ => v = undef, fun _ _ _ _ h => h⟩, ⟨38, fun v _ => v = .bool true, fun _ _ _ _ h => h⟩] _ (by kernel_rfl) rfl (by kernel_rfl) (Below.drew (Below.refl _ _)) (fun _ _ _ h1 h2 => below_tr h1 h2) (fun QQ => ⟨?_, ?_, ?_, ?_, ?_, ?_, ?_, ?_, ?_, ?_, trivial⟩) (fun f wy hR hf => ?_)
  ·intro A wx hR hout hdep K hK
   have h5 : A.tmps[5]?.getD undef = .pointer (some ⟨w.heap.size, 0, none⟩) := hout 5 (by kernel_rfl)
   refine if_yes (by kernel_rfl) ?_
   have c0 := keep_cell hR c0
   have c1 := keep_cell hR c1
   have c2 := keep_cell hR c2
   have c3 := keep_cell hR c3
   have c4 := keep_cell hR c4
   have c5 := keep_cell hR c5
   simp [go_sem, h5, c0, c1, c2, c3, c4, c5]
   exact hK.out _ _ (Below.refl _ _) rfl
  ·intro A wx hR hout hdep K hK
   have h29 : A.tmps[29]?.getD undef = .agg #[.slice s1 s2 s3, .slice s4 s5 s6, .int .u64 (bs : Int), .slice s7 s8 s9, .int .u32 (st : Int), .int .u32 (en : Int)] := hdep 29 (by kernel_rfl)
   refine if_yes (by kernel_rfl) ?_
   simp [go_sem, h29]
   refine (K7.out wx hR).mono ?_
   rintro e wG ⟨rfl, hbG⟩
   exact hK.out _ _ hbG rfl
  ·intro A wx hR hout hdep K hK
   have h30 : A.tmps[30]?.getD undef = .bool false := hdep 30 (by kernel_rfl)
   refine if_yes (by kernel_rfl) ?_
   simp [go_sem, h30]
   exact hK.out _ _ (Below.refl _ _) rfl
  ·intro A wx hR hout hdep K hK
   have h31 : A.tmps[31]?.getD undef = .bool true := hdep 31 (by kernel_rfl)
   refine if_yes (by kernel_rfl) ?_
   simp [go_sem, h31]
   exact hK.out _ _ (Below.refl _ _) rfl
  iterate 5
   ·intro A wx hR hout hdep K hK
    have h32 : A.tmps[32]?.getD undef = .bool true := hdep 32 (by kernel_rfl)
    refine if_not (by rw [wanted_is (j := 3) (b := false) (by kernel_rfl) (by kernel_rfl) h32]; decide) ?_
    exact hK.out _ _ (Below.refl _ _) rfl
  ·intro A wx hR hout hdep K hK
   have h32 : A.tmps[32]?.getD undef = .bool true := hdep 32 (by kernel_rfl)
   have h37 : A.tmps[37]?.getD undef = undef := hdep 37 (by kernel_rfl)
   refine if_yes (by kernel_rfl) ?_
   simp [go_sem, h32, h37]
   exact hK.out _ _ (Below.refl _ _) rfl
  simp only [putSl, Act.put, List.setIfInBounds_toArray, List.set_cons_zero, List.set_cons_succ]
  have hz : f 38 = .bool true := hf 38 (by kernel_rfl)
  rw [hz]
  have hb1 : Below X.heap.size X wy := hR
  clear hf hz hR
  obtain ⟨w1, hw1⟩ : ∃ z, z = wy := ⟨_, rfl⟩
  rw [← hw1] at hb1 ⊢
  clear hw1
  have BS := BS.keep hb1
  obtain ⟨c0, c1, c2, c3, c4, c5⟩ := BS.cells
  have HB : Hid (Below w.heap.size w w1) := below_tr HB.out hb1
  have HSL : Hid (SlG w1 (.slice s1 s2 s3) (.slice s4 s5 s6) (.slice s7 s8 s9) ms cs ps) := HSL.out.keep hb1
  have K7 := K7.out w1 hb1
  clear hb1
  go_wp2_with fail
  refine K7.mono ?_
  rintro e w2 ⟨rfl, hb2⟩
  have HB : Hid (Below w.heap.size w w2) := below_tr HB.out hb2
  clear hb2 K7
  go_wp2_with fail
  refine (awake10 _).mono ?_
  rintro e wz ⟨rfl, hbz⟩
  have HBz : Hid (Below w.heap.size w wz) := below_tr HB.out hbz
  go_wp2
  go_ret
  exact ⟨rfl, HBz.out⟩
 rw [decide_eq_true hfew] at K7
 clear hfew
 cases hfit : spFit ms cs ps bs st en with
 | false =>
  rw [hfit] at K8 K9
  clear hfit
  go_enter Tryz.func3, Tryz.ntmps3
  go_wp2
  refine wp_region_slots (R := Ext) [⟨29, fun v _ => v = .agg #[.slice s1 s2 s3, .slice s4 s5 s6, .int .u64 (bs : Int), .slice s7 s8 s9, .int .u32 (st : Int), .int .u32 (en : Int)], fun _ _ _ _ h => h⟩, ⟨30, fun v _ => v = .bool true, fun _ _ _ _ h => h⟩, ⟨31, fun v _ => v = .bool false, fun _ _ _ _ h => h⟩, ⟨32, fun v _ => v = .bool false, fun _ _ _ _ h => h⟩, ⟨33, fun v _ => v = .agg #[.slice s1 s2 s3, .slice s4 s5 s6, .int .u64 (bs : Int), .slice s7 s8 s9, .int .u32 (st : Int), .int .u32 (en : Int)], fun _ _ _ _ h => h⟩, ⟨34, fun v _ => v = .bool false, fun _ _ _ _ h => h⟩, ⟨35, fun v _ => v = .agg #[.slice s1 s2 s3, .slice s4 s5 s6, .int .u64 (bs : Int), .slice s7 s8 s9, .int .u32 (st : Int), .int .u32 (en : Int)], fun _ _ _ _ h => h⟩, ⟨36, fun v _ => v = .bool false, fun _ _ _ _ h => h⟩, ⟨37, fun v _ => v = .bool false, fun _ _ _ _ h => h⟩, ⟨38, fun v _ => v = .bool false, fun _ _ _ _ h => h⟩] _ (by kernel_rfl) rfl (by kernel_rfl) (Below.drew (Below.refl _ _)) (fun _ _ _ h1 h2 => below_tr h1 h2) (fun QQ => ⟨?_, ?_, ?_, ?_, ?_, ?_, ?_, ?_, ?_, ?_, trivial⟩) (fun f wy hR hf => ?_)
  ·intro A wx hR hout hdep K hK
   have h5 : A.tmps[5]?.getD undef = .pointer (some ⟨w.heap.size, 0, none⟩) := hout 5 (by kernel_rfl)
   refine if_yes (by kernel_rfl) ?_
   have c0 := keep_cell hR c0
   have c1 := keep_cell hR c1
   have c2 := keep_cell hR c2
   have c3 := keep_cell hR c3
   have c4 := keep_cell hR c4
   have c5 := keep_cell hR c5
   simp [go_sem, h5, c0, c1, c2, c3, c4, c5]
   exact hK.out _ _ (Below.refl _ _) rfl
  ·intro A wx hR hout hdep K hK
   have h29 : A.tmps[29]?.getD undef = .agg #[.slice s1 s2 s3, .slice s4 s5 s6, .int .u64 (bs : Int), .slice s7 s8 s9, .int .u32 (st : Int), .int .u32 (en : Int)] := hdep 29 (by kernel_rfl)
   refine if_yes (by kernel_rfl) ?_
   simp [go_sem, h29]
   refine (K7.out wx hR).mono ?_
   rintro e wG ⟨rfl, hbG⟩
   exact hK.out _ _ hbG rfl
  ·intro A wx hR hout hdep K hK
   have h30 : A.tmps[30]?.getD undef = .bool true := hdep 30 (by kernel_rfl)
   refine if_yes (by kernel_rfl) ?_
   simp [go_sem, h30]
   exact hK.out _ _ (Below.refl _ _) rfl
  ·intro A wx hR hout hdep K hK
   have h31 : A.tmps[31]?.getD undef = .bool false := hdep 31 (by kernel_rfl)
   refine if_yes (by kernel_rfl) ?_
   simp [go_sem, h31]
   exact hK.out _ _ (Below.refl _ _) rfl
  ·intro A wx hR hout hdep K hK
   have h5 : A.tmps[5]?.getD undef = .pointer (some ⟨w.heap.size, 0, none⟩) := hout 5 (by kernel_rfl)
   have h32 : A.tmps[32]?.getD undef = .bool false := hdep 32 (by kernel_rfl)
   refine if_yes ((wanted_is (j := 3) (b := false) (by kernel_rfl) (by kernel_rfl) h32).trans rfl) ?_
   have c0 := keep_cell hR c0
   have c1 := keep_cell hR c1
   have c2 := keep_cell hR c2
   have c3 := keep_cell hR c3
   have c4 := keep_cell hR c4
   have c5 := keep_cell hR c5
   simp [go_sem, h5, c0, c1, c2, c3, c4, c5]
   exact hK.out _ _ (Below.refl _ _) rfl
  ·intro A wx hR hout hdep K hK
   have h33 : A.tmps[33]?.getD undef = .agg #[.slice s1 s2 s3, .slice s4 s5 s6, .int .u64 (bs : Int), .slice s7 s8 s9, .int .u32 (st : Int), .int .u32 (en : Int)] := hdep 33 (by kernel_rfl)
   have h32 : A.tmps[32]?.getD undef = .bool false := hdep 32 (by kernel_rfl)
   refine if_yes ((wanted_is (j := 3) (b := false) (by kernel_rfl) (by kernel_rfl) h32).trans rfl) ?_
   simp [go_sem, h33]
   refine (K8.out wx hR).mono ?_
   rintro e wG ⟨rfl, hbG⟩
   exact hK.out _ _ hbG rfl
  ·intro A wx hR hout hdep K hK
   have h5 : A.tmps[5]?.getD undef = .pointer (some ⟨w.heap.size, 0, none⟩) := hout 5 (by kernel_rfl)
   have h32 : A.tmps[32]?.getD undef = .bool false := hdep 32 (by kernel_rfl)
   refine if_yes ((wanted_is (j := 3) (b := false) (by kernel_rfl) (by kernel_rfl) h32).trans rfl) ?_
   have c0 := keep_cell hR c0
   have c1 := keep_cell hR c1
   have c2 := keep_cell hR c2
   have c3 := keep_cell hR c3
   have c4 := keep_cell hR c4
   have c5 := keep_cell hR c5
   simp [go_sem, h5, c0, c1, c2, c3, c4, c5]
   exact hK.out _ _ (Below.refl _ _) rfl
  ·intro A wx hR hout hdep K hK
   have h35 : A.tmps[35]?.getD undef = .agg #[.slice s1 s2 s3, .slice s4 s5 s6, .int .u64 (bs : Int), .slice s7 s8 s9, .int .u32 (st : Int), .int .u32 (en : Int)] := hdep 35 (by kernel_rfl)
   have h32 : A.tmps[32]?.getD undef = .bool false := hdep 32 (by kernel_rfl)
   refine if_yes ((wanted_is (j := 3) (b := false) (by kernel_rfl) (by kernel_rfl) h32).trans rfl) ?_
   simp [go_sem, h35]
   refine (K9.out wx hR).mono ?_
   rintro e wG ⟨rfl, hbG⟩
   exact hK.out _ _ hbG rfl
  ·intro A wx hR hout hdep K hK
   have h34 : A.tmps[34]?.getD undef = .bool false := hdep 34 (by kernel_rfl)
   have h36 : A.tmps[36]?.getD undef = .bool false := hdep 36 (by kernel_rfl)
   have h32 : A.tmps[32]?.getD undef = .bool false := hdep 32 (by kernel_rfl)
   refine if_yes ((wanted_is (j := 3) (b := false) (by kernel_rfl) (by kernel_rfl) h32).trans rfl) ?_
   simp [go_sem, h34, h36]
   exact hK.out _ _ (Below.refl _ _) rfl
  ·intro A wx hR hout hdep K hK
   have h32 : A.tmps[32]?.getD undef = .bool false := hdep 32 (by kernel_rfl)
   have h37 : A.tmps[37]?.getD undef = .bool false := hdep 37 (by kernel_rfl)
   refine if_yes (by kernel_rfl) ?_
   simp [go_sem, h32, h37]
   exact hK.out _ _ (Below.refl _ _) rfl
  simp only [putSl, Act.put, List.setIfInBounds_toArray, List.set_cons_zero, List.set_cons_succ]
  have hz : f 38 = .bool false := hf 38 (by kernel_rfl)
  rw [hz]
  have hb1 : Below X.heap.size X wy := hR
  clear hf hz hR
  obtain ⟨w1, hw1⟩ : ∃ z, z = wy := ⟨_, rfl⟩
  rw [← hw1] at hb1 ⊢
  clear hw1
  have BS := BS.keep hb1
  obtain ⟨c0, c1, c2, c3, c4, c5⟩ := BS.cells
  have HB : Hid (Below w.heap.size w w1) := below_tr HB.out hb1
  have HSL : Hid (SlG w1 (.slice s1 s2 s3) (.slice s4 s5 s6) (.slice s7 s8 s9) ms cs ps) := HSL.out.keep hb1
  have K9 := K9.out w1 hb1
  clear hb1
  go_wp2_with fail
  refine K9.mono ?_
  rintro e w2 ⟨rfl, hb2⟩
  have HB : Hid (Below w.heap.size w w2) := below_tr HB.out hb2
  clear hb2 K9
  go_wp2_with fail
  refine (awake10 _).mono ?_
  rintro e wz ⟨rfl, hbz⟩
  have HBz : Hid (Below w.heap.size w wz) := below_tr HB.out hbz
  go_wp2
  go_ret
  exact ⟨rfl, HBz.out⟩
 | true =>
  rw [hfit] at K8 K9
  have HQ : Hid (FitG ms cs ps bs ∧ st % 4096 = 0 ∧ st ≤ en) := of_spFit hfit
  clear hfit
  obtain ⟨m4, q4, p4, en4, KB1, KB2, FB, hb41, hb42⟩ := brk_two bs st en a ms cs ps HRC.out HWO.out HQ.out.1 HR.out.2.2.1 HR.out.2.1 HQ.out.2.2
  have KB1 : Hid _ := KB1
  have KB2 : Hid _ := KB2
  have HF4 : Hid (RFit (0, m4, q4, p4) bs ∧ st ≤ en4) := ⟨FB, hb41⟩
  obtain ⟨R2, hR2⟩ : ∃ z, z = munR ms cs ps bs a n := ⟨_, rfl⟩
  have HF2 : Hid (RFit R2 bs) := by show RFit R2 bs; rw [hR2]; exact mun_fit HQ.out.1 HWO.out HRC.out
  obtain ⟨R3, hR3⟩ : ∃ z, z = mprR ms cs ps a n prot := ⟨_, rfl⟩
  have HF3 : Hid (RFit R3 bs) := by show RFit R3 bs; rw [hR3]; exact mpr_fit HQ.out.1 HWO.out HRC.out
  have HE2 : Hid (R2 = munR ms cs ps bs a n) := hR2
  have HE3 : Hid (R3 = mprR ms cs ps a n prot) := hR3
  obtain ⟨e2, m2, q2, p2⟩ := R2
  obtain ⟨e3, m3, q3, p3⟩ := R3
  clear hR2 hR3 FB hb41
  go_enter Tryz.func3, Tryz.ntmps3
  go_wp2
  refine wp_region_slots (R := Ext) [⟨29, fun v _ => v = .agg #[.slice s1 s2 s3, .slice s4 s5 s6, .int .u64 (bs : Int), .slice s7 s8 s9, .int .u32 (st : Int), .int .u32 (en : Int)], fun _ _ _ _ h => h⟩, ⟨30, fun v _ => v = .bool true, fun _ _ _ _ h => h⟩, ⟨31, fun v _ => v = .bool false, fun _ _ _ _ h => h⟩, ⟨32, fun v _ => v = .bool false, fun _ _ _ _ h => h⟩, ⟨33, fun v _ => v = .agg #[.slice s1 s2 s3, .slice s4 s5 s6, .int .u64 (bs : Int), .slice s7 s8 s9, .int .u32 (st : Int), .int .u32 (en : Int)], fun _ _ _ _ h => h⟩, ⟨34, fun v _ => v = .bool true, fun _ _ _ _ h => h⟩, ⟨35, fun v _ => v = .agg #[.slice s1 s2 s3, .slice s4 s5 s6, .int .u64 (bs : Int), .slice s7 s8 s9, .int .u32 (st : Int), .int .u32 (en : Int)], fun _ _ _ _ h => h⟩, ⟨36, fun v _ => v = .bool true, fun _ _ _ _ h => h⟩, ⟨37, fun v _ => v = .bool false, fun _ _ _ _ h => h⟩, ⟨38, fun v _ => v = .bool false, fun _ _ _ _ h => h⟩] _ (by kernel_rfl) rfl (by kernel_rfl) (Below.drew (Below.refl _ _)) (fun _ _ _ h1 h2 => below_tr h1 h2) (fun QQ => ⟨?_, ?_, ?_, ?_, ?_, ?_, ?_, ?_, ?_, ?_, trivial⟩) (fun f wy hR hf => ?_)
  ·intro A wx hR hout hdep K hK
   have h5 : A.tmps[5]?.getD undef = .pointer (some ⟨w.heap.size, 0, none⟩) := hout 5 (by kernel_rfl)
   refine if_yes (by kernel_rfl) ?_
   have c0 := keep_cell hR c0
   have c1 := keep_cell hR c1
   have c2 := keep_cell hR c2
   have c3 := keep_cell hR c3
   have c4 := keep_cell hR c4
   have c5 := keep_cell hR c5
   simp [go_sem, h5, c0, c1, c2, c3, c4, c5]
   exact hK.out _ _ (Below.refl _ _) rfl
  ·intro A wx hR hout hdep K hK
   have h29 : A.tmps[29]?.getD undef = .agg #[.slice s1 s2 s3, .slice s4 s5 s6, .int .u64 (bs : Int), .slice s7 s8 s9, .int .u32 (st : Int), .int .u32 (en : Int)] := hdep 29 (by kernel_rfl)
   refine if_yes (by kernel_rfl) ?_
   simp [go_sem, h29]
   refine (K7.out wx hR).mono ?_
   rintro e wG ⟨rfl, hbG⟩
   exact hK.out _ _ hbG rfl
  ·intro A wx hR hout hdep K hK
   have h30 : A.tmps[30]?.getD undef = .bool true := hdep 30 (by kernel_rfl)
   refine if_yes (by kernel_rfl) ?_
   simp [go_sem, h30]
   exact hK.out _ _ (Below.refl _ _) rfl
  ·intro A wx hR hout hdep K hK
   have h31 : A.tmps[31]?.getD undef = .bool false := hdep 31 (by kernel_rfl)
   refine if_yes (by kernel_rfl) ?_
   simp [go_sem, h31]
   exact hK.out _ _ (Below.refl _ _) rfl
  ·intro A wx hR hout hdep K hK
   have h5 : A.tmps[5]?.getD undef = .pointer (some ⟨w.heap.size, 0, none⟩) := hout 5 (by kernel_rfl)
   have h32 : A.tmps[32]?.getD undef = .bool false := hdep 32 (by kernel_rfl)
   refine if_yes ((wanted_is (j := 3) (b := false) (by kernel_rfl) (by kernel_rfl) h32).trans rfl) ?_
   have c0 := keep_cell hR c0
   have c1 := keep_cell hR c1
   have c2 := keep_cell hR c2
   have c3 := keep_cell hR c3
   have c4 := keep_cell hR c4
   have c5 := keep_cell hR c5
   simp [go_sem, h5, c0, c1, c2, c3, c4, c5]
   exact hK.out _ _ (Below.refl _ _) rfl
  ·intro A wx hR hout hdep K hK
   have h33 : A.tmps[33]?.getD undef = .agg #[.slice s1 s2 s3, .slice s4 s5 s6, .int .u64 (bs : Int), .slice s7 s8 s9, .int .u32 (st : Int), .int .u32 (en : Int)] := hdep 33 (by kernel_rfl)
   have h32 : A.tmps[32]?.getD undef = .bool false := hdep 32 (by kernel_rfl)
   refine if_yes ((wanted_is (j := 3) (b := false) (by kernel_rfl) (by kernel_rfl) h32).trans rfl) ?_
   simp [go_sem, h33]
   refine (K8.out wx hR).mono ?_
   rintro e wG ⟨rfl, hbG⟩
   exact hK.out _ _ hbG rfl
  ·intro A wx hR hout hdep K hK
   have h5 : A.tmps[5]?.getD undef = .pointer (some ⟨w.heap.size, 0, none⟩) := hout 5 (by kernel_rfl)
   have h32 : A.tmps[32]?.getD undef = .bool false := hdep 32 (by kernel_rfl)
   refine if_yes ((wanted_is (j := 3) (b := false) (by kernel_rfl) (by kernel_rfl) h32).trans rfl) ?_
   have c0 := keep_cell hR c0
   have c1 := keep_cell hR c1
   have c2 := keep_cell hR c2
   have c3 := keep_cell hR c3
   have c4 := keep_cell hR c4
   have c5 := keep_cell hR c5
   simp [go_sem, h5, c0, c1, c2, c3, c4, c5]
   exact hK.out _ _ (Below.refl _ _) rfl
  ·intro A wx hR hout hdep K hK
   have h35 : A.tmps[35]?.getD undef = .agg #[.slice s1 s2 s3, .slice s4 s5 s6, .int .u64 (bs : Int), .slice s7 s8 s9, .int .u32 (st : Int), .int .u32 (en : Int)] := hdep 35 (by kernel_rfl)
   have h32 : A.tmps[32]?.getD undef = .bool false := hdep 32 (by kernel_rfl)
   refine if_yes ((wanted_is (j := 3) (b := false) (by kernel_rfl) (by kernel_rfl) h32).trans rfl) ?_
   simp [go_sem, h35]
   refine (K9.out wx hR).mono ?_
   rintro e wG ⟨rfl, hbG⟩
   exact hK.out _ _ hbG rfl
  ·intro A wx hR hout hdep K hK
   have h34 : A.tmps[34]?.getD undef = .bool true := hdep 34 (by kernel_rfl)
   have h36 : A.tmps[36]?.getD undef = .bool true := hdep 36 (by kernel_rfl)
   have h32 : A.tmps[32]?.getD undef = .bool false := hdep 32 (by kernel_rfl)
   refine if_yes ((wanted_is (j := 3) (b := false) (by kernel_rfl) (by kernel_rfl) h32).trans rfl) ?_
   simp [go_sem, h34, h36]
   exact hK.out _ _ (Below.refl _ _) rfl
  ·intro A wx hR hout hdep K hK
   have h32 : A.tmps[32]?.getD undef = .bool false := hdep 32 (by kernel_rfl)
   have h37 : A.tmps[37]?.getD undef = .bool false := hdep 37 (by kernel_rfl)
   refine if_yes (by kernel_rfl) ?_
   simp [go_sem, h32, h37]
   exact hK.out _ _ (Below.refl _ _) rfl
  simp only [putSl, Act.put, List.setIfInBounds_toArray, List.set_cons_zero, List.set_cons_succ]
  have hz : f 38 = .bool false := hf 38 (by kernel_rfl)
  rw [hz]
  have hb1 : Below X.heap.size X wy := hR
  clear hf hz hR
  obtain ⟨w1, hw1⟩ : ∃ z, z = wy := ⟨_, rfl⟩
  rw [← hw1] at hb1 ⊢
  clear hw1
  have BS := BS.keep hb1
  obtain ⟨c0, c1, c2, c3, c4, c5⟩ := BS.cells
  have HB : Hid (Below w.heap.size w w1) := below_tr HB.out hb1
  have HSL : Hid (SlG w1 (.slice s1 s2 s3) (.slice s4 s5 s6) (.slice s7 s8 s9) ms cs ps) := HSL.out.keep hb1
  have K9 := K9.out w1 hb1
  clear hb1 K7 K8 hX
  go_wp2_with fail
  refine K9.mono ?_
  rintro e w2 ⟨rfl, hb2⟩
  have BS := BS.keep hb2
  obtain ⟨c0, c1, c2, c3, c4, c5⟩ := BS.cells
  have HB : Hid (Below w.heap.size w w2) := below_tr HB.out hb2
  have HSL : Hid (SlG w2 (.slice s1 s2 s3) (.slice s4 s5 s6) (.slice s7 s8 s9) ms cs ps) := HSL.out.keep hb2
  clear hb2 K9
  have KK := mmap11 (.slice s1 s2 s3) (.slice s4 s5 s6) (.slice s7 s8 s9) bs st en a n prot fixed ms cs ps w2 HSL.out HRC.out HWO.out HQ.out.1 HR.out.1 HR.out.2.1 HR.out.2.2.1 HR.out.2.2.2.1
  go_wp2_with fail
  refine KK.mono ?_
  rintro e v0 ⟨R1, at1, hmm, ba1, ba2, ba3, ba4, ba5, ba6, ba7, ba8, ba9, rfl, hsx, hbx⟩
  have HMM : Hid (MmIs ms cs ps bs st en a n prot fixed R1 at1) := hmm
  have HF1 : Hid (RFit R1 bs) := mm_fit HQ.out.1 HWO.out HRC.out hmm
  obtain ⟨e1, m1, q1, p1⟩ := R1
  try simp only at hsx
  clear hmm
  clear KK
  try simp only
  obtain ⟨Y0, X0, hY0, hX0, ⟨i0, i1, i2, i3, i4, i5⟩, ⟨j0, j1, j2, j3, j4, j5⟩, Bk0, bbx⟩ := new6 v0 (.slice ba1 ba2 ba3) (.slice ba4 ba5 ba6) (.int .u64 (bs : Int)) (.slice ba7 ba8 ba9) (.int .u32 (st : Int)) (.int .u32 (en : Int))
  have bnx := below_tr hbx bbx
  have BS := BS.keep bnx
  have HB : Hid (Below w.heap.size w X0) := below_tr HB.out bnx
  have HSL : Hid (SlG X0 (.slice s1 s2 s3) (.slice s4 s5 s6) (.slice s7 s8 s9) ms cs ps) := HSL.out.keep bnx
  have HS0 : Hid (SlG X0 (.slice ba1 ba2 ba3) (.slice ba4 ba5 ba6) (.slice ba7 ba8 ba9) m1 q1 p1) := hsx.keep bbx
  have HQ0 : Hid (∀ W', Below X0.heap.size X0 W' → B6 W' v0.heap.size 32 (.slice ba1 ba2 ba3) (.slice ba4 ba5 ba6) (.int .u64 (bs : Int)) (.slice ba7 ba8 ba9) (.int .u32 (st : Int)) (.int .u32 (en : Int)) ∧ SlG W' (.slice ba1 ba2 ba3) (.slice ba4 ba5 ba6) (.slice ba7 ba8 ba9) m1 q1 p1) := fun W' h => ⟨Bk0.keep h, HS0.out.keep h⟩
  have t0 := Below.refl X0.heap.size X0
  clear HS0
  obtain ⟨c0, c1, c2, c3, c4, c5⟩ := BS.cells
  clear hsx hbx bbx bnx Bk0
  have KK := rmmap12 (.slice s1 s2 s3) (.slice s4 s5 s6) (.slice s7 s8 s9) bs st en a n prot fixed ms cs ps X0 HSL.out HRC.out HWO.out HQ.out.1 HR.out.1 HR.out.2.1 HR.out.2.2.1 HR.out.2.2.2.1
  go_wp2_with fail
  refine KK.mono ?_
  rintro e v1 ⟨R1', at1', hmm, ca1, ca2, ca3, ca4, ca5, ca6, ca7, ca8, ca9, rfl, hsx, hbx⟩
  obtain ⟨rfl, rfl⟩ := mm_one (fun h => by unfold pgN; omega) (fun h => Or.inl h) HMM.out hmm
  try simp only at hsx
  clear hmm HMM
  clear KK
  try simp only
  obtain ⟨Y1, X1, hY1, hX1, ⟨i0, i1, i2, i3, i4, i5⟩, ⟨j0, j1, j2, j3, j4, j5⟩, Bk1, bbx⟩ := new6 v1 (.slice ca1 ca2 ca3) (.slice ca4 ca5 ca6) (.int .u64 (bs : Int)) (.slice ca7 ca8 ca9) (.int .u32 (st : Int)) (.int .u32 (en : Int))
  have bnx := below_tr hbx bbx
  have BS := BS.keep bnx
  have HB : Hid (Below w.heap.size w X1) := below_tr HB.out bnx
  have HSL : Hid (SlG X1 (.slice s1 s2 s3) (.slice s4 s5 s6) (.slice s7 s8 s9) ms cs ps) := HSL.out.keep bnx
  have HS1 : Hid (SlG X1 (.slice ca1 ca2 ca3) (.slice ca4 ca5 ca6) (.slice ca7 ca8 ca9) m1 q1 p1) := hsx.keep bbx
  have t0 := below_tr t0 bnx
  have HQ1 : Hid (∀ W', Below X1.heap.size X1 W' → B6 W' v1.heap.size 32 (.slice ca1 ca2 ca3) (.slice ca4 ca5 ca6) (.int .u64 (bs : Int)) (.slice ca7 ca8 ca9) (.int .u32 (st : Int)) (.int .u32 (en : Int)) ∧ SlG W' (.slice ca1 ca2 ca3) (.slice ca4 ca5 ca6) (.slice ca7 ca8 ca9) m1 q1 p1) := fun W' h => ⟨Bk1.keep h, HS1.out.keep h⟩
  have t1 := Below.refl X1.heap.size X1
  clear HS1
  obtain ⟨c0, c1, c2, c3, c4, c5⟩ := BS.cells
  clear hsx hbx bbx bnx Bk1
  clear hY0 hX0
  have KK := munmap13 (.slice s1 s2 s3) (.slice s4 s5 s6) (.slice s7 s8 s9) bs st en a n ms cs ps X1 HSL.out HRC.out HWO.out HQ.out.1 HR.out.2.2.1 HR.out.2.2.2.1
  rw [← HE2.out] at KK
  go_wp2_with fail
  refine KK.mono ?_
  rintro e v2 ⟨da1, da2, da3, da4, da5, da6, da7, da8, da9, rfl, hsx, hbx⟩
  try simp only at hsx
  clear KK
  try simp only
  obtain ⟨Y2, X2, hY2, hX2, ⟨i0, i1, i2, i3, i4, i5⟩, ⟨j0, j1, j2, j3, j4, j5⟩, Bk2, bbx⟩ := new6 v2 (.slice da1 da2 da3) (.slice da4 da5 da6) (.int .u64 (bs : Int)) (.slice da7 da8 da9) (.int .u32 (st : Int)) (.int .u32 (en : Int))
  have bnx := below_tr hbx bbx
  have BS := BS.keep bnx
  have HB : Hid (Below w.heap.size w X2) := below_tr HB.out bnx
  have HSL : Hid (SlG X2 (.slice s1 s2 s3) (.slice s4 s5 s6) (.slice s7 s8 s9) ms cs ps) := HSL.out.keep bnx
  have HS2 : Hid (SlG X2 (.slice da1 da2 da3) (.slice da4 da5 da6) (.slice da7 da8 da9) m2 q2 p2) := hsx.keep bbx
  have t0 := below_tr t0 bnx
  have t1 := below_tr t1 bnx
  have HQ2 : Hid (∀ W', Below X2.heap.size X2 W' → B6 W' v2.heap.size 32 (.slice da1 da2 da3) (.slice da4 da5 da6) (.int .u64 (bs : Int)) (.slice da7 da8 da9) (.int .u32 (st : Int)) (.int .u32 (en : Int)) ∧ SlG W' (.slice da1 da2 da3) (.slice da4 da5 da6) (.slice da7 da8 da9) m2 q2 p2) := fun W' h => ⟨Bk2.keep h, HS2.out.keep h⟩
  have t2 := Below.refl X2.heap.size X2
  clear HS2
  obtain ⟨c0, c1, c2, c3, c4, c5⟩ := BS.cells
  clear hsx hbx bbx bnx Bk2
  clear hY1 hX1
  have KK := rmunmap14 (.slice s1 s2 s3) (.slice s4 s5 s6) (.slice s7 s8 s9) bs st en a n ms cs ps X2 HSL.out HRC.out HWO.out HQ.out.1 HR.out.2.2.1 HR.out.2.2.2.1
  rw [← HE2.out] at KK
  go_wp2_with fail
  refine KK.mono ?_
  rintro e v3 ⟨ha1, ha2, ha3, ha4, ha5, ha6, ha7, ha8, ha9, rfl, hsx, hbx⟩
  try simp only at hsx
  clear KK
  try simp only
  obtain ⟨Y3, X3, hY3, hX3, ⟨i0, i1, i2, i3, i4, i5⟩, ⟨j0, j1, j2, j3, j4, j5⟩, Bk3, bbx⟩ := new6 v3 (.slice ha1 ha2 ha3) (.slice ha4 ha5 ha6) (.int .u64 (bs : Int)) (.slice ha7 ha8 ha9) (.int .u32 (st : Int)) (.int .u32 (en : Int))
  have bnx := below_tr hbx bbx
  have BS := BS.keep bnx
  have HB : Hid (Below w.heap.size w X3) := below_tr HB.out bnx
  have HSL : Hid (SlG X3 (.slice s1 s2 s3) (.slice s4 s5 s6) (.slice s7 s8 s9) ms cs ps) := HSL.out.keep bnx
  have HS3 : Hid (SlG X3 (.slice ha1 ha2 ha3) (.slice ha4 ha5 ha6) (.slice ha7 ha8 ha9) m2 q2 p2) := hsx.keep bbx
  have t0 := below_tr t0 bnx
  have t1 := below_tr t1 bnx
  have t2 := below_tr t2 bnx
  have HQ3 : Hid (∀ W', Below X3.heap.size X3 W' → B6 W' v3.heap.size 32 (.slice ha1 ha2 ha3) (.slice ha4 ha5 ha6) (.int .u64 (bs : Int)) (.slice ha7 ha8 ha9) (.int .u32 (st : Int)) (.int .u32 (en : Int)) ∧ SlG W' (.slice ha1 ha2 ha3) (.slice ha4 ha5 ha6) (.slice ha7 ha8 ha9) m2 q2 p2) := fun W' h => ⟨Bk3.keep h, HS3.out.keep h⟩
  have t3 := Below.refl X3.heap.size X3
  clear HS3
  obtain ⟨c0, c1, c2, c3, c4, c5⟩ := BS.cells
  clear hsx hbx bbx bnx Bk3
  clear hY2 hX2
  have KK := mprotect15 (.slice s1 s2 s3) (.slice s4 s5 s6) (.slice s7 s8 s9) bs st en a n prot ms cs ps X3 HSL.out HRC.out HWO.out HQ.out.1 HR.out.2.2.1 HR.out.2.2.2.1
  rw [← HE3.out] at KK
  go_wp2_with fail
  refine KK.mono ?_
  rintro e v4 ⟨ia1, ia2, ia3, ia4, ia5, ia6, ia7, ia8, ia9, rfl, hsx, hbx⟩
  try simp only at hsx
  clear KK
  try simp only
  obtain ⟨Y4, X4, hY4, hX4, ⟨i0, i1, i2, i3, i4, i5⟩, ⟨j0, j1, j2, j3, j4, j5⟩, Bk4, bbx⟩ := new6 v4 (.slice ia1 ia2 ia3) (.slice ia4 ia5 ia6) (.int .u64 (bs : Int)) (.slice ia7 ia8 ia9) (.int .u32 (st : Int)) (.int .u32 (en : Int))
  have bnx := below_tr hbx bbx
  have BS := BS.keep bnx
  have HB : Hid (Below w.heap.size w X4) := below_tr HB.out bnx
  have HSL : Hid (SlG X4 (.slice s1 s2 s3) (.slice s4 s5 s6) (.slice s7 s8 s9) ms cs ps) := HSL.out.keep bnx
  have HS4 : Hid (SlG X4 (.slice ia1 ia2 ia3) (.slice ia4 ia5 ia6) (.slice ia7 ia8 ia9) m3 q3 p3) := hsx.keep bbx
  have t0 := below_tr t0 bnx
  have t1 := below_tr t1 bnx
  have t2 := below_tr t2 bnx
  have t3 := below_tr t3 bnx
  have HQ4 : Hid (∀ W', Below X4.heap.size X4 W' → B6 W' v4.heap.size 32 (.slice ia1 ia2 ia3) (.slice ia4 ia5 ia6) (.int .u64 (bs : Int)) (.slice ia7 ia8 ia9) (.int .u32 (st : Int)) (.int .u32 (en : Int)) ∧ SlG W' (.slice ia1 ia2 ia3) (.slice ia4 ia5 ia6) (.slice ia7 ia8 ia9) m3 q3 p3) := fun W' h => ⟨Bk4.keep h, HS4.out.keep h⟩
  have t4 := Below.refl X4.heap.size X4
  clear HS4
  obtain ⟨c0, c1, c2, c3, c4, c5⟩ := BS.cells
  clear hsx hbx bbx bnx Bk4
  clear hY3 hX3
  have KK := rmprotect16 (.slice s1 s2 s3) (.slice s4 s5 s6) (.slice s7 s8 s9) bs st en a n prot ms cs ps X4 HSL.out HRC.out HWO.out HQ.out.1 HR.out.2.2.1 HR.out.2.2.2.1
  rw [← HE3.out] at KK
  go_wp2_with fail
  refine KK.mono ?_
  rintro e v5 ⟨ja1, ja2, ja3, ja4, ja5, ja6, ja7, ja8, ja9, rfl, hsx, hbx⟩
  try simp only at hsx
  clear KK
  try simp only
  obtain ⟨Y5, X5, hY5, hX5, ⟨i0, i1, i2, i3, i4, i5⟩, ⟨j0, j1, j2, j3, j4, j5⟩, Bk5, bbx⟩ := new6 v5 (.slice ja1 ja2 ja3) (.slice ja4 ja5 ja6) (.int .u64 (bs : Int)) (.slice ja7 ja8 ja9) (.int .u32 (st : Int)) (.int .u32 (en : Int))
  have bnx := below_tr hbx bbx
  have BS := BS.keep bnx
  have HB : Hid (Below w.heap.size w X5) := below_tr HB.out bnx
  have HSL : Hid (SlG X5 (.slice s1 s2 s3) (.slice s4 s5 s6) (.slice s7 s8 s9) ms cs ps) := HSL.out.keep bnx
  have HS5 : Hid (SlG X5 (.slice ja1 ja2 ja3) (.slice ja4 ja5 ja6) (.slice ja7 ja8 ja9) m3 q3 p3) := hsx.keep bbx
  have t0 := below_tr t0 bnx
  have t1 := below_tr t1 bnx
  have t2 := below_tr t2 bnx
  have t3 := below_tr t3 bnx
  have t4 := below_tr t4 bnx
  have HQ5 : Hid (∀ W', Below X5.heap.size X5 W' → B6 W' v5.heap.size 32 (.slice ja1 ja2 ja3) (.slice ja4 ja5 ja6) (.int .u64 (bs : Int)) (.slice ja7 ja8 ja9) (.int .u32 (st : Int)) (.int .u32 (en : Int)) ∧ SlG W' (.slice ja1 ja2 ja3) (.slice ja4 ja5 ja6) (.slice ja7 ja8 ja9) m3 q3 p3) := fun W' h => ⟨Bk5.keep h, HS5.out.keep h⟩
  have t5 := Below.refl X5.heap.size X5
  clear HS5
  obtain ⟨c0, c1, c2, c3, c4, c5⟩ := BS.cells
  clear hsx hbx bbx bnx Bk5
  clear hY4 hX4
  have KK := KB1.out (.slice s1 s2 s3) (.slice s4 s5 s6) (.slice s7 s8 s9) X5 HSL.out
  go_wp2_with fail
  refine KK.mono ?_
  rintro e v6 ⟨ka1, ka2, ka3, ka4, ka5, ka6, ka7, ka8, ka9, rfl, hsx, hbx⟩
  try simp only at hsx
  clear KK
  try simp only
  obtain ⟨Y6, X6, hY6, hX6, ⟨i0, i1, i2, i3, i4, i5⟩, ⟨j0, j1, j2, j3, j4, j5⟩, Bk6, bbx⟩ := new6 v6 (.slice ka1 ka2 ka3) (.slice ka4 ka5 ka6) (.int .u64 (bs : Int)) (.slice ka7 ka8 ka9) (.int .u32 (st : Int)) (.int .u32 (en4 : Int))
  have bnx := below_tr hbx bbx
  have BS := BS.keep bnx
  have HB : Hid (Below w.heap.size w X6) := below_tr HB.out bnx
  have HSL : Hid (SlG X6 (.slice s1 s2 s3) (.slice s4 s5 s6) (.slice s7 s8 s9) ms cs ps) := HSL.out.keep bnx
  have HS6 : Hid (SlG X6 (.slice ka1 ka2 ka3) (.slice ka4 ka5 ka6) (.slice ka7 ka8 ka9) m4 q4 p4) := hsx.keep bbx
  have t0 := below_tr t0 bnx
  have t1 := below_tr t1 bnx
  have t2 := below_tr t2 bnx
  have t3 := below_tr t3 bnx
  have t4 := below_tr t4 bnx
  have t5 := below_tr t5 bnx
  have HQ6 : Hid (∀ W', Below X6.heap.size X6 W' → B6 W' v6.heap.size 32 (.slice ka1 ka2 ka3) (.slice ka4 ka5 ka6) (.int .u64 (bs : Int)) (.slice ka7 ka8 ka9) (.int .u32 (st : Int)) (.int .u32 (en4 : Int)) ∧ SlG W' (.slice ka1 ka2 ka3) (.slice ka4 ka5 ka6) (.slice ka7 ka8 ka9) m4 q4 p4) := fun W' h => ⟨Bk6.keep h, HS6.out.keep h⟩
  have t6 := Below.refl X6.heap.size X6
  clear HS6
  obtain ⟨c0, c1, c2, c3, c4, c5⟩ := BS.cells
  clear hsx hbx bbx bnx Bk6
  clear hY5 hX5
  have KK := KB2.out (.slice s1 s2 s3) (.slice s4 s5 s6) (.slice s7 s8 s9) X6 HSL.out
  go_wp2_with fail
  refine KK.mono ?_
  rintro e v7 ⟨la1, la2, la3, la4, la5, la6, la7, la8, la9, rfl, hsx, hbx⟩
  try simp only at hsx
  clear KK
  try simp only
  obtain ⟨Y7, X7, hY7, hX7, ⟨i0, i1, i2, i3, i4, i5⟩, ⟨j0, j1, j2, j3, j4, j5⟩, Bk7, bbx⟩ := new6 v7 (.slice la1 la2 la3) (.slice la4 la5 la6) (.int .u64 (bs : Int)) (.slice la7 la8 la9) (.int .u32 (st : Int)) (.int .u32 (en4 : Int))
  have bnx := below_tr hbx bbx
  have BS := BS.keep bnx
  have HB : Hid (Below w.heap.size w X7) := below_tr HB.out bnx
  have HSL : Hid (SlG X7 (.slice s1 s2 s3) (.slice s4 s5 s6) (.slice s7 s8 s9) ms cs ps) := HSL.out.keep bnx
  have HS7 : Hid (SlG X7 (.slice la1 la2 la3) (.slice la4 la5 la6) (.slice la7 la8 la9) m4 q4 p4) := hsx.keep bbx
  have t0 := below_tr t0 bnx
  have t1 := below_tr t1 bnx
  have t2 := below_tr t2 bnx
  have t3 := below_tr t3 bnx
  have t4 := below_tr t4 bnx
  have t5 := below_tr t5 bnx
  have t6 := below_tr t6 bnx
  have HQ7 : Hid (∀ W', Below X7.heap.size X7 W' → B6 W' v7.heap.size 32 (.slice la1 la2 la3) (.slice la4 la5 la6) (.int .u64 (bs : Int)) (.slice la7 la8 la9) (.int .u32 (st : Int)) (.int .u32 (en4 : Int)) ∧ SlG W' (.slice la1 la2 la3) (.slice la4 la5 la6) (.slice la7 la8 la9) m4 q4 p4) := fun W' h => ⟨Bk7.keep h, HS7.out.keep h⟩
  have t7 := Below.refl X7.heap.size X7
  clear HS7
  obtain ⟨c0, c1, c2, c3, c4, c5⟩ := BS.cells
  clear hsx hbx bbx bnx Bk7
  clear hY6 hX6
  clear BS c0 c1 c2 c3 c4 c5
  obtain ⟨BA, SA⟩ := HQ0.out _ t0
  obtain ⟨BB, SB⟩ := HQ1.out _ t1
  obtain ⟨a0, a1, a2, a3, a4, a5⟩ := BA.cells
  obtain ⟨b0, b1, b2, b3, b4, b5⟩ := BB.cells
  have KK := rspSame19 _ _ _ _ _ _ bs st en bs st en m1 q1 p1 m1 q1 p1 X7 SA SB
  rw [same_id] at KK
  clear BA BB SA SB
  go_wp2_with fail
  refine KK.mono ?_
  rintro e u0 ⟨rfl, hbx⟩
  have HB : Hid (Below w.heap.size w u0) := below_tr HB.out hbx
  have t0 := below_tr t0 hbx
  have t1 := below_tr t1 hbx
  have t2 := below_tr t2 hbx
  have t3 := below_tr t3 hbx
  have t4 := below_tr t4 hbx
  have t5 := below_tr t5 hbx
  have t6 := below_tr t6 hbx
  have t7 := below_tr t7 hbx
  clear KK hbx a0 a1 a2 a3 a4 a5 b0 b1 b2 b3 b4 b5
  clear hY7 hX7 i0 i1 i2 i3 i4 i5 j0 j1 j2 j3 j4 j5
  obtain ⟨BA, SA⟩ := HQ2.out _ t2
  obtain ⟨BB, SB⟩ := HQ3.out _ t3
  obtain ⟨a0, a1, a2, a3, a4, a5⟩ := BA.cells
  obtain ⟨b0, b1, b2, b3, b4, b5⟩ := BB.cells
  have KK := rspSame19 _ _ _ _ _ _ bs st en bs st en m2 q2 p2 m2 q2 p2 u0 SA SB
  rw [same_id] at KK
  clear BA BB SA SB
  go_wp2_with fail
  refine KK.mono ?_
  rintro e u1 ⟨rfl, hbx⟩
  have HB : Hid (Below w.heap.size w u1) := below_tr HB.out hbx
  have t0 := below_tr t0 hbx
  have t1 := below_tr t1 hbx
  have t2 := below_tr t2 hbx
  have t3 := below_tr t3 hbx
  have t4 := below_tr t4 hbx
  have t5 := below_tr t5 hbx
  have t6 := below_tr t6 hbx
  have t7 := below_tr t7 hbx
  clear KK hbx a0 a1 a2 a3 a4 a5 b0 b1 b2 b3 b4 b5
  obtain ⟨BA, SA⟩ := HQ4.out _ t4
  obtain ⟨BB, SB⟩ := HQ5.out _ t5
  obtain ⟨a0, a1, a2, a3, a4, a5⟩ := BA.cells
  obtain ⟨b0, b1, b2, b3, b4, b5⟩ := BB.cells
  have KK := rspSame19 _ _ _ _ _ _ bs st en bs st en m3 q3 p3 m3 q3 p3 u1 SA SB
  rw [same_id] at KK
  clear BA BB SA SB
  go_wp2_with fail
  refine KK.mono ?_
  rintro e u2 ⟨rfl, hbx⟩
  have HB : Hid (Below w.heap.size w u2) := below_tr HB.out hbx
  have t0 := below_tr t0 hbx
  have t1 := below_tr t1 hbx
  have t2 := below_tr t2 hbx
  have t3 := below_tr t3 hbx
  have t4 := below_tr t4 hbx
  have t5 := below_tr t5 hbx
  have t6 := below_tr t6 hbx
  have t7 := below_tr t7 hbx
  clear KK hbx a0 a1 a2 a3 a4 a5 b0 b1 b2 b3 b4 b5
  obtain ⟨BA, SA⟩ := HQ6.out _ t6
  obtain ⟨BB, SB⟩ := HQ7.out _ t7
  obtain ⟨a0, a1, a2, a3, a4, a5⟩ := BA.cells
  obtain ⟨b0, b1, b2, b3, b4, b5⟩ := BB.cells
  have KK := rspSame19 _ _ _ _ _ _ bs st en4 bs st en4 m4 q4 p4 m4 q4 p4 u2 SA SB
  rw [same_id] at KK
  clear BA BB SA SB
  go_wp2_with fail
  refine KK.mono ?_
  rintro e u3 ⟨rfl, hbx⟩
  have HB : Hid (Below w.heap.size w u3) := below_tr HB.out hbx
  have t0 := below_tr t0 hbx
  have t1 := below_tr t1 hbx
  have t2 := below_tr t2 hbx
  have t3 := below_tr t3 hbx
  have t4 := below_tr t4 hbx
  have t5 := below_tr t5 hbx
  have t6 := below_tr t6 hbx
  have t7 := below_tr t7 hbx
  clear KK hbx a0 a1 a2 a3 a4 a5 b0 b1 b2 b3 b4 b5
  obtain ⟨BA, SA⟩ := HQ0.out _ t0
  obtain ⟨a0, a1, a2, a3, a4, a5⟩ := BA.cells
  have KK := rspFit9 _ _ _ bs st en m1 q1 p1 u3 SA (HF1.out).2.2 HR.out.2.2.2.2
  rw [spFit_of (HF1.out).1 HQ.out.2.1 HQ.out.2.2] at KK
  clear BA SA
  go_wp2_with fail
  refine KK.mono ?_
  rintro e u4 ⟨rfl, hbx⟩
  have HB : Hid (Below w.heap.size w u4) := below_tr HB.out hbx
  have t0 := below_tr t0 hbx
  have t1 := below_tr t1 hbx
  have t2 := below_tr t2 hbx
  have t3 := below_tr t3 hbx
  have t4 := below_tr t4 hbx
  have t5 := below_tr t5 hbx
  have t6 := below_tr t6 hbx
  have t7 := below_tr t7 hbx
  clear KK hbx a0 a1 a2 a3 a4 a5
  obtain ⟨BA, SA⟩ := HQ2.out _ t2
  obtain ⟨a0, a1, a2, a3, a4, a5⟩ := BA.cells
  have KK := rspFit9 _ _ _ bs st en m2 q2 p2 u4 SA (HF2.out).2.2 HR.out.2.2.2.2
  rw [spFit_of (HF2.out).1 HQ.out.2.1 HQ.out.2.2] at KK
  clear BA SA
  go_wp2_with fail
  refine KK.mono ?_
  rintro e u5 ⟨rfl, hbx⟩
  have HB : Hid (Below w.heap.size w u5) := below_tr HB.out hbx
  have t0 := below_tr t0 hbx
  have t1 := below_tr t1 hbx
  have t2 := below_tr t2 hbx
  have t3 := below_tr t3 hbx
  have t4 := below_tr t4 hbx
  have t5 := below_tr t5 hbx
  have t6 := below_tr t6 hbx
  have t7 := below_tr t7 hbx
  clear KK hbx a0 a1 a2 a3 a4 a5
  obtain ⟨BA, SA⟩ := HQ4.out _ t4
  obtain ⟨a0, a1, a2, a3, a4, a5⟩ := BA.cells
  have KK := rspFit9 _ _ _ bs st en m3 q3 p3 u5 SA (HF3.out).2.2 HR.out.2.2.2.2
  rw [spFit_of (HF3.out).1 HQ.out.2.1 HQ.out.2.2] at KK
  clear BA SA
  go_wp2_with fail
  refine KK.mono ?_
  rintro e u6 ⟨rfl, hbx⟩
  have HB : Hid (Below w.heap.size w u6) := below_tr HB.out hbx
  have t0 := below_tr t0 hbx
  have t1 := below_tr t1 hbx
  have t2 := below_tr t2 hbx
  have t3 := below_tr t3 hbx
  have t4 := below_tr t4 hbx
  have t5 := below_tr t5 hbx
  have t6 := below_tr t6 hbx
  have t7 := below_tr t7 hbx
  clear KK hbx a0 a1 a2 a3 a4 a5
  obtain ⟨BA, SA⟩ := HQ6.out _ t6
  obtain ⟨a0, a1, a2, a3, a4, a5⟩ := BA.cells
  have KK := rspFit9 _ _ _ bs st en4 m4 q4 p4 u6 SA (HF4.out.1).2.2 HR.out.2.2.2.2
  rw [spFit_of (HF4.out.1).1 HQ.out.2.1 HF4.out.2] at KK
  clear BA SA
  go_wp2_with fail
  refine KK.mono ?_
  rintro e u7 ⟨rfl, hbx⟩
  have HB : Hid (Below w.heap.size w u7) := below_tr HB.out hbx
  clear KK hbx a0 a1 a2 a3 a4 a5
  go_wp2_with fail
  refine (awake10 _).mono ?_
  rintro e wz ⟨rfl, hbz⟩
  have HBz : Hid (Below w.heap.size w wz) := below_tr HB.out hbz
  go_wp2
  go_ret
  exact ⟨rfl, HBz.out⟩
end Go.Proofs.YtkpmkgkfpikpfaaGreat
