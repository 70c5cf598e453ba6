/- What is proved here: what a memory that is handed in holds. -/
import Derived.Test.YtkpmkgkfpikpfaaGreatSmall
import Derived.WalkKit
import Derived.ProofKit
import Derived.OpenShut
import Derived.ChangeOld
import Derived.Below
import Derived.Deep.SlicePairs
import Derived.Test.YtkpmkgkfpikpfaaGreatGmap
import Derived.Deep.Strs
namespace Go.Proofs.YtkpmkgkfpikpfaaGreat
open Go.ChangeShapes Go.WideShapes Go.ChangeAt Go.RowKit
set_option linter.unusedVariables false
set_option maxRecDepth 100000
theorem hcells25 : Tryz.prog.cellsOf 25 = 2 := by kernel_rfl
theorem hcells54 : Tryz.prog.cellsOf 77 = 2 := by kernel_rfl
theorem hcells58 : Tryz.prog.cellsOf 82 = 2 := by kernel_rfl
theorem hcells26 : Tryz.prog.cellsOf 26 = 1 := by kernel_rfl
theorem hcells22 : Tryz.prog.cellsOf 22 = 1 := by kernel_rfl
theorem hcells23 : Tryz.prog.cellsOf 23 = 1 := by kernel_rfl
theorem hcells3 : Tryz.prog.cellsOf 3 = 1 := by kernel_rfl
theorem spot_none {w : World} {a : Addr} {v : Value} (h : w.cell? a = some v) : a = ⟨a.block, a.off, none⟩ := by
 obtain ⟨b, o, s⟩ := a
 cases s with
 | none => rfl
 | some x =>
  unfold World.cell? at h
  split at h <;> simp at h
theorem bounds_w {n : Int} (h : (Lit.int .u64 n).wf = true) : 0 ≤ n ∧ n < 18446744073709551616 := by
 simp [Lit.wf, IntKind.min, IntKind.max, IntKind.signed, IntKind.bits] at h
 omega
theorem openPairs {H : Type} {enc : TypeId × Value → H} {W : World} {k : IntKind} {t e f : TypeId} {n0 n1 g0 g1 k0 k1 : String} {b0 b1 : Nat} (ht : Tryz.prog.underlying t = some (.slice e))
  (he : Tryz.prog.underlying e = some (.struct #[{ name := n0, type := 26, offset := 0, embedded := false, tag := g0, pkgPath := k0, byteOffset := b0 }, { name := n1, type := f, offset := 1, embedded := false, tag := g1, pkgPath := k1, byteOffset := b1 }]))
  (ce : Tryz.prog.cellsOf e = 2) (cf : Tryz.prog.cellsOf f = 1) (hf : Tryz.prog.underlying f = some (.int k)) {fuel : Nat} {v : Value} {x : DataW H × List MemPlace}
  (h : DataW.trod enc Tryz.prog W 0 (fun _ => true) true fuel t [v] = some x) :
  ∃ xs : List (Nat × Int), Sl k W v xs ∧ (∀ y ∈ xs, y.1 < 18446744073709551616) ∧ (∀ y ∈ xs, (Lit.int k y.2).wf = true) := by
 rcases Deep.open_slice_pairs ht he ce rfl rfl hcells26 cf h with ⟨hv, _⟩ | ⟨a, len, cap, m, n, V0, V1, D0, D1, P0, P1, hv, _, hl, hc, hm, _, hx⟩
 ·simp at hv; subst hv
  exact ⟨[], ⟨none, 0, rfl, by simp, by omega, fun _ => rfl, fun i hi => by simp at hi⟩, by simp, by simp⟩
 simp at hv; subst hv
 have hlm : len ≤ m := by rw [hm]; simpa using hl
 have each : ∀ i, i < len → W.cell? (a.add (i * 2)) = some (.int .u64 (((intOf (V0 i)).toNat : Nat) : Int)) ∧ W.cell? (a.add (i * 2 + 1)) = some (.int k (intOf (V1 i))) ∧ (intOf (V0 i)).toNat < 18446744073709551616 ∧ (Lit.int k (intOf (V1 i))).wf = true := by
  intro i hi
  obtain ⟨c0, c1, t0, t1⟩ := hx i (by omega)
  obtain ⟨z0, e0, _, w0⟩ := DataW.trod_int Tryz.underlying26 t0
  obtain ⟨z1, e1, _, w1⟩ := DataW.trod_int hf t1
  simp at e0 e1
  obtain ⟨l0, l1⟩ := bounds_w w0
  rw [e0] at c0 ⊢
  rw [e1] at c1 ⊢
  refine ⟨?_, c1, ?_, w1⟩
  ·rw [c0]; simp only [intOf]; rw [Int.toNat_of_nonneg l0]
  ·simp only [intOf]; omega
 refine ⟨(List.range len).map (fun i => ((intOf (V0 i)).toNat, intOf (V1 i))), ⟨some a, cap, by simp, by simpa using hl, by unfold maxLen at hc; omega, by simp, fun i hi => ?_⟩, ?_, ?_⟩
 ·simp at hi
  obtain ⟨c0, c1, _, _⟩ := each i hi
  have ha := spot_none (each 0 (by omega)).1
  rw [show a.add (0 * 2) = a by rfl] at ha
  refine ⟨a.block, a.off, by rw [← ha], ?_, ?_⟩
  ·rw [ha, add_pl] at c0
   simpa using c0
  ·rw [ha, add_pl, ← Nat.add_assoc] at c1
   simpa using c1
 ·intro y hy
  simp at hy
  obtain ⟨i, hi, rfl⟩ := hy
  exact (each i hi).2.2.1
 ·intro y hy
  simp at hy
  obtain ⟨i, hi, rfl⟩ := hy
  exact (each i hi).2.2.2
set_option linter.unusedSimpArgs false
theorem hcells29 : Tryz.prog.cellsOf 29 = 4 := by kernel_rfl
theorem hcells27 : Tryz.prog.cellsOf 27 = 1 := by kernel_rfl
theorem hcells46 : Tryz.prog.cellsOf 53 = 2 := by kernel_rfl
theorem hcells30 : Tryz.prog.cellsOf 30 = 1 := by kernel_rfl
theorem bounds_u32 {n : Int} (h : (Lit.int .u32 n).wf = true) : 0 ≤ n ∧ n < 4294967296 := by
 simp [Lit.wf, IntKind.min, IntKind.max, IntKind.signed, IntKind.bits] at h
 omega
theorem openPg {H : Type} {enc : TypeId × Value → H} {W : World} {k : IntKind} {t e f : TypeId} {n0 n1 g0 g1 k0 k1 : String} {b0 b1 : Nat} (ht : Tryz.prog.underlying t = some (.slice e))
  (he : Tryz.prog.underlying e = some (.struct #[{ name := n0, type := 30, offset := 0, embedded := false, tag := g0, pkgPath := k0, byteOffset := b0 }, { name := n1, type := f, offset := 1, embedded := false, tag := g1, pkgPath := k1, byteOffset := b1 }]))
  (ce : Tryz.prog.cellsOf e = 2) (cf : Tryz.prog.cellsOf f = 1) (hf : Tryz.prog.underlying f = some (.int k)) {fuel : Nat} {v : Value} {x : DataW H × List MemPlace}
  (h : DataW.trod enc Tryz.prog W 0 (fun _ => true) true fuel t [v] = some x) :
  ∃ xs : List (Nat × Int), Pg.Sl k W v xs ∧ (∀ y ∈ xs, y.1 < 4294967296) ∧ (∀ y ∈ xs, (Lit.int k y.2).wf = true) := by
 rcases Deep.open_slice_pairs ht he ce rfl rfl hcells30 cf h with ⟨hv, _⟩ | ⟨a, len, cap, m, n, V0, V1, D0, D1, P0, P1, hv, _, hl, hc, hm, _, hx⟩
 ·simp at hv; subst hv
  exact ⟨[], ⟨none, 0, rfl, by simp, by omega, fun _ => rfl, fun i hi => by simp at hi⟩, by simp, by simp⟩
 simp at hv; subst hv
 have hlm : len ≤ m := by rw [hm]; simpa using hl
 have each : ∀ i, i < len → W.cell? (a.add (i * 2)) = some (.int .u32 (((intOf (V0 i)).toNat : Nat) : Int)) ∧ W.cell? (a.add (i * 2 + 1)) = some (.int k (intOf (V1 i))) ∧ (intOf (V0 i)).toNat < 4294967296 ∧ (Lit.int k (intOf (V1 i))).wf = true := by
  intro i hi
  obtain ⟨c0, c1, t0, t1⟩ := hx i (by omega)
  obtain ⟨z0, e0, _, w0⟩ := DataW.trod_int Tryz.underlying30 t0
  obtain ⟨z1, e1, _, w1⟩ := DataW.trod_int hf t1
  simp at e0 e1
  obtain ⟨l0, l1⟩ := bounds_u32 w0
  rw [e0] at c0 ⊢
  rw [e1] at c1 ⊢
  refine ⟨?_, c1, ?_, w1⟩
  ·rw [c0]; simp only [intOf]; rw [Int.toNat_of_nonneg l0]
  ·simp only [intOf]; omega
 refine ⟨(List.range len).map (fun i => ((intOf (V0 i)).toNat, intOf (V1 i))), ⟨some a, cap, by simp, by simpa using hl, by unfold maxLen at hc; omega, by simp, fun i hi => ?_⟩, ?_, ?_⟩
 ·simp at hi
  obtain ⟨c0, c1, _, _⟩ := each i hi
  have ha := spot_none (each 0 (by omega)).1
  rw [show a.add (0 * 2) = a by rfl] at ha
  refine ⟨a.block, a.off, by rw [← ha], ?_, ?_⟩
  ·rw [ha, add_pl] at c0
   simpa using c0
  ·rw [ha, add_pl, ← Nat.add_assoc] at c1
   simpa using c1
 ·intro y hy
  simp at hy
  obtain ⟨i, hi, rfl⟩ := hy
  exact (each i hi).2.2.1
 ·intro y hy
  simp at hy
  obtain ⟨i, hi, rfl⟩ := hy
  exact (each i hi).2.2.2
theorem hcells32 : Tryz.prog.cellsOf 32 = 6 := by kernel_rfl
theorem list6 {α : Type} (l : List α) (h : (⟨l⟩ : Array α).size = 6) : ∃ a b c d e f, l = [a, b, c, d, e, f] := by
 match l, h with
 | [a, b, c, d, e, f], _ => exact ⟨a, b, c, d, e, f, rfl⟩
theorem openSpace {H : Type} {enc : TypeId × Value → H} {W : World} {base : Nat} {v : Value} {d : DataW H} {p : List MemPlace} (hv : Value.okWide Tryz.prog W .any base 32 v) (h : DataW.Trod enc Tryz.prog W 0 (fun _ => true) true 32 v d p) :
  ∃ vm vc vp ms cs ps, ∃ bs st en : Nat, v = .agg #[vm, vc, .int .u64 (bs : Int), vp, .int .u32 (st : Int), .int .u32 (en : Int)] ∧ SlG W vm vc vp ms cs ps ∧ (∀ y ∈ cs, y.1 < 18446744073709551616) ∧ Words cs ∧ bs < 18446744073709551616 ∧ (∀ y ∈ ps, y.1 < 4294967296) ∧ st < 4294967296 ∧ en < 4294967296 := by
 obtain ⟨cs, rfl, hsz, _⟩ : ∃ cs, v = .agg cs ∧ cs.size = Tryz.prog.cellsOf 32 ∧ Row.okWide Tryz.prog W .any base 32 cs := by
  simpa [Value.okWide, Tryz.underlying32] using hv
 rw [hcells32] at hsz
 obtain ⟨l⟩ := cs
 obtain ⟨vm, vc, vb, vp, vs, ve, rfl⟩ := list6 l hsz
 obtain ⟨fuel, hf⟩ := h
 obtain ⟨u0, u1, u2, n0, _, _, k0, k1, k2⟩ := Deep.trod_struct3 Tryz.underlying32 hf
 simp [hcells29, hcells30, Value.cells] at k0 k1 k2
 obtain ⟨y0, y1, y2, n, _, _, h0, h1, h2⟩ := Deep.trod_struct3 Tryz.underlying29 k0
 simp [hcells25, hcells26, hcells27, Value.cells] at h0 h1 h2
 obtain ⟨z0, z1, n', _, _, g0, g1⟩ := trod_struct2 Tryz.underlying25 h0
 simp [hcells22, hcells23] at g0 g1
 obtain ⟨ms, s1, r1, q1⟩ := openPairs Tryz.underlying22 Tryz.underlying77 hcells54 hcells3 Tryz.underlying3 g0
 obtain ⟨cs, s2, r2, q2⟩ := openPairs Tryz.underlying23 Tryz.underlying82 hcells58 hcells26 Tryz.underlying26 g1
 obtain ⟨b, e1, _, w1⟩ := DataW.trod_int Tryz.underlying26 h1
 obtain ⟨ps, s3, r3, q3⟩ := openPg Tryz.underlying27 Tryz.underlying53 hcells46 hcells3 Tryz.underlying3 h2
 obtain ⟨b4, e4, _, w4⟩ := DataW.trod_int Tryz.underlying30 k1
 obtain ⟨b5, e5, _, w5⟩ := DataW.trod_int Tryz.underlying30 k2
 simp at e1 e4 e5
 subst e1 e4 e5
 obtain ⟨b1, b2⟩ := bounds_w w1
 obtain ⟨bs, rfl⟩ := Int.eq_ofNat_of_zero_le b1
 obtain ⟨c1, c2⟩ := bounds_u32 w4
 obtain ⟨st, rfl⟩ := Int.eq_ofNat_of_zero_le c1
 obtain ⟨d1, d2⟩ := bounds_u32 w5
 obtain ⟨en, rfl⟩ := Int.eq_ofNat_of_zero_le d1
 exact ⟨vm, vc, vp, ms, cs, ps, bs, st, en, rfl, ⟨s1, s2, s3⟩, r2, fun y hy => bounds_w (q2 y hy), by omega, r3, by omega, by omega⟩
end Go.Proofs.YtkpmkgkfpikpfaaGreat
