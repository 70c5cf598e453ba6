/- What is proved here: what a memory that is handed in holds. -/
import Derived.Test.YtdhjmghfiodifaaSmall
import Derived.WalkKit
import Derived.ProofKit
import Derived.OpenShut
import Derived.ChangeOld
import Derived.Below
import Derived.Deep.SlicePairs
import Derived.Test.YtdhjmghfiodifaaGadd
import Derived.Deep.Strs
namespace Go.Proofs.Ytdhjmghfiodifaa
open Go.ChangeShapes Go.WideShapes Go.ChangeAt Go.RowKit
set_option linter.unusedVariables false
set_option maxRecDepth 100000
theorem hcells25 : Try.prog.cellsOf 25 = 2 := by kernel_rfl
theorem hcells54 : Try.prog.cellsOf 80 = 2 := by kernel_rfl
theorem hcells58 : Try.prog.cellsOf 85 = 2 := by kernel_rfl
theorem hcells26 : Try.prog.cellsOf 26 = 1 := by kernel_rfl
theorem hcells22 : Try.prog.cellsOf 22 = 1 := by kernel_rfl
theorem hcells23 : Try.prog.cellsOf 23 = 1 := by kernel_rfl
theorem hcells3 : Try.prog.cellsOf 3 = 1 := by kernel_rfl
theorem spot_none {w : World} {a : Addr} {v : Value} (h : w.cell? a = some v) : a = ⟨a.block, a.off, none⟩ := by
  obtain ⟨b, o, s⟩ := a
  cases s with
  | none => rfl
  | some x =>
    unfold World.cell? at h
    split at h <;> simp at h
theorem bounds_w {n : Int} (h : (Lit.int .u64 n).wf = true) : 0 ≤ n ∧ n < 18446744073709551616 := by
  simp [Lit.wf, IntKind.min, IntKind.max, IntKind.signed, IntKind.bits] at h
  omega
/-- What a slice of pairs that is handed in holds. -/
theorem openPairs {H : Type} {enc : TypeId × Value → H} {W : World} {k : IntKind} {t e f : TypeId} {n0 n1 g0 g1 k0 k1 : String} {b0 b1 : Nat} (ht : Try.prog.underlying t = some (.slice e))
    (he : Try.prog.underlying e = some (.struct #[{ name := n0, type := 26, offset := 0, embedded := false, tag := g0, pkgPath := k0, byteOffset := b0 }, { name := n1, type := f, offset := 1, embedded := false, tag := g1, pkgPath := k1, byteOffset := b1 }]))
    (ce : Try.prog.cellsOf e = 2) (cf : Try.prog.cellsOf f = 1) (hf : Try.prog.underlying f = some (.int k)) {fuel : Nat} {v : Value} {x : DataW H × List MemPlace}
    (h : DataW.trod enc Try.prog W 0 (fun _ => true) true fuel t [v] = some x) :
    ∃ xs : List (Nat × Int), Sl k W v xs ∧ (∀ y ∈ xs, y.1 < 18446744073709551616) ∧ (∀ y ∈ xs, (Lit.int k y.2).wf = true) := by
  rcases Deep.open_slice_pairs ht he ce rfl rfl hcells26 cf h with ⟨hv, _⟩ | ⟨a, len, cap, m, n, V0, V1, D0, D1, P0, P1, hv, _, hl, hc, hm, _, hx⟩
  · simp at hv; subst hv
    exact ⟨[], ⟨none, 0, rfl, by simp, by omega, fun _ => rfl, fun i hi => by simp at hi⟩, by simp, by simp⟩
  simp at hv; subst hv
  have hlm : len ≤ m := by rw [hm]; simpa using hl
  have each : ∀ i, i < len → W.cell? (a.add (i * 2)) = some (.int .u64 (((intOf (V0 i)).toNat : Nat) : Int)) ∧ W.cell? (a.add (i * 2 + 1)) = some (.int k (intOf (V1 i))) ∧ (intOf (V0 i)).toNat < 18446744073709551616 ∧ (Lit.int k (intOf (V1 i))).wf = true := by
    intro i hi
    obtain ⟨c0, c1, t0, t1⟩ := hx i (by omega)
    obtain ⟨z0, e0, _, w0⟩ := DataW.trod_int Try.underlying26 t0
    obtain ⟨z1, e1, _, w1⟩ := DataW.trod_int hf t1
    simp at e0 e1
    obtain ⟨l0, l1⟩ := bounds_w w0
    rw [e0] at c0 ⊢
    rw [e1] at c1 ⊢
    refine ⟨?_, c1, ?_, w1⟩
    · rw [c0]; simp only [intOf]; rw [Int.toNat_of_nonneg l0]
    · simp only [intOf]; omega
  refine ⟨(List.range len).map (fun i => ((intOf (V0 i)).toNat, intOf (V1 i))), ⟨some a, cap, by simp, by simpa using hl, by unfold maxLen at hc; omega, by simp, fun i hi => ?_⟩, ?_, ?_⟩
  · simp at hi
    obtain ⟨c0, c1, _, _⟩ := each i hi
    have ha := spot_none (each 0 (by omega)).1
    rw [show a.add (0 * 2) = a by rfl] at ha
    refine ⟨a.block, a.off, by rw [← ha], ?_, ?_⟩
    · rw [ha, add_pl] at c0
      simpa using c0
    · rw [ha, add_pl, ← Nat.add_assoc] at c1
      simpa using c1
  · intro y hy
    simp at hy
    obtain ⟨i, hi, rfl⟩ := hy
    exact (each i hi).2.2.1
  · intro y hy
    simp at hy
    obtain ⟨i, hi, rfl⟩ := hy
    exact (each i hi).2.2.2
theorem list2 {α : Type} (l : List α) (h : (⟨l⟩ : Array α).size = 2) : ∃ a b, l = [a, b] := by
  match l, h with
  | [a, b], _ => exact ⟨a, b, rfl⟩
/-- What a memory that is handed in holds. -/
theorem openHost {H : Type} {enc : TypeId × Value → H} {W : World} {base : Nat} {v : Value} {d : DataW H} {p : List MemPlace} (hv : Value.okWide Try.prog W .any base 25 v) (h : DataW.Trod enc Try.prog W 0 (fun _ => true) true 25 v d p) :
    ∃ vm vc ms cs, v = .agg #[vm, vc] ∧ Sl .i64 W vm ms ∧ Sl .u64 W vc cs ∧ (∀ y ∈ ms, y.1 < 18446744073709551616) ∧ (∀ y ∈ cs, y.1 < 18446744073709551616) ∧ Words cs ∧ (∀ y ∈ ms, -9223372036854775808 ≤ y.2 ∧ y.2 ≤ 9223372036854775807) := by
  obtain ⟨cs, rfl, hsz, _⟩ : ∃ cs, v = .agg cs ∧ cs.size = Try.prog.cellsOf 25 ∧ Row.okWide Try.prog W .any base 25 cs := by
    simpa [Value.okWide, Try.underlying25] using hv
  rw [hcells25] at hsz
  obtain ⟨l⟩ := cs
  obtain ⟨vm, vc, rfl⟩ := list2 l hsz
  obtain ⟨fuel, hf⟩ := h
  obtain ⟨y0, y1, n, _, _, h0, h1⟩ := trod_struct2 Try.underlying25 hf
  simp [hcells22, hcells23, Value.cells] at h0 h1
  obtain ⟨ms, s1, r1, q1⟩ := openPairs Try.underlying22 Try.underlying80 hcells54 hcells3 Try.underlying3 h0
  obtain ⟨cs, s2, r2, q2⟩ := openPairs Try.underlying23 Try.underlying85 hcells58 hcells26 Try.underlying26 h1
  exact ⟨vm, vc, ms, cs, rfl, s1, s2, r1, r2, fun y hy => bounds_w (q2 y hy), fun y hy => bounds_i64 (q1 y hy)⟩
end Go.Proofs.Ytdhjmghfiodifaa
namespace Go.Proofs.Ytdhjmghfiodifaa
open Go.ChangeShapes Go.WideShapes Go.ChangeAt Go.RowKit
set_option linter.unusedVariables false
set_option linter.unusedSimpArgs false
set_option maxRecDepth 100000
theorem hcells29 : Try.prog.cellsOf 29 = 4 := by kernel_rfl
theorem hcells27 : Try.prog.cellsOf 27 = 1 := by kernel_rfl
theorem hcells46 : Try.prog.cellsOf 53 = 2 := by kernel_rfl
theorem hcells30 : Try.prog.cellsOf 30 = 1 := by kernel_rfl
theorem bounds_u32 {n : Int} (h : (Lit.int .u32 n).wf = true) : 0 ≤ n ∧ n < 4294967296 := by
  simp [Lit.wf, IntKind.min, IntKind.max, IntKind.signed, IntKind.bits] at h
  omega
/-- What a slice of pages that is handed in holds. -/
theorem openPg {H : Type} {enc : TypeId × Value → H} {W : World} {k : IntKind} {t e f : TypeId} {n0 n1 g0 g1 k0 k1 : String} {b0 b1 : Nat} (ht : Try.prog.underlying t = some (.slice e))
    (he : Try.prog.underlying e = some (.struct #[{ name := n0, type := 30, offset := 0, embedded := false, tag := g0, pkgPath := k0, byteOffset := b0 }, { name := n1, type := f, offset := 1, embedded := false, tag := g1, pkgPath := k1, byteOffset := b1 }]))
    (ce : Try.prog.cellsOf e = 2) (cf : Try.prog.cellsOf f = 1) (hf : Try.prog.underlying f = some (.int k)) {fuel : Nat} {v : Value} {x : DataW H × List MemPlace}
    (h : DataW.trod enc Try.prog W 0 (fun _ => true) true fuel t [v] = some x) :
    ∃ xs : List (Nat × Int), Pg.Sl k W v xs ∧ (∀ y ∈ xs, y.1 < 4294967296) ∧ (∀ y ∈ xs, (Lit.int k y.2).wf = true) := by
  rcases Deep.open_slice_pairs ht he ce rfl rfl hcells30 cf h with ⟨hv, _⟩ | ⟨a, len, cap, m, n, V0, V1, D0, D1, P0, P1, hv, _, hl, hc, hm, _, hx⟩
  · simp at hv; subst hv
    exact ⟨[], ⟨none, 0, rfl, by simp, by omega, fun _ => rfl, fun i hi => by simp at hi⟩, by simp, by simp⟩
  simp at hv; subst hv
  have hlm : len ≤ m := by rw [hm]; simpa using hl
  have each : ∀ i, i < len → W.cell? (a.add (i * 2)) = some (.int .u32 (((intOf (V0 i)).toNat : Nat) : Int)) ∧ W.cell? (a.add (i * 2 + 1)) = some (.int k (intOf (V1 i))) ∧ (intOf (V0 i)).toNat < 4294967296 ∧ (Lit.int k (intOf (V1 i))).wf = true := by
    intro i hi
    obtain ⟨c0, c1, t0, t1⟩ := hx i (by omega)
    obtain ⟨z0, e0, _, w0⟩ := DataW.trod_int Try.underlying30 t0
    obtain ⟨z1, e1, _, w1⟩ := DataW.trod_int hf t1
    simp at e0 e1
    obtain ⟨l0, l1⟩ := bounds_u32 w0
    rw [e0] at c0 ⊢
    rw [e1] at c1 ⊢
    refine ⟨?_, c1, ?_, w1⟩
    · rw [c0]; simp only [intOf]; rw [Int.toNat_of_nonneg l0]
    · simp only [intOf]; omega
  refine ⟨(List.range len).map (fun i => ((intOf (V0 i)).toNat, intOf (V1 i))), ⟨some a, cap, by simp, by simpa using hl, by unfold maxLen at hc; omega, by simp, fun i hi => ?_⟩, ?_, ?_⟩
  · simp at hi
    obtain ⟨c0, c1, _, _⟩ := each i hi
    have ha := spot_none (each 0 (by omega)).1
    rw [show a.add (0 * 2) = a by rfl] at ha
    refine ⟨a.block, a.off, by rw [← ha], ?_, ?_⟩
    · rw [ha, add_pl] at c0
      simpa using c0
    · rw [ha, add_pl, ← Nat.add_assoc] at c1
      simpa using c1
  · intro y hy
    simp at hy
    obtain ⟨i, hi, rfl⟩ := hy
    exact (each i hi).2.2.1
  · intro y hy
    simp at hy
    obtain ⟨i, hi, rfl⟩ := hy
    exact (each i hi).2.2.2
theorem list4 {α : Type} (l : List α) (h : (⟨l⟩ : Array α).size = 4) : ∃ a b c d, l = [a, b, c, d] := by
  match l, h with
  | [a, b, c, d], _ => exact ⟨a, b, c, d, rfl⟩
/-- What a guest's memory that is handed in holds. -/
theorem openGuest {H : Type} {enc : TypeId × Value → H} {W : World} {base : Nat} {v : Value} {d : DataW H} {p : List MemPlace} (hv : Value.okWide Try.prog W .any base 29 v) (h : DataW.Trod enc Try.prog W 0 (fun _ => true) true 29 v d p) :
    ∃ vm vc vp ms cs ps, ∃ bs : Nat, v = .agg #[vm, vc, .int .u64 (bs : Int), vp] ∧ SlG W vm vc vp ms cs ps ∧ (∀ y ∈ cs, y.1 < 18446744073709551616) ∧ Words cs ∧ bs < 18446744073709551616 ∧ (∀ y ∈ ps, y.1 < 4294967296) := by
  obtain ⟨cs, rfl, hsz, _⟩ : ∃ cs, v = .agg cs ∧ cs.size = Try.prog.cellsOf 29 ∧ Row.okWide Try.prog W .any base 29 cs := by
    simpa [Value.okWide, Try.underlying29] using hv
  rw [hcells29] at hsz
  obtain ⟨l⟩ := cs
  obtain ⟨vm, vc, vb, vp, rfl⟩ := list4 l hsz
  obtain ⟨fuel, hf⟩ := h
  obtain ⟨y0, y1, y2, n, _, _, h0, h1, h2⟩ := Deep.trod_struct3 Try.underlying29 hf
  simp [hcells25, hcells26, hcells27, Value.cells] at h0 h1 h2
  obtain ⟨z0, z1, n', _, _, g0, g1⟩ := trod_struct2 Try.underlying25 h0
  simp [hcells22, hcells23] at g0 g1
  obtain ⟨ms, s1, r1, q1⟩ := openPairs Try.underlying22 Try.underlying80 hcells54 hcells3 Try.underlying3 g0
  obtain ⟨cs, s2, r2, q2⟩ := openPairs Try.underlying23 Try.underlying85 hcells58 hcells26 Try.underlying26 g1
  obtain ⟨b, e1, _, w1⟩ := DataW.trod_int Try.underlying26 h1
  obtain ⟨ps, s3, r3, q3⟩ := openPg Try.underlying27 Try.underlying53 hcells46 hcells3 Try.underlying3 h2
  simp at e1
  subst e1
  obtain ⟨b1, b2⟩ := bounds_w w1
  obtain ⟨bs, rfl⟩ := Int.eq_ofNat_of_zero_le b1
  exact ⟨vm, vc, vp, ms, cs, ps, bs, rfl, ⟨s1, s2, s3⟩, r2, fun y hy => bounds_w (q2 y hy), by omega, r3⟩
end Go.Proofs.Ytdhjmghfiodifaa
