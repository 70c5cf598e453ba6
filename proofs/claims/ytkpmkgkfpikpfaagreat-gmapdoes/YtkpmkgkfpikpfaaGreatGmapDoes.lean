/- Proved: for every space and all numbers the law GmapDoes answers true (spaces with bytes mapped, taken away, or others allowed, and with the heap's end moved, and which can be, are the document's, and stay fit); no conditions. -/
import Derived.Test.YtkpmkgkfpikpfaaGreatRows
import Derived.Test.YtkpmkgkfpikpfaaGreatGopen
import Derived.Test.YtkpmkgkfpikpfaaGreatSvq
import Derived.WalkKit
import Derived.ProofKit
import Derived.OpenShut
import Derived.ChangeOld
import Derived.Below
namespace Go.Proofs.YtkpmkgkfpikpfaaGreat.gmapDoes
open Go.ChangeShapes Go.WideShapes Go.ChangeAt Go.RowKit
open Go.ChangeMaps (open_string shut_string)
set_option linter.unusedVariables false

theorem own : ownKnob Tryz.prog.godebug = none := by kernel_rfl
theorem laidOut : laidOutB Tryz.prog = true := by kernel_rfl

set_option maxRecDepth 100000 in
theorem lifted (os : Os) (started : os.Started) (H : Type) (enc : TypeId × Value → H) :
  ReturnsInHanded {} Tryz.checked os 3 .any (Rows.gmapDoesSpec.pre6 enc Tryz.prog Tryz.f3 Rows.gmapDoesRow.domain false) (Rows.gmapDoesSpec.post enc Tryz.prog Tryz.f3 false true false false) := by
 refine returnsInHanded_of_change (C := Tryz.checked) own started (by kernel_rfl) Tryz.func3
  (ChangeSpec.witness6 (enc := enc) (C := Tryz.checked) false ⟨#[], #[.agg #[.slice none 0 0, .slice none 0 0, .int .u64 0, .slice none 0 0, .int .u32 0, .int .u32 0], .int .u32 0, .int .u32 0, .int .i64 0, .bool false], []⟩ 8 (by kernel_rfl) (by kernel_rfl) (by kernel_rfl) (by kernel_rfl)) ?_
 intro W base args ds gs before hval0 hW hcnd _
 have hval : ∀ (j : Nat) t v, Tryz.f3.params[j]? = some t → args[j]? = some v → Value.okWide Tryz.prog W .any base t v := hval0
 have hW' := hW
 obtain ⟨p, q, hA0, hV, rfl, hfz, hnd⟩ := hW
 have hA : DataW.TrodAll enc Tryz.prog W 0 (fun _ => true) true Tryz.f3.params.toList args.toList ds p := hA0
 rw [Tryz.params3] at hA hval
 obtain ⟨v0, vs0, d0, ds0, p0, q0, hargs, rfl, rfl, h0, r0⟩ := trodAll_cons hA
 obtain ⟨v1, vs1, d1, ds1, p1, q1, rfl, rfl, rfl, h1, r1⟩ := trodAll_cons r0
 obtain ⟨v2, vs2, d2, ds2, p2, q2, rfl, rfl, rfl, h2, r2⟩ := trodAll_cons r1
 obtain ⟨v3, vs3, d3, ds3, p3, q3, rfl, rfl, rfl, h3, r3⟩ := trodAll_cons r2
 obtain ⟨v4, vs4, d4, ds4, p4, q4, rfl, rfl, rfl, h4, r4⟩ := trodAll_cons r3
 obtain ⟨rfl, rfl, rfl⟩ := trodAll_nil r4
 obtain rfl : args = #[v0, v1, v2, v3, v4] := by cases args; simp_all
 obtain ⟨rfl, rfl⟩ := trodVars_none hV
 obtain ⟨m0, c0, g0, ms0, cs0, ps0, bs0, st0, en0, rfl, sg0, rc0, ww0, bb0, pn0, sb0, eb0⟩ := openSpace (hval 0 32 v0 rfl rfl) h0
 obtain ⟨x1, hv1, _, _, wf1⟩ := open_int Tryz.underlying30 (hval 1 30 v1 rfl rfl) h1
 subst hv1
 obtain ⟨b1, b1'⟩ := bounds_u32 wf1
 obtain ⟨y1, rfl⟩ := Int.eq_ofNat_of_zero_le b1
 have yb1 : y1 < 4294967296 := by omega
 obtain ⟨x2, hv2, _, _, wf2⟩ := open_int Tryz.underlying30 (hval 2 30 v2 rfl rfl) h2
 subst hv2
 obtain ⟨b2, b2'⟩ := bounds_u32 wf2
 obtain ⟨y2, rfl⟩ := Int.eq_ofNat_of_zero_le b2
 have yb2 : y2 < 4294967296 := by omega
 obtain ⟨x3, hv3, _, _, wf3⟩ := open_int Tryz.underlying3 (hval 3 3 v3 rfl rfl) h3
 subst hv3
 obtain ⟨b3, b3'⟩ := bounds_i64 wf3
 obtain ⟨x4, hv4, _, _⟩ := open_bool Tryz.underlying4 (hval 4 4 v4 rfl rfl) h4
 subst hv4
 have lt0 : ∀ x ∈ p0, x.block < W.heap.size := by obtain ⟨m, hm⟩ := h0; exact DataW.trod_lt m _ _ _ hm
 have lt1 : ∀ x ∈ p1, x.block < W.heap.size := by obtain ⟨m, hm⟩ := h1; exact DataW.trod_lt m _ _ _ hm
 have lt2 : ∀ x ∈ p2, x.block < W.heap.size := by obtain ⟨m, hm⟩ := h2; exact DataW.trod_lt m _ _ _ hm
 have lt3 : ∀ x ∈ p3, x.block < W.heap.size := by obtain ⟨m, hm⟩ := h3; exact DataW.trod_lt m _ _ _ hm
 have lt4 : ∀ x ∈ p4, x.block < W.heap.size := by obtain ⟨m, hm⟩ := h4; exact DataW.trod_lt m _ _ _ hm
 clear hA0 hval0
 refine (does_walk m0 c0 g0 ms0 cs0 ps0 bs0 st0 en0 W sg0 rc0 ww0 bb0 pn0 sb0 eb0 y1 y2 x3 x4 yb1 yb2).mono fun e W' ⟨he, bel⟩ => ?_
 subst he
 exact ⟨_, rfl, _, _, _, [], _, [], hW', trodAll_mk1 (shut_bool Tryz.underlying4 _), (trodAll_cons_mk (Below.trod laidOut (by kernel_rfl) (of_decide_eq_true (by kernel_rfl)) h0 bel lt0) (trodAll_cons_mk (Below.trod laidOut (by kernel_rfl) (of_decide_eq_true (by kernel_rfl)) h1 bel lt1) (trodAll_cons_mk (Below.trod laidOut (by kernel_rfl) (of_decide_eq_true (by kernel_rfl)) h2 bel lt2) (trodAll_cons_mk (Below.trod laidOut (by kernel_rfl) (of_decide_eq_true (by kernel_rfl)) h3 bel lt3) (trodAll_cons_mk (Below.trod laidOut (by kernel_rfl) (of_decide_eq_true (by kernel_rfl)) h4 bel lt4) trodAll_mk0))))), rfl, bel.frame _, fun h => by cases h⟩

theorem over : Rows.gmapDoesRow.holds Tryz.pinned (OpenSpec.ofChange Rows.gmapDoesSpec) :=
 OpenClaim.holds_of_wide 3 Tryz.f3 rfl rfl rfl rfl rfl rfl rfl ⟨rfl, rfl, rfl, rfl, rfl⟩ rfl rfl rfl rfl rfl (by kernel_rfl) Tryz.func3 (by kernel_rfl)
  (of_decide_eq_true (by kernel_rfl)) (by unfold Func.isWrapper; first | (rw [if_pos (by decide +kernel)]; kernel_rfl) | (rw [if_neg (by decide +kernel)]; exact ⟨rfl, rfl⟩))
  (fun os started H enc _ => lifted os started H enc)

end Go.Proofs.YtkpmkgkfpikpfaaGreat.gmapDoes
namespace Go.Proofs.YtkpmkgkfpikpfaaGreat
theorem gmapDoes_holds : Rows.GmapDoesSaid := gmapDoes.over
end Go.Proofs.YtkpmkgkfpikpfaaGreat
