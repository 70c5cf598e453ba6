/- What is proved here: chapter 3's example. -/
import Derived.Test.YtolmcbnammhjjaaMapOk
import Derived.Test.YtolmcbnammhjjaaStoreF
import Derived.Test.YtolmcbnammhjjaaLoad
import Derived.OneCell
namespace Go.Proofs.Ytolmcbnammhjjaa
open Go.RowKit
set_option linter.unusedVariables false
theorem OwnH.new {B : Nat} {w0 w : World} {vm vc : Value} {ms cs : List (Nat × Int)} (h : OwnH B w vm vc ms cs) (h0 : OwnH B w0 vm vc ms cs) {a : Addr} (ha : w0.heap.size ≤ a.block) (u : Value) : OwnH B (w.setCell a u) vm vc ms cs :=
  ⟨ownsRow_setCell_other h.1 (fun e => by have := (h0.1.lt _ e).2; omega) u, ownsRow_setCell_other h.2 (fun e => by have := (h0.2.lt _ e).2; omega) u⟩
theorem sl_nil (k : IntKind) (w : World) : Sl k w (.slice none 0 0) [] := ⟨none, 0, rfl, by simp, by omega, fun _ => rfl, fun i hi => by simp at hi⟩
theorem aw_ff1 : faultFrom [(2, 3)] 49151 2 0 2 = (1, 49152) := by decide
theorem aw_ff2 : faultFrom [(2, 3)] 32768 2 0 2 = (0, 0) := by decide
theorem aw_ff3 : faultFrom [(2, 3)] 32768 1 0 1 = (0, 0) := by decide
theorem aw_st : storeN [] 32768 2 258 = [(32768, 258)] := by decide
theorem aw_ld : loadN [(32768, 258)] 32768 1 = 2 := by decide
theorem aw_map : lo [] 2 ++ added 2 3 1 ++ hi [] (2 + 1 - 1) = [(2, 3)] := by decide
set_option maxHeartbeats 4000000 in
theorem awake13 (w : World) : Calls Try.prog 13 #[] w fun e w' => e = .returned (.bool true) ∧ Below w.heap.size w w' := by
  have K14 : Hid (Calls Try.prog 14 #[.agg #[.slice none 0 0, .slice none 0 0], .int .u64 2, .int .u64 1, .int .i64 3] w fun e w' => ∃ vm' vc', e = .returned (.tuple #[.agg #[vm', vc'], .int .i64 0]) ∧ OwnH w.heap.size w' vm' vc' [(2, 3)] [] ∧ Below w.heap.size w w') := by
    have h := map14_ok (.slice none 0 0) (.slice none 0 0) [] [] 2 1 3 w (sl_nil _ _) (sl_nil _ _) (by simp) (by simp) List.Pairwise.nil (by decide) (by decide) (by decide) (by simp)
    rw [aw_map] at h
    exact h
  have K22f : Hid (∀ B vm vc w1, OwnH B w1 vm vc [(2, 3)] [] → Calls Try.prog 22 #[.agg #[vm, vc], .int .u64 49151, .int .i64 2, .int .u64 258] w1 fun e w' => ∃ vm' vc', e = .returned (.tuple #[.agg #[vm', vc'], .agg #[.int .i64 1, .int .u64 49152]]) ∧ OwnH w1.heap.size w' vm' vc' [(2, 3)] [] ∧ Below w1.heap.size w1 w') := fun B vm vc w1 ho => by
    have h := store22_fault vm vc [(2, 3)] [] 49151 2 258 w1 ho.m ho.c (List.pairwise_singleton _ _) (by simp) (by simp) (by omega) (by omega) (by omega) (by rw [aw_ff1]; decide)
    rw [aw_ff1] at h
    exact h
  have K22 : Hid (∀ B vm vc w1, OwnH B w1 vm vc [(2, 3)] [] → Calls Try.prog 22 #[.agg #[vm, vc], .int .u64 32768, .int .i64 2, .int .u64 258] w1 fun e w' => ∃ vm' vc', e = .returned (.tuple #[.agg #[vm', vc'], .agg #[.int .i64 0, .int .u64 0]]) ∧ OwnH w1.heap.size w' vm' vc' [(2, 3)] [(32768, 258)] ∧ Below w1.heap.size w1 w') := fun B vm vc w1 ho => by
    have h := store22_ok vm vc [(2, 3)] [] 32768 2 258 w1 ho.m ho.c (List.pairwise_singleton _ _) List.Pairwise.nil (by simp) (by simp) (fun x hx => by simp at hx) (by omega) (by omega) (by omega) (by omega) (by rw [aw_ff2])
    rw [aw_st] at h
    exact h
  have K20 : Hid (∀ B vm vc w1, OwnH B w1 vm vc [(2, 3)] [(32768, 258)] → Calls Try.prog 20 #[.agg #[vm, vc], .int .u64 32768, .int .i64 1] w1 fun e w' => e = .returned (.tuple #[.int .u64 2, .agg #[.int .i64 0, .int .u64 0]]) ∧ Below w1.heap.size w1 w') := fun B vm vc w1 ho => by
    have h := load20_ok vm vc [(2, 3)] [(32768, 258)] 32768 1 w1 ho.m ho.c (List.pairwise_singleton _ _) (List.pairwise_singleton _ _) (by simp) (by simp) (fun x hx => by simp at hx; subst hx; decide) (by omega) (by omega) (by omega) (by rw [aw_ff3])
    rw [aw_ld] at h
    exact h
  go_enter Try.func13, Try.ntmps13
  go_wp2_with fail
  refine K14.out.mono ?_
  rintro e w1 ⟨vm, vc, rfl, ho1, hb1⟩
  obtain ⟨am, nm, pm, ac, nc, pc, rfl, rfl⟩ := ho1.shape
  obtain ⟨W2, hW2, hb2, hsz2, d0, d1, f0, f1⟩ := box2 w1 (.slice am nm pm) (.slice ac nc pc) 25
  have f0 : Free W2 ⟨w1.heap.size, 0, none⟩ := ⟨⟨_, d0⟩, f0⟩
  have f1 : Free W2 ⟨w1.heap.size, 1, none⟩ := ⟨⟨_, d1⟩, f1⟩
  go_wp2_with fail
  refine (K22f.out _ _ _ W2 (ho1.keep hb2)).mono ?_
  rintro e w3 ⟨vm3, vc3, rfl, ho3, hb3⟩
  obtain ⟨am3, nm3, pm3, ac3, nc3, pc3, rfl, rfl⟩ := ho3.shape
  obtain ⟨X4, hX4, hx4, hszx, _, _, _, _⟩ := box2 w3 (.slice am3 nm3 pm3) (.slice ac3 nc3 pc3) 25
  obtain ⟨W4, hW4, hb4, hsz4, g0, g1, _, _⟩ := box2 X4 (.int .i64 1) (.int .u64 49152) 39
  rw [hszx] at g0 g1 hsz4
  have hb4 := below_tr hx4 hb4
  have d0 := keep_cell hb4 (keep_cell hb3 d0)
  have d1 := keep_cell hb4 (keep_cell hb3 d1)
  have f0 := (f0.keep hb3).keep hb4
  have f1 := (f1.keep hb3).keep hb4
  have ho4 := ((ho1.keep hb2).keep hb3).keep hb4
  go_wp2_with fail
  refine (K22.out _ _ _ W4 ho4).mono ?_
  rintro e w5 ⟨vm5, vc5, rfl, ho5, hb5⟩
  obtain ⟨am5, nm5, pm5, ac5, nc5, pc5, rfl, rfl⟩ := ho5.shape
  obtain ⟨W6, hW6, hb6, hsz6, k0, k1, kf0, kf1⟩ := box2 w5 (.int .i64 0) (.int .u64 0) 39
  have d0 := keep_cell hb6 (keep_cell hb5 d0)
  have d1 := keep_cell hb6 (keep_cell hb5 d1)
  have g0 := keep_cell hb6 (keep_cell hb5 g0)
  have g1 := keep_cell hb6 (keep_cell hb5 g1)
  have f0 := (f0.keep hb5).keep hb6
  have f1 := (f1.keep hb5).keep hb6
  have q0 := f0.frozen
  have q1 := f1.frozen
  have HS : Hid (w1.heap.size < w3.heap.size ∧ w3.heap.size + 1 < w5.heap.size) := by
    have h1 := hb3.size
    have h2 := hb5.size
    show _ ∧ _
    omega
  have n1 : w1.heap.size ≠ w5.heap.size := by have := HS.out; omega
  have n2 : w5.heap.size ≠ w1.heap.size := by have := HS.out; omega
  have hbase : w1.heap.size < W4.heap.size := by have := HS.out; omega
  obtain ⟨W7, hW7⟩ : ∃ W7, (((W6.setCell ⟨w1.heap.size, 0, none⟩ (.slice am5 nm5 pm5)).setCell ⟨w1.heap.size, 1, none⟩ (.slice ac5 nc5 pc5)).setCell ⟨w5.heap.size, 0, none⟩ (.int .i64 0)).setCell ⟨w5.heap.size, 1, none⟩ (.int .u64 0) = W7 := ⟨_, rfl⟩
  obtain ⟨p0, p1, p2, p3⟩ := res4 W6 w1.heap.size w5.heap.size (.slice am5 nm5 pm5) (.slice ac5 nc5 pc5) (.int .i64 0) (.int .u64 0) n1 f0 f1 ⟨⟨_, k0⟩, kf0⟩ ⟨⟨_, k1⟩, kf1⟩
  have ho7 : OwnH W4.heap.size W7 (.slice am5 nm5 pm5) (.slice ac5 nc5 pc5) [(2, 3)] [(32768, 258)] := by
    rw [← hW7]
    exact ((((ho5.keep hb6).set (by simpa using hbase) _).set (by simpa using hbase) _).new ho5 (by simp) _).new ho5 (by simp) _
  have hb7 : Below w.heap.size w W7 := by
    have hbw6 : Below w.heap.size w W6 := below_tr (below_tr (below_tr (below_tr (below_tr hb1 hb2) hb3) hb4) hb5) hb6
    have hz1 := hb1.size
    have hz2 := HS.out
    rw [← hW7]
    exact below_set (below_set (below_set (below_set hbw6 (by simp; omega) _) (by simp; omega) _) (by simp; omega) _) (by simp; omega) _
  have g0 : W7.cell? ⟨w3.heap.size + 1, 0, none⟩ = some (.int .i64 1) := by
    have hz2 := HS.out
    rw [← hW7]
    exact cell_far (cell_far (cell_far (cell_far g0 (by simp; omega) _) (by simp; omega) _) (by simp; omega) _) (by simp; omega) _
  have g1 : W7.cell? ⟨w3.heap.size + 1, 1, none⟩ = some (.int .u64 49152) := by
    have hz2 := HS.out
    rw [← hW7]
    exact cell_far (cell_far (cell_far (cell_far g1 (by simp; omega) _) (by simp; omega) _) (by simp; omega) _) (by simp; omega) _
  rw [hW7] at p0 p1 p2 p3
  go_wp2_with fail
  refine (K20.out _ _ _ W7 ho7).mono ?_
  rintro e w8 ⟨rfl, hb8⟩
  have n8 : w5.heap.size < w8.heap.size := Nat.lt_of_lt_of_le (World.block_lt_of_cell? W7 _ p3) hb8.size
  obtain ⟨W9, hW9, hb9, hsz9, l0, l1, lf0, lf1⟩ := box2 w8 (.int .i64 0) (.int .u64 0) 39
  have g0 := keep_cell hb9 (keep_cell hb8 g0)
  have g1 := keep_cell hb9 (keep_cell hb8 g1)
  have p2 := keep_cell hb9 (keep_cell hb8 p2)
  have p3 := keep_cell hb9 (keep_cell hb8 p3)
  have hbw := below_tr (below_tr hb7 hb8) hb9
  obtain ⟨W10, hW10⟩ : ∃ W10, (W9.setCell ⟨w8.heap.size, 0, none⟩ (.int .i64 0)).setCell ⟨w8.heap.size, 1, none⟩ (.int .u64 0) = W10 := ⟨_, rfl⟩
  obtain ⟨o0, o1⟩ := res2 W9 w8.heap.size (.int .i64 0) (.int .u64 0) ⟨⟨_, l0⟩, lf0⟩ ⟨⟨_, l1⟩, lf1⟩
  have g0 : W10.cell? ⟨w3.heap.size + 1, 0, none⟩ = some (.int .i64 1) := by
    have hz2 := HS.out
    rw [← hW10]
    exact cell_far (cell_far g0 (by simp; omega) _) (by simp; omega) _
  have g1 : W10.cell? ⟨w3.heap.size + 1, 1, none⟩ = some (.int .u64 49152) := by
    have hz2 := HS.out
    rw [← hW10]
    exact cell_far (cell_far g1 (by simp; omega) _) (by simp; omega) _
  have p2 : W10.cell? ⟨w5.heap.size, 0, none⟩ = some (.int .i64 0) := by
    rw [← hW10]
    exact cell_far (cell_far p2 (by simp; omega) _) (by simp; omega) _
  have p3 : W10.cell? ⟨w5.heap.size, 1, none⟩ = some (.int .u64 0) := by
    rw [← hW10]
    exact cell_far (cell_far p3 (by simp; omega) _) (by simp; omega) _
  have hbw : Below w.heap.size w W10 := by
    have hz1 := hb1.size
    have hz2 := HS.out
    rw [← hW10]
    exact below_set (below_set hbw (by simp; omega) _) (by simp; omega) _
  rw [hW10] at o0 o1
  go_wp2
  go_ret
  exact ⟨rfl, hbw⟩
end Go.Proofs.Ytolmcbnammhjjaa
