/- What is proved here: three new variables of one kind, in whatever order they are laid. -/
import Derived.Test.YtgdflobcbhnimaaGreatPkd
import Derived.Test.YtgdflobcbhnimaaGreatSx
namespace Go.Proofs.YtgdflobcbhnimaaGreat
open Go.RowKit 
set_option linter.unusedVariables false
set_option linter.unusedSimpArgs false
set_option maxRecDepth 100000
def Z41 : Array Value := #[.int .i64 0, .int .u32 0, .int .u32 0, .int .u32 0, .int .u32 0, .int .i64 0, .int .u32 0]
theorem run_new41 {ρ : Operand → Value} {o : Oper} {w : World} (ho : o.op = .alloc 41) : (execOp ρ o).run Tryz.prog w = .ok (.value (.pointer (some ⟨w.heap.size, 0, none⟩))) (w.alloc (.cells Z41 41)) := by
  unfold execOp; rw [ho]; simp [go_sem, Z41]
theorem wpOp_new {ops : Array Oper} {Q : Exit → Act → World → Prop} {i d : Nat} {o : Oper} {K : Act → World → Prop} {a : Act} {w : World} (ho : ops[i]? = some o) (hgd : o.guard = none) (hd : o.dst = some d) (hop : o.op = .alloc 41)
    (h : K (a.put (some d) (.pointer (some ⟨w.heap.size, 0, none⟩))) (w.alloc (.cells Z41 41))) : wpOp Tryz.prog ops Q i K a w := by
  refine wpOp_step ho ?_
  intro K' hK
  simp only [Region.wanted, hgd, if_true]
  unfold Oper.wp
  rw [run_new41 hop, Oper.upon_value, hd]
  exact hK _ _ h
theorem below_new (w : World) : Below w.heap.size w (w.alloc (.cells Z41 41)) := (Below.refl _ _).alloc (Nat.le_refl _) _
theorem size_new (w : World) : (w.alloc (.cells Z41 41)).heap.size = w.heap.size + 1 := by unfold World.alloc; simp
theorem put2 (a : Act) {d e : Nat} (h : d ≠ e) (u v : Value) : (a.put (some d) u).put (some e) v = (a.put (some e) v).put (some d) u := by
  unfold Act.put; simp only [Act.mk.injEq, and_true]; exact Array.setIfInBounds_comm _ _ h
/-- Three new variables of type 41, laid in whatever order. -/
theorem wpAnyH_new3 {md : Region.Mode} {ops : Array Oper} {Q : Exit → Act → World → Prop} {S : World → Prop} {i j k di dj dk : Nat} {oi oj ok : Oper} {fuel : Nat} {listed : Array Bool} {a : Act} {w : World}
    (hi : ops[i]? = some oi) (gi : oi.guard = none) (ti : oi.dst = some di) (pi : oi.op = .alloc 41)
    (hj : ops[j]? = some oj) (gj : oj.guard = none) (tj : oj.dst = some dj) (pj : oj.op = .alloc 41)
    (hk : ops[k]? = some ok) (gk : ok.guard = none) (tk : ok.dst = some dk) (pk : ok.op = .alloc 41)
    (nij : i ≠ j) (nik : i ≠ k) (njk : j ≠ k) (mij : di ≠ dj) (mik : di ≠ dk) (mjk : dj ≠ dk)
    (r0 : Region.ready md ops listed = [i, j, k])
    (ri : Region.ready md ops (listed.setIfInBounds i true) = [j, k]) (rj : Region.ready md ops (listed.setIfInBounds j true) = [i, k]) (rk : Region.ready md ops (listed.setIfInBounds k true) = [i, j])
    (rij : Region.ready md ops ((listed.setIfInBounds i true).setIfInBounds j true) = [k]) (rik : Region.ready md ops ((listed.setIfInBounds i true).setIfInBounds k true) = [j]) (rjk : Region.ready md ops ((listed.setIfInBounds j true).setIfInBounds k true) = [i])
    (hS : ∀ w', Below w.heap.size w w' → S w')
    (h : ∀ bi bj bk w', Below w.heap.size w w' → bi ≠ bj → bi ≠ bk → bj ≠ bk → w.heap.size ≤ bi → w.heap.size ≤ bj → w.heap.size ≤ bk →
      w'.heap[bi]? = some (.cells Z41 41 (0, 0)) → w'.heap[bj]? = some (.cells Z41 41 (0, 0)) → w'.heap[bk]? = some (.cells Z41 41 (0, 0)) →
      wpAnyH Tryz.prog md ops Q S fuel (((listed.setIfInBounds i true).setIfInBounds j true).setIfInBounds k true) (((a.put (some di) (.pointer (some ⟨bi, 0, none⟩))).put (some dj) (.pointer (some ⟨bj, 0, none⟩))).put (some dk) (.pointer (some ⟨bk, 0, none⟩))) w') :
    wpAnyH Tryz.prog md ops Q S (fuel + 3) listed a w := by
  have b1 := below_new w
  have b2 := below_tr b1 (below_new _)
  have b3 := below_tr b2 (below_new _)
  have s1 := size_new w
  have s2 := size_new (w.alloc (.cells Z41 41))
  have s3 := size_new ((w.alloc (.cells Z41 41)).alloc (.cells Z41 41))
  have n1 : (((w.alloc (.cells Z41 41)).alloc (.cells Z41 41)).alloc (.cells Z41 41)).heap[w.heap.size]? = some (.cells Z41 41 (0, 0)) := by
    rw [Below.heap_alloc _ _ _ (by omega), Below.heap_alloc _ _ _ (by omega)]; exact new_heap _ _ _
  have n2 : (((w.alloc (.cells Z41 41)).alloc (.cells Z41 41)).alloc (.cells Z41 41)).heap[w.heap.size + 1]? = some (.cells Z41 41 (0, 0)) := by
    rw [Below.heap_alloc _ _ _ (by omega)]; rw [← s1]; exact new_heap _ _ _
  have n3 : (((w.alloc (.cells Z41 41)).alloc (.cells Z41 41)).alloc (.cells Z41 41)).heap[w.heap.size + 2]? = some (.cells Z41 41 (0, 0)) := by
    rw [show w.heap.size + 2 = ((w.alloc (.cells Z41 41)).alloc (.cells Z41 41)).heap.size by omega]; exact new_heap _ _ _
  refine wpAnyH_all r0 (by simp) (fun x hx => ?_)
  simp only [List.mem_cons, List.not_mem_nil, or_false] at hx
  rcases hx with e | e | e <;> rw [e]
  · refine wpOp_new hi gi ti pi ⟨hS _ b1, ?_⟩
    refine wpAnyH_all ri (by simp) (fun x hx => ?_)
    simp only [List.mem_cons, List.not_mem_nil, or_false] at hx
    rcases hx with e | e <;> rw [e]
    · refine wpOp_new hj gj tj pj ⟨hS _ b2, ?_⟩
      refine wpAnyH_all rij (by simp) (fun x hx => ?_)
      simp only [List.mem_cons, List.not_mem_nil, or_false] at hx
      rw [hx]
      refine wpOp_new hk gk tk pk ⟨hS _ b3, ?_⟩
      rw [s2, s1]
      exact h _ _ _ _ b3 (by omega) (by omega) (by omega) (by omega) (by omega) (by omega) n1 n2 n3
    · refine wpOp_new hk gk tk pk ⟨hS _ b2, ?_⟩
      refine wpAnyH_all rik (by simp) (fun x hx => ?_)
      simp only [List.mem_cons, List.not_mem_nil, or_false] at hx
      rw [hx]
      refine wpOp_new hj gj tj pj ⟨hS _ b3, ?_⟩
      rw [s2, s1, put2 _ (Ne.symm mjk), Array.setIfInBounds_comm _ _ (Ne.symm njk)]
      exact h _ _ _ _ b3 (by omega) (by omega) (by omega) (by omega) (by omega) (by omega) n1 n3 n2
  · refine wpOp_new hj gj tj pj ⟨hS _ b1, ?_⟩
    refine wpAnyH_all rj (by simp) (fun x hx => ?_)
    simp only [List.mem_cons, List.not_mem_nil, or_false] at hx
    rcases hx with e | e <;> rw [e]
    · refine wpOp_new hi gi ti pi ⟨hS _ b2, ?_⟩
      refine wpAnyH_all (rs := [k]) (by rw [Array.setIfInBounds_comm _ _ (Ne.symm nij)]; exact rij) (by simp) (fun x hx => ?_)
      simp only [List.mem_cons, List.not_mem_nil, or_false] at hx
      rw [hx]
      refine wpOp_new hk gk tk pk ⟨hS _ b3, ?_⟩
      rw [s2, s1, put2 a (Ne.symm mij), Array.setIfInBounds_comm _ _ (Ne.symm nij)]
      exact h _ _ _ _ b3 (by omega) (by omega) (by omega) (by omega) (by omega) (by omega) n2 n1 n3
    · refine wpOp_new hk gk tk pk ⟨hS _ b2, ?_⟩
      refine wpAnyH_all rjk (by simp) (fun x hx => ?_)
      simp only [List.mem_cons, List.not_mem_nil, or_false] at hx
      rw [hx]
      refine wpOp_new hi gi ti pi ⟨hS _ b3, ?_⟩
      rw [s2, s1, put2 _ (Ne.symm mik), put2 a (Ne.symm mij), Array.setIfInBounds_comm _ _ (Ne.symm nik), Array.setIfInBounds_comm _ _ (Ne.symm nij)]
      exact h _ _ _ _ b3 (by omega) (by omega) (by omega) (by omega) (by omega) (by omega) n3 n1 n2
  · refine wpOp_new hk gk tk pk ⟨hS _ b1, ?_⟩
    refine wpAnyH_all rk (by simp) (fun x hx => ?_)
    simp only [List.mem_cons, List.not_mem_nil, or_false] at hx
    rcases hx with e | e <;> rw [e]
    · refine wpOp_new hi gi ti pi ⟨hS _ b2, ?_⟩
      refine wpAnyH_all (rs := [j]) (by rw [Array.setIfInBounds_comm _ _ (Ne.symm nik)]; exact rik) (by simp) (fun x hx => ?_)
      simp only [List.mem_cons, List.not_mem_nil, or_false] at hx
      rw [hx]
      refine wpOp_new hj gj tj pj ⟨hS _ b3, ?_⟩
      rw [s2, s1, put2 a (Ne.symm mik), put2 _ (Ne.symm mjk), Array.setIfInBounds_comm (xs := listed) _ _ (Ne.symm nik), Array.setIfInBounds_comm _ _ (Ne.symm njk)]
      exact h _ _ _ _ b3 (by omega) (by omega) (by omega) (by omega) (by omega) (by omega) n2 n3 n1
    · refine wpOp_new hj gj tj pj ⟨hS _ b2, ?_⟩
      refine wpAnyH_all (rs := [i]) (by rw [Array.setIfInBounds_comm _ _ (Ne.symm njk)]; exact rjk) (by simp) (fun x hx => ?_)
      simp only [List.mem_cons, List.not_mem_nil, or_false] at hx
      rw [hx]
      refine wpOp_new hi gi ti pi ⟨hS _ b3, ?_⟩
      rw [s2, s1, put2 a (Ne.symm mjk), put2 _ (Ne.symm mik), put2 a (Ne.symm mij), Array.setIfInBounds_comm (xs := listed) _ _ (Ne.symm njk), Array.setIfInBounds_comm _ _ (Ne.symm nik), Array.setIfInBounds_comm (xs := listed) _ _ (Ne.symm nij)]
      exact h _ _ _ _ b3 (by omega) (by omega) (by omega) (by omega) (by omega) (by omega) n3 n2 n1
end Go.Proofs.YtgdflobcbhnimaaGreat
