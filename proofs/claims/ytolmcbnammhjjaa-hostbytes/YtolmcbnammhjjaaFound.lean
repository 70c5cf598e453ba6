/- What is proved here: the item of a list that rises that stands at a place. -/
import Derived.Test.YtolmcbnammhjjaaSpan
import Derived.Laws.ResultCell
namespace Go.Proofs.Ytolmcbnammhjjaa
open Go.RowKit
set_option linter.unusedVariables false
theorem sl_at {k : IntKind} {w : World} {v : Value} {A B C : List (Nat × Int)} {x : Nat × Int} (h : Sl k w v (A ++ (x :: B) ++ C)) :
    ∃ b o n cap, v = .slice (some ⟨b, o, none⟩) n cap ∧ A.length < n ∧ n ≤ cap ∧ cap ≤ 9223372036854775807 ∧ w.cell? ⟨b, o + A.length * 2, none⟩ = some (.int .u64 (x.1 : Int)) ∧ w.cell? ⟨b, o + A.length * 2 + 1, none⟩ = some (.int k x.2) := by
  obtain ⟨ao, cap, rfl, h1, h2, h3, h4⟩ := h
  obtain ⟨b, o, rfl, c0, c1⟩ := h4 A.length (by simp)
  refine ⟨b, o, _, cap, rfl, by simp, h1, h2, ?_, ?_⟩
  · simpa using c0
  · simpa using c1
set_option maxHeartbeats 1000000 in
theorem found32 (v : Value) (A B C : List (Nat × Int)) (at_ : Nat) (w : World) (hS : Sl .i64 w v (A ++ B ++ C)) (hn : (A ++ B ++ C).length ≤ 1073741824)
    (hA : ∀ x ∈ A, x.1 < at_) (hB : ∀ x ∈ B, at_ ≤ x.1 ∧ x.1 ≤ at_) (hC : ∀ x ∈ C, at_ ≤ x.1 ∧ at_ < x.1) :
    Calls Try.prog 32 #[v, .func (.func 28) #[] #[], .int .u64 (at_ : Int)] w
      fun e w' => e = .returned (.tuple #[.agg #[.int .u64 ((B.headD (0, 0)).1 : Int), .int .i64 (B.headD (0, 0)).2], .bool (!B.isEmpty)]) ∧ Below w.heap.size w w' := by
  have HS : Hid (∀ w', Below w.heap.size w w' → Sl .i64 w' v (A ++ B ++ C)) := fun w' hb => hS.keep hb
  have K : Hid (∀ w, Sl .i64 w v (A ++ B ++ C) → Calls Try.prog 38 #[v, .func (.func 28) #[] #[], .int .u64 (at_ : Int), .int .u64 (at_ : Int)] w
      fun e w' => e = .returned (.tuple #[.int .i64 (A.length : Int), .int .i64 ((A.length + B.length : Nat) : Int)]) ∧ Below w.heap.size w w') := fun w h => span38 v A B C at_ at_ w h hn hA hB hC
  have hl : A.length + B.length ≤ 1073741824 := by simp at hn; omega
  clear hA hB hC hn
  obtain ⟨W, hW, hb, hsz, cA, cB, fA, fB⟩ := box2 w (.int .u64 0) (.int .i64 0) 54
  have KW := K.out W (HS.out W hb)
  clear K
  cases B with
  | nil =>
    clear hS
    go_enter Try.func32, Try.ntmps32
    go_wp2_with fail
    refine KW.mono ?_
    rintro e w1 ⟨rfl, hb1⟩
    have dA := keep_cell hb1 cA
    have dB := keep_cell hb1 cB
    have gA := keep_frozen hb1 (by simp [hsz]) fA
    have gB := keep_frozen hb1 (by simp [hsz]) fB
    have hbb := below_tr hb hb1
    clear hW cA cB fA fB KW hb hb1
    go_wp2
    (try simp only [Exit.inBlock, Exit.then])
    refine bodyPost_ret (v := .tuple #[.agg #[.int .u64 0, .int .i64 0], .bool false]) ?_ rfl ⟨by simp, ?_⟩
    · rw [results_cell_tmp rfl]
      go_simp
    exact (hbb.setCell (Nat.le_refl _) _).setCell (Nat.le_refl _) _
  | cons x B =>
    obtain ⟨b, o, n, cap, rfl, hln, hnc, hcap, c0, c1⟩ := sl_at hS
    clear hS
    go_enter Try.func32, Try.ntmps32
    go_wp2_with fail
    refine KW.mono ?_
    rintro e w1 ⟨rfl, hb1⟩
    have dA := keep_cell hb1 cA
    have dB := keep_cell hb1 cB
    have gA := keep_frozen hb1 (by simp [hsz]) fA
    have gB := keep_frozen hb1 (by simp [hsz]) fB
    have hbb := below_tr hb hb1
    have d0 := keep_cell hbb c0
    have d1 := keep_cell hbb c1
    clear hW cA cB fA fB KW hb hb1 c0 c1 HS
    go_wp2
    (try simp only [Exit.inBlock, Exit.then])
    refine bodyPost_ret (v := .tuple #[.agg #[.int .u64 (x.1 : Int), .int .i64 x.2], .bool true]) ?_ rfl ⟨by simp, ?_⟩
    · rw [results_cell_tmp rfl]
      go_simp
    exact (hbb.setCell (Nat.le_refl _) _).setCell (Nat.le_refl _) _
set_option maxHeartbeats 1000000 in
theorem found60 (v : Value) (A B C : List (Nat × Int)) (at_ : Nat) (w : World) (hS : Sl .u64 w v (A ++ B ++ C)) (hn : (A ++ B ++ C).length ≤ 1073741824)
    (hA : ∀ x ∈ A, x.1 < at_) (hB : ∀ x ∈ B, at_ ≤ x.1 ∧ x.1 ≤ at_) (hC : ∀ x ∈ C, at_ ≤ x.1 ∧ at_ < x.1) :
    Calls Try.prog 60 #[v, .func (.func 30) #[] #[], .int .u64 (at_ : Int)] w
      fun e w' => e = .returned (.tuple #[.agg #[.int .u64 ((B.headD (0, 0)).1 : Int), .int .u64 (B.headD (0, 0)).2], .bool (!B.isEmpty)]) ∧ Below w.heap.size w w' := by
  have HS : Hid (∀ w', Below w.heap.size w w' → Sl .u64 w' v (A ++ B ++ C)) := fun w' hb => hS.keep hb
  have K : Hid (∀ w, Sl .u64 w v (A ++ B ++ C) → Calls Try.prog 50 #[v, .func (.func 30) #[] #[], .int .u64 (at_ : Int), .int .u64 (at_ : Int)] w
      fun e w' => e = .returned (.tuple #[.int .i64 (A.length : Int), .int .i64 ((A.length + B.length : Nat) : Int)]) ∧ Below w.heap.size w w') := fun w h => span50 v A B C at_ at_ w h hn hA hB hC
  have hl : A.length + B.length ≤ 1073741824 := by simp at hn; omega
  clear hA hB hC hn
  obtain ⟨W, hW, hb, hsz, cA, cB, fA, fB⟩ := box2 w (.int .u64 0) (.int .u64 0) 58
  have KW := K.out W (HS.out W hb)
  clear K
  cases B with
  | nil =>
    clear hS
    go_enter Try.func60, Try.ntmps60
    go_wp2_with fail
    refine KW.mono ?_
    rintro e w1 ⟨rfl, hb1⟩
    have dA := keep_cell hb1 cA
    have dB := keep_cell hb1 cB
    have gA := keep_frozen hb1 (by simp [hsz]) fA
    have gB := keep_frozen hb1 (by simp [hsz]) fB
    have hbb := below_tr hb hb1
    clear hW cA cB fA fB KW hb hb1
    go_wp2
    (try simp only [Exit.inBlock, Exit.then])
    refine bodyPost_ret (v := .tuple #[.agg #[.int .u64 0, .int .u64 0], .bool false]) ?_ rfl ⟨by simp, ?_⟩
    · rw [results_cell_tmp rfl]
      go_simp
    exact (hbb.setCell (Nat.le_refl _) _).setCell (Nat.le_refl _) _
  | cons x B =>
    obtain ⟨b, o, n, cap, rfl, hln, hnc, hcap, c0, c1⟩ := sl_at hS
    clear hS
    go_enter Try.func60, Try.ntmps60
    go_wp2_with fail
    refine KW.mono ?_
    rintro e w1 ⟨rfl, hb1⟩
    have dA := keep_cell hb1 cA
    have dB := keep_cell hb1 cB
    have gA := keep_frozen hb1 (by simp [hsz]) fA
    have gB := keep_frozen hb1 (by simp [hsz]) fB
    have hbb := below_tr hb hb1
    have d0 := keep_cell hbb c0
    have d1 := keep_cell hbb c1
    clear hW cA cB fA fB KW hb hb1 c0 c1 HS
    go_wp2
    (try simp only [Exit.inBlock, Exit.then])
    refine bodyPost_ret (v := .tuple #[.agg #[.int .u64 (x.1 : Int), .int .u64 x.2], .bool true]) ?_ rfl ⟨by simp, ?_⟩
    · rw [results_cell_tmp rfl]
      go_simp
    exact (hbb.setCell (Nat.le_refl _) _).setCell (Nat.le_refl _) _
end Go.Proofs.Ytolmcbnammhjjaa
