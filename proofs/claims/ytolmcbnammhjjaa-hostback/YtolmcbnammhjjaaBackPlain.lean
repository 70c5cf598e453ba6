/- What is proved here: what HostBack asks of memories, plainly. -/
import Derived.Test.YtolmcbnammhjjaaBytes
import Derived.Test.YtolmcbnammhjjaaAwake
import Derived.Test.YtolmcbnammhjjaaRsame
namespace Go.Proofs.Ytolmcbnammhjjaa
open Go.RowKit
set_option linter.unusedVariables false
/-- What is loaded, or 0. -/
def loadV (ms cs : List (Nat × Int)) (a k : Nat) : Nat := if (faultFrom ms a 1 0 k).1 = 0 then loadN cs a k else 0
theorem load20_any (vm vc : Value) (ms cs : List (Nat × Int)) (a k : Nat) (w : World) (hm : Sl .i64 w vm ms) (hc : Sl .u64 w vc cs) (sm : Srt ms) (sc : Srt cs) (lm : ms.length ≤ 1073741824) (lc : cs.length ≤ 1073741824) (hw : Words cs)
    (ha : a < 18446744073709551616) (k1 : 1 ≤ k) (k8 : k ≤ 8) :
    Calls Try.prog 20 #[.agg #[vm, vc], .int .u64 (a : Int), .int .i64 (k : Int)] w fun e w' => e = .returned (.tuple #[.int .u64 ((loadV ms cs a k : Nat) : Int), .agg #[.int .i64 (faultFrom ms a 1 0 k).1, .int .u64 ((faultFrom ms a 1 0 k).2 : Int)]]) ∧ Below w.heap.size w w' := by
  by_cases hf : (faultFrom ms a 1 0 k).1 = 0
  · have h := load20_ok vm vc ms cs a k w hm hc sm sc lm lc hw ha k1 k8 hf
    rw [loadV, if_pos hf, (faultFrom_kind ms a 1 k 0 hf).1]
    exact h
  · have h := load20_fault vm vc ms cs a k w hm hc sm lm ha k1 k8 hf
    rw [loadV, if_neg hf]
    exact h
/-- What Store leaves. -/
def storeV (ms cs : List (Nat × Int)) (a k v : Nat) : List (Nat × Int) := if (faultFrom ms a 2 0 k).1 = 0 then storeN cs a k v else cs
theorem store22_any (vm vc : Value) (ms cs : List (Nat × Int)) (a k v : Nat) (w : World) (hm : Sl .i64 w vm ms) (hc : Sl .u64 w vc cs) (sm : Srt ms) (sc : Srt cs) (lm : ms.length ≤ 1073741824) (lc : cs.length ≤ 1073741822) (hw : Words cs)
    (ha : a < 18446744073709551616) (k1 : 1 ≤ k) (k8 : k ≤ 8) (hv : v < 18446744073709551616) :
    Calls Try.prog 22 #[.agg #[vm, vc], .int .u64 (a : Int), .int .i64 (k : Int), .int .u64 (v : Int)] w fun e w' => ∃ vm' vc', e = .returned (.tuple #[.agg #[vm', vc'], .agg #[.int .i64 (faultFrom ms a 2 0 k).1, .int .u64 ((faultFrom ms a 2 0 k).2 : Int)]]) ∧ OwnH w.heap.size w' vm' vc' ms (storeV ms cs a k v) ∧ Below w.heap.size w w' := by
  by_cases hf : (faultFrom ms a 2 0 k).1 = 0
  · have h := store22_ok vm vc ms cs a k v w hm hc sm sc lm lc hw ha k1 k8 hv hf
    rw [storeV, if_pos hf, (faultFrom_kind ms a 2 k 0 hf).1]
    exact h
  · have h := store22_fault vm vc ms cs a k v w hm hc sm lm lc ha k1 k8 hf
    rw [storeV, if_neg hf]
    exact h
theorem faultK_page {ms : List (Nat × Int)} {a j : Nat} {need : Int} (h : faultK ms a j need = 0) : ∃ x ∈ ms, x.1 = (a + j) / 16384 := by
  have hl := faultK_lt ms a j need h
  unfold faultK at h
  split at h
  · simp at h
  · rename_i x hx
    have h1 := List.mem_of_find?_eq_some hx
    have h2 := List.find?_some hx
    simp at h2
    rw [Nat.mod_eq_of_lt hl] at h2
    exact ⟨x, h1, h2⟩
theorem faultK_ne1 {ms : List (Nat × Int)} {a j : Nat} {need need' : Int} (h : faultK ms a j need = 0) : faultK ms a j need' ≠ 1 := by
  have hl := faultK_lt ms a j need h
  unfold faultK at h ⊢
  split at h
  · simp at h
  · rw [if_neg (by omega)]
    split <;> simp
theorem faultFrom_ne1 (ms : List (Nat × Int)) (a : Nat) (need need' : Int) : ∀ (m i : Nat), (∀ j, i ≤ j → j < i + m → faultK ms a j need = 0) → (faultFrom ms a need' i m).1 ≠ 1
  | 0, i, _ => by simp [faultFrom]
  | m + 1, i, h => by
    rw [faultFrom]
    split
    · exact faultFrom_ne1 ms a need need' m (i + 1) (fun j h1 h2 => h j (by omega) (by omega))
    · exact faultK_ne1 (h i (by omega) (by omega))
theorem faultFrom_at (ms : List (Nat × Int)) (a : Nat) (need : Int) : ∀ (m i : Nat), (faultFrom ms a need i m).1 ≠ 0 → ∃ j, i ≤ j ∧ j < i + m ∧ (faultFrom ms a need i m).2 = (a + j) % 18446744073709551616
  | 0, i, h => by simp [faultFrom] at h
  | m + 1, i, h => by
    rw [faultFrom] at h ⊢
    split at h
    · rename_i h0
      rw [if_pos h0]
      obtain ⟨j, h1, h2, h3⟩ := faultFrom_at ms a need m (i + 1) h
      exact ⟨j, by omega, by omega, h3⟩
    · rename_i h0
      rw [if_neg h0]
      exact ⟨i, by omega, by omega, rfl⟩
theorem cellIf_mem {c n : Nat} {x : Nat × Int} (h : x ∈ cellIf c n) : x = (c, (n : Int)) ∧ n ≠ 0 := by
  unfold cellIf at h
  split at h
  · simp at h
  · rename_i h0; simp at h; exact ⟨h, h0⟩
theorem put_mem {cs : List (Nat × Int)} (hw : Words cs) {a last v : Nat} {x : Nat × Int} (h : x ∈ putCells cs a last v) : (x.1 = cellOf a ∨ x.1 = cellOf last) ∧ x.2 ≠ 0 ∧ 0 ≤ x.2 ∧ x.2 < 18446744073709551616 := by
  rw [putCells] at h
  rcases List.mem_append.1 h with h | h
  · obtain ⟨rfl, h0⟩ := cellIf_mem h
    have := nowN_lt (wordN cs (cellOf a)) (maskOf (max a (cellOf a) - cellOf a) (min last (cellOf a + 7) - cellOf a)) (v * 2 ^ (8 * (a - cellOf a)) % 18446744073709551616) (wordN_lt cs hw _) (mask_lt _ _)
    exact ⟨Or.inl rfl, by simpa using h0, by simp, by simp only; omega⟩
  · split at h
    · simp at h
    · obtain ⟨rfl, h0⟩ := cellIf_mem h
      have := nowN_lt (wordN cs (cellOf last)) (maskOf (max a (cellOf last) - cellOf last) (min last (cellOf last + 7) - cellOf last)) (v / 2 ^ (8 * (cellOf last - a))) (wordN_lt cs hw _) (mask_lt _ _)
      exact ⟨Or.inr rfl, by simpa using h0, by simp, by simp only; omega⟩
theorem put_srt (cs : List (Nat × Int)) {a last : Nat} (v : Nat) (h : a ≤ last) : Srt (putCells cs a last v) := by
  have one : ∀ c n, Srt (cellIf c n) := by
    intro c n; unfold cellIf; split
    · exact List.Pairwise.nil
    · exact List.pairwise_singleton _ _
  rw [putCells]
  split
  · rw [List.append_nil]; exact one _ _
  · rename_i hne
    refine srt_join (one _ _) (one _ _) ?_
    intro x hx y hy
    obtain ⟨rfl, _⟩ := cellIf_mem hx
    obtain ⟨rfl, _⟩ := cellIf_mem hy
    unfold cellOf at hne ⊢
    simp only; omega
theorem put_len (cs : List (Nat × Int)) (a last v : Nat) : (putCells cs a last v).length ≤ 2 := by
  rw [putCells, List.length_append]
  have h1 := cellIf_len (cellOf a) (nowN (wordN cs (cellOf a)) (maskOf (max a (cellOf a) - cellOf a) (min last (cellOf a + 7) - cellOf a)) (v * 2 ^ (8 * (a - cellOf a)) % 18446744073709551616))
  split
  · simp only [List.length_nil]; omega
  · have h2 := cellIf_len (cellOf last) (nowN (wordN cs (cellOf last)) (maskOf (max a (cellOf last) - cellOf last) (min last (cellOf last + 7) - cellOf last)) (v / 2 ^ (8 * (cellOf last - a))))
    omega
/-- With a number put in a memory stays fit. -/
theorem fit_store {ms cs : List (Nat × Int)} (h : FitQ ms cs) (hw : Words cs) (hrc : ∀ y ∈ cs, y.1 < 18446744073709551616) (hfew : cs.length ≤ 65534) (a k v : Nat) (k1 : 1 ≤ k) (hf : (faultFrom ms a 2 0 k).1 = 0) :
    FitQ ms (storeN cs a k v) ∧ Words (storeN cs a k v) ∧ ∀ y ∈ storeN cs a k v, y.1 < 18446744073709551616 := by
  obtain ⟨h1, h2, h3, h4, h5, h6⟩ := h
  obtain ⟨_, hfj⟩ := faultFrom_kind ms a 2 k 0 hf
  have p0 := faultK_page (hfj 0 (by omega) (by omega))
  have p1 := faultK_page (hfj (k - 1) (by omega) (by omega))
  have b1 := faultK_lt ms a (k - 1) 2 (hfj (k - 1) (by omega) (by omega))
  obtain ⟨last, hl⟩ : ∃ last, last = a + k - 1 := ⟨_, rfl⟩
  have f1 := cellOf_facts a
  have f2 := cellOf_facts last
  have hco : cellOf a ≤ cellOf last := by unfold cellOf at *; omega
  have l1 := parts_len cs h4 (cellOf a) (cellOf last) hco
  have lp := put_len cs a last v
  have e : storeN cs a k v = lo cs (cellOf a) ++ putCells cs a last v ++ hi cs (cellOf last) := by rw [storeN, hl]
  rw [e]
  refine ⟨⟨h1, by simp; omega, h3, srt_join (srt_join (lo_srt h4 _) (put_srt cs v (by omega)) ?_) (hi_srt h4 _) ?_, h5, ?_⟩, ?_, ?_⟩
  · intro x hx y hy
    have q1 := (lo_mem.1 hx).2
    have q2 := (put_mem hw hy).1
    omega
  · intro x hx y hy
    have q2 := (hi_mem.1 hy).2
    rcases List.mem_append.1 hx with g | g
    · have q1 := (lo_mem.1 g).2; omega
    · have q1 := (put_mem hw g).1; omega
  · intro c hc
    rcases List.mem_append.1 hc with g | g
    · rcases List.mem_append.1 g with g | g
      · exact h6 c (lo_mem.1 g).1
      · obtain ⟨q1, q2, _, _⟩ := put_mem hw g
        rcases q1 with q | q
        · refine ⟨by omega, q2, ?_⟩
          obtain ⟨x, hx, ex⟩ := p0
          exact ⟨x, hx, by rw [ex, q]; unfold cellOf; omega⟩
        · refine ⟨by omega, q2, ?_⟩
          obtain ⟨x, hx, ex⟩ := p1
          exact ⟨x, hx, by rw [ex, q]; unfold cellOf; omega⟩
    · exact h6 c (hi_mem.1 g).1
  · refine words_app (words_app (words_lo hw _) ?_) (words_hi hw _)
    intro x hx
    exact (put_mem hw hx).2.2
  · intro y hy
    rcases List.mem_append.1 hy with g | g
    · rcases List.mem_append.1 g with g | g
      · exact hrc y (lo_mem.1 g).1
      · have := (put_mem hw g).1; omega
    · exact hrc y (hi_mem.1 g).1
/-- What was stored is loaded. -/
theorem load_store (cs : List (Nat × Int)) (hw : Words cs) (hw' : ∀ a k v, Words (storeN cs a k v)) (a k v : Nat) (k1 : 1 ≤ k) (k8 : k ≤ 8) : loadN (storeN cs a k v) a k = v % 2 ^ (8 * k) := by
  apply Nat.eq_of_testBit_eq
  intro j
  rw [loadN_bit _ (hw' a k v) a k j k1 k8, Nat.testBit_mod_two_pow]
  by_cases hj : j < 8 * k
  · rw [decide_eq_true hj, Bool.true_and, Bool.true_and, storeN_bit cs hw a k v _ _ k1 k8 (cellOf_facts _).1 (by omega)]
    have f := cellOf_facts (a + j / 8)
    have e : cellOf (a + j / 8) + (8 * ((a + j / 8) % 8) + j % 8) / 8 = a + j / 8 := by unfold cellOf; omega
    rw [e, if_pos (by omega)]
    congr 1; omega
  · rw [decide_eq_false hj]; simp
/-- Other bytes stay. -/
theorem load_other (cs : List (Nat × Int)) (hw : Words cs) (hw' : ∀ a k v, Words (storeN cs a k v)) (a k v b : Nat) (k1 : 1 ≤ k) (k8 : k ≤ 8) (hb : ¬ (a ≤ b ∧ b < a + k)) : loadN (storeN cs a k v) b 1 = loadN cs b 1 := by
  apply Nat.eq_of_testBit_eq
  intro j
  rw [loadN_bit _ (hw' a k v) b 1 j (by omega) (by omega), loadN_bit _ hw b 1 j (by omega) (by omega)]
  by_cases hj : j < 8 * 1
  · rw [decide_eq_true hj, Bool.true_and, Bool.true_and, storeN_bit cs hw a k v _ _ k1 k8 (cellOf_facts _).1 (by omega)]
    have e : cellOf (b + j / 8) + (8 * ((b + j / 8) % 8) + j % 8) / 8 = b := by unfold cellOf; omega
    rw [e, if_neg hb]
  · rw [decide_eq_false hj]; simp
theorem maskW (v k : Nat) (hv : v < 18446744073709551616) (hk : k ≤ 7) : bits .and .u64 (v : Int) (IntKind.u64.wrap (IntKind.u64.wrap (2 ^ (8 * k)) - 1)) = ((v % 2 ^ (8 * k) : Nat) : Int) := by
  have hq : 2 ^ (8 * k) ≤ 2 ^ 56 := Nat.pow_le_pow_right (show 1 ≤ 2 by decide) (by omega)
  have hq0 := Nat.pow_pos (n := 8 * k) (show 0 < 2 by decide)
  have e : IntKind.u64.wrap (IntKind.u64.wrap ((2 : Int) ^ (8 * k)) - 1) = ((2 ^ (8 * k) - 1 : Nat) : Int) := by
    have e2 : ((2 : Int) ^ (8 * k)) = ((2 ^ (8 * k) : Nat) : Int) := by simp
    rw [e2, IntKind.wrap_u64, IntKind.wrap_u64]; omega
  rw [e, and64 _ _ hv (by omega), Nat.and_two_pow_sub_one_eq_mod]
theorem words_store {cs : List (Nat × Int)} (hw : Words cs) (a k v : Nat) : Words (storeN cs a k v) := by
  rw [storeN]
  exact words_app (words_app (words_lo hw _) (fun x hx => (put_mem hw hx).2.2)) (words_hi hw _)
end Go.Proofs.Ytolmcbnammhjjaa
