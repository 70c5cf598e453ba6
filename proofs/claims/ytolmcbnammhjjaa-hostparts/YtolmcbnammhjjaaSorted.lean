/- What is proved here: lists that rise, and their parts. -/
import Derived.Test.YtolmcbnammhjjaaFound
import Derived.Test.YtolmcbnammhjjaaPlace
namespace Go.Proofs.Ytolmcbnammhjjaa
open Go.RowKit
set_option linter.unusedVariables false
/-- A list rises. -/
def Srt (xs : List (Nat × Int)) : Prop := xs.Pairwise (fun x y => x.1 < y.1)
def lo (xs : List (Nat × Int)) (a : Nat) : List (Nat × Int) := xs.filter (fun x => decide (x.1 < a))
def mid (xs : List (Nat × Int)) (a b : Nat) : List (Nat × Int) := xs.filter (fun x => decide (a ≤ x.1 ∧ x.1 ≤ b))
def hi (xs : List (Nat × Int)) (b : Nat) : List (Nat × Int) := xs.filter (fun x => decide (b < x.1))
theorem parts (xs : List (Nat × Int)) (h : Srt xs) (a b : Nat) (hab : a ≤ b) : xs = lo xs a ++ mid xs a b ++ hi xs b := by
  induction xs with
  | nil => rfl
  | cons x xs ih =>
    obtain ⟨h1, h2⟩ := List.pairwise_cons.1 h
    have ih := ih h2
    rcases Nat.lt_or_ge x.1 a with c | c
    · have e1 : lo (x :: xs) a = x :: lo xs a := by simp [lo, c]
      have e2 : mid (x :: xs) a b = mid xs a b := by rw [mid, List.filter_cons_of_neg (by simp; omega)]; rfl
      have e3 : hi (x :: xs) b = hi xs b := by rw [hi, List.filter_cons_of_neg (by simp; omega)]; rfl
      rw [e1, e2, e3, List.cons_append, List.cons_append, ← ih]
    · have l0 : lo xs a = [] := by
        rw [lo, List.filter_eq_nil_iff]; intro y hy; have := h1 y hy; simp; omega
      have e1 : lo (x :: xs) a = [] := by simp [lo, Nat.not_lt.2 c]; intro y z hy; have := h1 _ hy; simp at this; omega
      rcases Nat.lt_or_ge b x.1 with d | d
      · have m0 : mid xs a b = [] := by
          rw [mid, List.filter_eq_nil_iff]; intro y hy; have := h1 y hy; simp; omega
        have e2 : mid (x :: xs) a b = [] := by rw [mid, List.filter_cons_of_neg (by simp; omega)]; exact m0
        have e3 : hi (x :: xs) b = x :: hi xs b := by simp [hi, d]
        rw [e1, e2, e3]
        rw [l0, m0] at ih
        simp only [List.nil_append] at ih ⊢
        rw [← ih]
      · have e2 : mid (x :: xs) a b = x :: mid xs a b := by rw [mid, List.filter_cons_of_pos (by simp; omega)]; rfl
        have e3 : hi (x :: xs) b = hi xs b := by rw [hi, List.filter_cons_of_neg (by simp; omega)]; rfl
        rw [e1, e2, e3]
        rw [l0] at ih
        simp only [List.nil_append, List.cons_append] at ih ⊢
        rw [← ih]
theorem mid_find (xs : List (Nat × Int)) (a : Nat) : (mid xs a a).head? = xs.find? (fun x => x.1 == a) := by
  rw [mid, List.head?_filter]
  congr 1
  funext x
  rw [Bool.eq_iff_iff]; simp; omega
theorem mid_word (xs : List (Nat × Int)) (a : Nat) : ((mid xs a a).headD (0, 0)).2 = wordOf xs a := by
  have h := mid_find xs a
  rw [wordOf]
  cases hm : mid xs a a with
  | nil => rw [hm] at h; rw [← h]; rfl
  | cons x l => rw [hm] at h; rw [← h]; rfl
theorem span38s (v : Value) (xs : List (Nat × Int)) (first last : Nat) (w : World) (hS : Sl .i64 w v xs) (hs : Srt xs) (hn : xs.length ≤ 1073741824) (hab : first ≤ last) :
    Calls Try.prog 38 #[v, .func (.func 28) #[] #[], .int .u64 (first : Int), .int .u64 (last : Int)] w
      fun e w' => e = .returned (.tuple #[.int .i64 ((lo xs first).length : Int), .int .i64 (((lo xs first).length + (mid xs first last).length : Nat) : Int)]) ∧ Below w.heap.size w w' := by
  have e := parts xs hs first last hab
  rw [e] at hS hn
  exact span38 v _ _ _ first last w hS hn (fun x hx => by simpa [lo] using (List.mem_filter.1 hx).2) (fun x hx => by simpa [mid] using (List.mem_filter.1 hx).2) (fun x hx => by have := (List.mem_filter.1 hx).2; simp at this; omega)
theorem found32s (v : Value) (xs : List (Nat × Int)) (at_ : Nat) (w : World) (hS : Sl .i64 w v xs) (hs : Srt xs) (hn : xs.length ≤ 1073741824) :
    Calls Try.prog 32 #[v, .func (.func 28) #[] #[], .int .u64 (at_ : Int)] w
      fun e w' => e = .returned (.tuple #[.agg #[.int .u64 (((mid xs at_ at_).headD (0, 0)).1 : Int), .int .i64 ((mid xs at_ at_).headD (0, 0)).2], .bool (!(mid xs at_ at_).isEmpty)]) ∧ Below w.heap.size w w' := by
  have e := parts xs hs at_ at_ (Nat.le_refl _)
  rw [e] at hS hn
  exact found32 v _ _ _ at_ w hS hn (fun x hx => by simpa [lo] using (List.mem_filter.1 hx).2) (fun x hx => by simpa [mid] using (List.mem_filter.1 hx).2) (fun x hx => by have := (List.mem_filter.1 hx).2; simp at this; omega)
theorem span50s (v : Value) (xs : List (Nat × Int)) (first last : Nat) (w : World) (hS : Sl .u64 w v xs) (hs : Srt xs) (hn : xs.length ≤ 1073741824) (hab : first ≤ last) :
    Calls Try.prog 50 #[v, .func (.func 30) #[] #[], .int .u64 (first : Int), .int .u64 (last : Int)] w
      fun e w' => e = .returned (.tuple #[.int .i64 ((lo xs first).length : Int), .int .i64 (((lo xs first).length + (mid xs first last).length : Nat) : Int)]) ∧ Below w.heap.size w w' := by
  have e := parts xs hs first last hab
  rw [e] at hS hn
  exact span50 v _ _ _ first last w hS hn (fun x hx => by simpa [lo] using (List.mem_filter.1 hx).2) (fun x hx => by simpa [mid] using (List.mem_filter.1 hx).2) (fun x hx => by have := (List.mem_filter.1 hx).2; simp at this; omega)
theorem found60s (v : Value) (xs : List (Nat × Int)) (at_ : Nat) (w : World) (hS : Sl .u64 w v xs) (hs : Srt xs) (hn : xs.length ≤ 1073741824) :
    Calls Try.prog 60 #[v, .func (.func 30) #[] #[], .int .u64 (at_ : Int)] w
      fun e w' => e = .returned (.tuple #[.agg #[.int .u64 (((mid xs at_ at_).headD (0, 0)).1 : Int), .int .u64 ((mid xs at_ at_).headD (0, 0)).2], .bool (!(mid xs at_ at_).isEmpty)]) ∧ Below w.heap.size w w' := by
  have e := parts xs hs at_ at_ (Nat.le_refl _)
  rw [e] at hS hn
  exact found60 v _ _ _ at_ w hS hn (fun x hx => by simpa [lo] using (List.mem_filter.1 hx).2) (fun x hx => by simpa [mid] using (List.mem_filter.1 hx).2) (fun x hx => by have := (List.mem_filter.1 hx).2; simp at this; omega)
set_option maxHeartbeats 1000000 in
theorem word46 (vm vc : Value) (cs : List (Nat × Int)) (a : Nat) (w : World) (hm : ∃ x n p, vm = .slice x n p) (hc : Sl .u64 w vc cs) (hs : Srt cs) (hn : cs.length ≤ 1073741824) :
    Calls Try.prog 46 #[.agg #[vm, vc], .int .u64 (a : Int)] w fun e w' => e = .returned (.int .u64 (wordOf cs a)) ∧ Below w.heap.size w w' := by
  obtain ⟨W, hW, hb, hsz, c0, c1, _, _⟩ := box2 w vm vc 25
  have K : Hid (Calls Try.prog 60 #[vc, .func (.func 30) #[] #[], .int .u64 (a : Int)] W fun e w' => e = .returned (.tuple #[.agg #[.int .u64 (((mid cs a a).headD (0, 0)).1 : Int), .int .u64 ((mid cs a a).headD (0, 0)).2], .bool (!(mid cs a a).isEmpty)]) ∧ Below W.heap.size W w') := found60s vc cs a W (hc.keep hb) hs hn
  have HR : Hid (((mid cs a a).headD (0, 0)).2 = wordOf cs a) := mid_word cs a
  obtain ⟨x, n, p, rfl⟩ := hm
  obtain ⟨x', n', p', rfl⟩ : ∃ a n p, vc = .slice a n p := by obtain ⟨a, p, h, _⟩ := hc; exact ⟨_, _, _, h⟩
  clear hc hs
  generalize ((mid cs a a).headD (0, 0)).1 = y at K
  generalize ((mid cs a a).headD (0, 0)).2 = z at K HR
  generalize (!(mid cs a a).isEmpty) = b at K
  go_enter Try.func46, Try.ntmps46
  go_wp2_with fail
  refine K.out.mono ?_
  rintro e w1 ⟨rfl, hb1⟩
  go_wp2
  go_ret
  exact ⟨by rw [← HR.out]; rfl, (below_tr hb hb1).alloc (below_tr hb hb1).size _⟩
end Go.Proofs.Ytolmcbnammhjjaa
