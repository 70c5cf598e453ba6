/- What is proved here: which symbols are the same: the document's. -/
import Derived.Test.YtmkfgoacbehhcaaNd
import Derived.Laws.StructEq
namespace Go.Proofs.Ytmkfgoacbehhcaa
open Go.RowKit
set_option linter.unusedVariables false
set_option linter.unusedSimpArgs false
set_option maxRecDepth 100000
def syEq (g h : Sy) : Bool := (g.name == h.name) && ((g.value == h.value) && ((g.size == h.size) && ((g.bind == h.bind) && (g.part == h.part))))
theorem syEq_iff (a b : Sy) : syEq a b = true ↔ a = b := by
  cases a; cases b
  simp only [syEq, Bool.and_eq_true, beq_iff_eq, Sy.mk.injEq]
def symsEq : List Sy → List Sy → Bool
  | [], [] => true
  | a :: s, b :: t => syEq a b && symsEq s t
  | _, _ => false
theorem symsEq_iff : ∀ a b : List Sy, symsEq a b = true ↔ a = b
  | [], [] => by simp [symsEq]
  | a :: s, b :: t => by rw [symsEq, Bool.and_eq_true, syEq_iff, symsEq_iff s t, List.cons.injEq]
  | [], b :: t => by simp [symsEq]
  | a :: s, [] => by simp [symsEq]
theorem ne39 (g h : Sy) (w : World) : (binOp .neq 39 g.val h.val).run Try.prog w = .ok (.bool (!syEq g h)) w := by
  obtain ⟨n, o, a, s, r⟩ := g
  obtain ⟨n', o', a', s', r'⟩ := h
  have en : ((⟨n.toArray⟩ : ByteArray).toList == (⟨n'.toArray⟩ : ByteArray).toList) = (n == n') := by rw [bal, bal]
  have eo : ((o : Int) == (o' : Int)) = (o == o') := by rw [Bool.eq_iff_iff]; simp only [beq_iff_eq]; omega
  have ea : ((a : Int) == (a' : Int)) = (a == a') := by rw [Bool.eq_iff_iff]; simp only [beq_iff_eq]; omega
  simp only [Sy.val, syEq]
  rw [← en, ← eo, ← ea]
  generalize (⟨n.toArray⟩ : ByteArray) = N
  generalize (⟨n'.toArray⟩ : ByteArray) = N'
  clear en eo ea
  cases h0 : (N.toList == N'.toList) with
  | false => simp [go_sem, h0]
  | true =>
    cases h1 : ((o : Int) == (o' : Int)) with
    | false => simp [go_sem, h0, h1]
    | true =>
      cases h2 : ((a : Int) == (a' : Int)) with
      | false => simp [go_sem, h0, h1, h2]
      | true =>
        cases h3 : (s == s') with
        | false => simp [go_sem, h0, h1, h2, h3]
        | true =>
          cases h4 : (r == r') with
          | false => simp [go_sem, h0, h1, h2, h3, h4]
          | true => simp [go_sem, h0, h1, h2, h3, h4]
theorem sys_take {xs ys : List Sy} {k : Nat} (hl : xs.length = ys.length) (hk : k < xs.length) (hk' : k < ys.length) (ht : xs.take k = ys.take k) (he : syEq xs[k] ys[k] = true) : xs.take (k + 1) = ys.take (k + 1) := by
  rw [List.take_succ_eq_append_getElem hk, List.take_succ_eq_append_getElem hk', ht, (syEq_iff _ _).1 he]
theorem sys_no {xs ys : List Sy} {k : Nat} (hk : k < xs.length) (hk' : k < ys.length) (he : syEq xs[k] ys[k] = false) : symsEq xs ys = false := by
  cases h : symsEq xs ys with
  | false => rfl
  | true =>
    have := (symsEq_iff _ _).1 h
    subst this
    rw [(syEq_iff _ _).2 rfl] at he
    cases he
theorem sys_len {xs ys : List Sy} (h : xs.length ≠ ys.length) : symsEq xs ys = false := by
  cases hh : symsEq xs ys with
  | false => rfl
  | true => exact absurd (congrArg List.length ((symsEq_iff _ _).1 hh)) h
set_option maxHeartbeats 1000000 in
theorem rsame13 (v v' : Value) (xs ys : List Sy) (w : World) (hx : SlY w v xs) (hy : SlY w v' ys) (hl : xs.length ≤ 1000000) :
    Calls Try.prog 13 #[v, v'] w fun e w' => e = .returned (.bool (symsEq xs ys)) ∧ Below w.heap.size w w' := by
  obtain ⟨ax, cx, rfl, x1, x2, x3, x4⟩ := hx
  obtain ⟨ay, cy, rfl, y1, y2, y3, y4⟩ := hy
  have HX : Hid (∀ i (h : i < xs.length), ∃ b o, ax = some ⟨b, o, none⟩ ∧ At5 w b (o + i * 5) xs[i]) := x4
  have HY : Hid (∀ i (h : i < ys.length), ∃ b o, ay = some ⟨b, o, none⟩ ∧ At5 w b (o + i * 5) ys[i]) := y4
  clear x4 y4 x3 y3
  by_cases hlen : xs.length = ys.length
  · rw [← hlen] at y1 ⊢
    have HL : Hid (xs.length = ys.length) := hlen
    clear hlen
    go_enter Try.func13, Try.ntmps13
    go_wp2
    go_loopw [5] (fun x wr => ∃ k : Nat, x = .int .i64 (k : Int) ∧ k ≤ xs.length ∧ xs.take k = ys.take k ∧ Below w.heap.size w wr) (fun x _ => xs.length - (intOf x).toNat)
    case atStart => exact ⟨0, rfl, Nat.zero_le _, rfl, Below.refl _ _⟩
    case round =>
      obtain ⟨k, rfl, hk, htk, hbr⟩ := hrel
      have HT : Hid (xs.take k = ys.take k) := htk
      clear htk
      by_cases hlt : k < xs.length
      · have hlt' : k < ys.length := by rw [← HL.out]; exact hlt
        obtain ⟨b, o, rfl, h7⟩ := HX.out k hlt
        obtain ⟨b', o', rfl, h7'⟩ := HY.out k hlt'
        have h7 := h7.keep hbr
        have h7' := h7'.keep hbr
        have hne := ne39 xs[k] ys[k]
        have HN : Hid ((syEq xs[k] ys[k] = true → xs.take (k + 1) = ys.take (k + 1)) ∧ (syEq xs[k] ys[k] = false → symsEq xs ys = false)) := ⟨sys_take HL.out hlt hlt' HT.out, sys_no hlt hlt'⟩
        have hlti : (k : Int) < (xs.length : Int) := by omega
        obtain ⟨g, hg⟩ : ∃ g, g = xs[k] := ⟨_, rfl⟩
        obtain ⟨h, hh⟩ : ∃ h, h = ys[k] := ⟨_, rfl⟩
        rw [← hg] at h7 hne HN
        rw [← hh] at h7' hne HN
        clear hg hh
        obtain ⟨r0, r1, r2, r3, r4⟩ := h7
        obtain ⟨t0, t1, t2, t3, t4⟩ := h7'
        unfold Sy.val at hne
        generalize (⟨g.name.toArray⟩ : ByteArray) = N at hne r0
        generalize (⟨h.name.toArray⟩ : ByteArray) = N' at hne t0
        cases hq : syEq g h with
        | true =>
          rw [hq] at hne HN
          have HA : Hid (xs.take (k + 1) = ys.take (k + 1)) := HN.out.1 rfl
          clear hq HN
          go_wp2
          go_quiet (fail)
          go_wp2
          go_roundw
          case rel => exact ⟨k + 1, by go_num, by omega, HA.out, by first | exact hbr | exact below_drewN hbr _⟩
          case measure => simp [intOf]; omega
        | false =>
          rw [hq] at hne HN
          have HA : Hid (symsEq xs ys = false) := HN.out.2 rfl
          clear hq HN
          go_wp2
          go_quiet (fail)
          go_wp2
          go_ret
          exact ⟨by rw [HA.out]; rfl, (by first | exact hbr | exact below_drewN hbr _)⟩
      · have HA : Hid (symsEq xs ys = true) := by
          have h := HT.out
          rw [List.take_of_length_le (by omega), List.take_of_length_le (by rw [← HL.out]; omega)] at h
          exact (symsEq_iff _ _).2 h
        go_wp2
        go_ret
        exact ⟨by rw [HA.out]; rfl, hbr⟩
  · have e : symsEq xs ys = false := sys_len hlen
    rw [e]
    have hne : ¬ (xs.length : Int) = (ys.length : Int) := by omega
    go_enter Try.func13, Try.ntmps13
    go_wp2
    go_ret
    exact ⟨rfl, Below.refl _ _⟩
end Go.Proofs.Ytmkfgoacbehhcaa
