/- What is proved here: a slice of pairs, cut at a place. -/
import Derived.Test.YtpaanfeleeomnaaSl
namespace Go.Proofs.Ytpaanfeleeomnaa
open Go.RowKit
set_option maxRecDepth 100000
set_option linter.unusedVariables false
theorem cut_to22 (ao : Option Addr) (n cap f : Nat) (hf : f ≤ n) (hn : n ≤ cap) (hcap : cap ≤ 9223372036854775807) (h0 : ao = none → cap = 0) (w : World) :
    (Instr.slice 22 (.slice ao n cap) none (some (.int .i64 (f : Int))) none).run Try.prog w = .ok (.slice ao f cap) w := by
  cases ao with
  | none =>
    obtain rfl := h0 rfl
    obtain rfl : n = 0 := by omega
    obtain rfl : f = 0 := by omega
    simp [Instr.slice, go_sem]
  | some a =>
    simp [Instr.slice, go_sem]
    intro h; omega
theorem cut_from22 (ao : Option Addr) (n cap f : Nat) (hf : f ≤ n) (hn : n ≤ cap) (hcap : cap ≤ 9223372036854775807) (h0 : ao = none → cap = 0) (w : World) :
    (Instr.slice 22 (.slice ao n cap) (some (.int .i64 (f : Int))) none none).run Try.prog w = .ok (.slice (if cap = f then ao else ao.map (fun a => a.add (f * 2))) (n - f) (cap - f)) w := by
  cases ao with
  | none =>
    obtain rfl := h0 rfl
    obtain rfl : n = 0 := by omega
    obtain rfl : f = 0 := by omega
    simp [Instr.slice, go_sem]
  | some a =>
    simp [Instr.slice, go_sem]
    intro h; omega
theorem Sl.to22 {k : IntKind} {w : World} {v : Value} {xs : List (Nat × Int)} (h : Sl k w v xs) (f : Nat) (hf : f ≤ xs.length) :
    ∃ v', (∀ w', (Instr.slice 22 v none (some (.int .i64 (f : Int))) none).run Try.prog w' = .ok v' w') ∧ Sl k w v' (xs.take f) ∧ ∃ ao n cap, v' = .slice ao n cap := by
  obtain ⟨ao, cap, rfl, h1, h2, h3, h4⟩ := h
  refine ⟨.slice ao f cap, fun w' => cut_to22 ao _ cap f hf h1 h2 h3 w', ⟨ao, cap, by simp [Nat.min_eq_left hf], by simp; omega, h2, h3, fun i hi => ?_⟩, _, _, _, rfl⟩
  simp at hi
  obtain ⟨b, o, e, c0, c1⟩ := h4 i (by omega)
  exact ⟨b, o, e, by simpa using c0, by simpa using c1⟩
theorem Sl.from22 {k : IntKind} {w : World} {v : Value} {xs : List (Nat × Int)} (h : Sl k w v xs) (f : Nat) (hf : f ≤ xs.length) :
    ∃ v', (∀ w', (Instr.slice 22 v (some (.int .i64 (f : Int))) none none).run Try.prog w' = .ok v' w') ∧ Sl k w v' (xs.drop f) ∧ ∃ ao n cap, v' = .slice ao n cap := by
  obtain ⟨ao, cap, rfl, h1, h2, h3, h4⟩ := h
  refine ⟨_, fun w' => cut_from22 ao _ cap f hf h1 h2 h3 w', ⟨(if cap = f then ao else ao.map (fun a => a.add (f * 2))), cap - f, by simp, by simp; omega, by omega, ?_, fun i hi => ?_⟩, _, _, _, rfl⟩
  · intro h
    split at h
    · omega
    · simp at h; have := h3 h; omega
  · simp at hi
    obtain ⟨b, o, e, c0, c1⟩ := h4 (f + i) (by omega)
    refine ⟨b, o + f * 2, ?_, ?_, ?_⟩
    · rw [if_neg (by omega), e]; simp [Addr.add]
    · rw [show o + f * 2 + i * 2 = o + (f + i) * 2 by omega]; simpa using c0
    · rw [show o + f * 2 + i * 2 = o + (f + i) * 2 by omega]; simpa using c1
theorem cut_to23 (ao : Option Addr) (n cap f : Nat) (hf : f ≤ n) (hn : n ≤ cap) (hcap : cap ≤ 9223372036854775807) (h0 : ao = none → cap = 0) (w : World) :
    (Instr.slice 23 (.slice ao n cap) none (some (.int .i64 (f : Int))) none).run Try.prog w = .ok (.slice ao f cap) w := by
  cases ao with
  | none =>
    obtain rfl := h0 rfl
    obtain rfl : n = 0 := by omega
    obtain rfl : f = 0 := by omega
    simp [Instr.slice, go_sem]
  | some a =>
    simp [Instr.slice, go_sem]
    intro h; omega
theorem cut_from23 (ao : Option Addr) (n cap f : Nat) (hf : f ≤ n) (hn : n ≤ cap) (hcap : cap ≤ 9223372036854775807) (h0 : ao = none → cap = 0) (w : World) :
    (Instr.slice 23 (.slice ao n cap) (some (.int .i64 (f : Int))) none none).run Try.prog w = .ok (.slice (if cap = f then ao else ao.map (fun a => a.add (f * 2))) (n - f) (cap - f)) w := by
  cases ao with
  | none =>
    obtain rfl := h0 rfl
    obtain rfl : n = 0 := by omega
    obtain rfl : f = 0 := by omega
    simp [Instr.slice, go_sem]
  | some a =>
    simp [Instr.slice, go_sem]
    intro h; omega
theorem Sl.to23 {k : IntKind} {w : World} {v : Value} {xs : List (Nat × Int)} (h : Sl k w v xs) (f : Nat) (hf : f ≤ xs.length) :
    ∃ v', (∀ w', (Instr.slice 23 v none (some (.int .i64 (f : Int))) none).run Try.prog w' = .ok v' w') ∧ Sl k w v' (xs.take f) ∧ ∃ ao n cap, v' = .slice ao n cap := by
  obtain ⟨ao, cap, rfl, h1, h2, h3, h4⟩ := h
  refine ⟨.slice ao f cap, fun w' => cut_to23 ao _ cap f hf h1 h2 h3 w', ⟨ao, cap, by simp [Nat.min_eq_left hf], by simp; omega, h2, h3, fun i hi => ?_⟩, _, _, _, rfl⟩
  simp at hi
  obtain ⟨b, o, e, c0, c1⟩ := h4 i (by omega)
  exact ⟨b, o, e, by simpa using c0, by simpa using c1⟩
theorem Sl.from23 {k : IntKind} {w : World} {v : Value} {xs : List (Nat × Int)} (h : Sl k w v xs) (f : Nat) (hf : f ≤ xs.length) :
    ∃ v', (∀ w', (Instr.slice 23 v (some (.int .i64 (f : Int))) none none).run Try.prog w' = .ok v' w') ∧ Sl k w v' (xs.drop f) ∧ ∃ ao n cap, v' = .slice ao n cap := by
  obtain ⟨ao, cap, rfl, h1, h2, h3, h4⟩ := h
  refine ⟨_, fun w' => cut_from23 ao _ cap f hf h1 h2 h3 w', ⟨(if cap = f then ao else ao.map (fun a => a.add (f * 2))), cap - f, by simp, by simp; omega, by omega, ?_, fun i hi => ?_⟩, _, _, _, rfl⟩
  · intro h
    split at h
    · omega
    · simp at h; have := h3 h; omega
  · simp at hi
    obtain ⟨b, o, e, c0, c1⟩ := h4 (f + i) (by omega)
    refine ⟨b, o + f * 2, ?_, ?_, ?_⟩
    · rw [if_neg (by omega), e]; simp [Addr.add]
    · rw [show o + f * 2 + i * 2 = o + (f + i) * 2 by omega]; simpa using c0
    · rw [show o + f * 2 + i * 2 = o + (f + i) * 2 by omega]; simpa using c1
end Go.Proofs.Ytpaanfeleeomnaa
