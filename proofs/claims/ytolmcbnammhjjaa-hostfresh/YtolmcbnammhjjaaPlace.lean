/- What is proved here: the document's looking for pages and words, one by one. -/
import Derived.Test.YtolmcbnammhjjaaSl
import Derived.LoopTactic
namespace Go.Proofs.Ytolmcbnammhjjaa
open Go.RowKit
set_option linter.unusedVariables false
/-- Where a place stands in a list; -1: nowhere. -/
def placeOf (xs : List (Nat × Int)) (p : Nat) : Int := match xs.findIdx? (fun x => x.1 == p) with | some i => (i : Int) | none => -1
theorem placeOf_some (xs : List (Nat × Int)) (p k : Nat) (h : k < xs.length) (e : xs[k].1 = p) (hn : ∀ j (hj : j < k), xs[j].1 ≠ p) : placeOf xs p = (k : Int) := by
  have : xs.findIdx? (fun x => x.1 == p) = some k := by
    rw [List.findIdx?_eq_some_iff_getElem]
    exact ⟨h, by simpa using e, fun j hj => by simpa using hn j hj⟩
  rw [placeOf, this]
theorem placeOf_none (xs : List (Nat × Int)) (p : Nat) (hn : ∀ j (hj : j < xs.length), xs[j].1 ≠ p) : placeOf xs p = -1 := by
  have : xs.findIdx? (fun x => x.1 == p) = none := by
    rw [List.findIdx?_eq_none_iff]
    intro x hx
    obtain ⟨j, hj, rfl⟩ := List.getElem_of_mem hx
    simpa using hn j hj
  rw [placeOf, this]
/-- The word of a cell. -/
def wordOf (xs : List (Nat × Int)) (p : Nat) : Int := match xs.find? (fun x => x.1 == p) with | some x => x.2 | none => 0
theorem wordOf_some (xs : List (Nat × Int)) (p k : Nat) (h : k < xs.length) (e : xs[k].1 = p) (hn : ∀ j (hj : j < k), xs[j].1 ≠ p) : wordOf xs p = xs[k].2 := by
  have : xs.find? (fun x => x.1 == p) = some xs[k] := by
    rw [List.find?_eq_some_iff_getElem]
    exact ⟨by simpa using e, k, h, rfl, fun j hj => by simpa using hn j hj⟩
  rw [wordOf, this]
theorem wordOf_none (xs : List (Nat × Int)) (p : Nat) (hn : ∀ j (hj : j < xs.length), xs[j].1 ≠ p) : wordOf xs p = 0 := by
  have : xs.find? (fun x => x.1 == p) = none := by
    rw [List.find?_eq_none]
    intro x hx
    obtain ⟨j, hj, rfl⟩ := List.getElem_of_mem hx
    simpa using hn j hj
  rw [wordOf, this]
set_option maxHeartbeats 1000000 in
theorem place33 (vm vc : Value) (ms : List (Nat × Int)) (p : Nat) (w : World) (hm : Sl .i64 w vm ms) (hc : ∃ a n q, vc = .slice a n q) :
    Calls Try.prog 33 #[.agg #[vm, vc], .int .u64 (p : Int)] w fun e w' => e = .returned (.int .i64 (placeOf ms p)) ∧ Below w.heap.size w w' := by
  obtain ⟨W, hW, hb, hsz, c0, c1, _, _⟩ := box2 w vm vc 25
  obtain ⟨ao, cap, rfl, h1, h2, h3, h4⟩ := hm
  obtain ⟨a, n, q, rfl⟩ := hc
  have HC : Hid (∀ i (h : i < ms.length), ∃ b o, ao = some ⟨b, o, none⟩ ∧ W.cell? ⟨b, o + i * 2, none⟩ = some (.int .u64 (ms[i].1 : Int))) := fun i hi => by
    obtain ⟨b, o, e, d0, d1⟩ := h4 i hi
    exact ⟨b, o, e, keep_cell hb d0⟩
  clear h3 h4
  go_enter Try.func33, Try.ntmps33
  go_wp2
  go_loopw [5] (fun i wr => ∃ k : Nat, k ≤ ms.length ∧ i = .int .i64 (k : Int) ∧ W = wr ∧ ∀ j (hj : j < k) (hl : j < ms.length), ms[j].1 ≠ p) (fun i _ => ms.length - (intOf i).toNat)
  case atStart => exact ⟨0, Nat.zero_le _, rfl, rfl, fun j hj => by omega⟩
  case round =>
    obtain ⟨k, hk, rfl, rfl, hno⟩ := hrel
    have HN : Hid _ := hno
    clear hno
    by_cases hkl : k < ms.length
    · obtain ⟨b, o, rfl, d0⟩ := HC.out k hkl
      by_cases hp : ms[k].1 = p
      · have HR : Hid (placeOf ms p = (k : Int)) := placeOf_some ms p k hkl hp (fun j hj => HN.out j hj (by omega))
        rw [hp] at d0
        go_wp2
        go_ret
        exact ⟨by rw [HR.out]; rfl, hb⟩
      · obtain ⟨x, hx⟩ : ∃ x, x = ms[k].1 := ⟨_, rfl⟩
        rw [← hx] at d0 hp
        have hpi : ((x : Int) == (p : Int)) = false := by simp; omega
        go_wp2
        go_roundw
        case rel => exact ⟨k + 1, by omega, by go_num, by first | rfl | trivial, fun j hj hl => by
          by_cases e : j = k
          · subst e; omega
          · exact HN.out j (by omega) hl⟩
        case measure => simp [intOf]; omega
    · have HR : Hid (placeOf ms p = -1) := placeOf_none ms p (fun j hj => HN.out j (by omega) hj)
      go_wp2
      go_ret
      exact ⟨by rw [HR.out]; rfl, hb⟩
set_option maxHeartbeats 1000000 in
theorem word54 (vm vc : Value) (ms : List (Nat × Int)) (p : Nat) (w : World) (hm : Sl .u64 w vm ms) (hc : ∃ a n q, vc = .slice a n q) :
    Calls Try.prog 54 #[.agg #[vc, vm], .int .u64 (p : Int)] w fun e w' => e = .returned (.int .u64 (wordOf ms p)) ∧ Below w.heap.size w w' := by
  obtain ⟨W, hW, hb, hsz, c0, c1, _, _⟩ := box2 w vc vm 25
  obtain ⟨ao, cap, rfl, h1, h2, h3, h4⟩ := hm
  obtain ⟨a, n, q, rfl⟩ := hc
  have HC : Hid (∀ i (h : i < ms.length), ∃ b o, ao = some ⟨b, o, none⟩ ∧ W.cell? ⟨b, o + i * 2, none⟩ = some (.int .u64 (ms[i].1 : Int)) ∧ W.cell? ⟨b, o + i * 2 + 1, none⟩ = some (.int .u64 ms[i].2)) := fun i hi => by
    obtain ⟨b, o, e, d0, d1⟩ := h4 i hi
    exact ⟨b, o, e, keep_cell hb d0, keep_cell hb d1⟩
  clear h3 h4
  go_enter Try.func54, Try.ntmps54
  go_wp2
  go_loopw [5] (fun i wr => ∃ k : Nat, k ≤ ms.length ∧ i = .int .i64 (k : Int) ∧ W = wr ∧ ∀ j (hj : j < k) (hl : j < ms.length), ms[j].1 ≠ p) (fun i _ => ms.length - (intOf i).toNat)
  case atStart => exact ⟨0, Nat.zero_le _, rfl, rfl, fun j hj => by omega⟩
  case round =>
    obtain ⟨k, hk, rfl, rfl, hno⟩ := hrel
    have HN : Hid _ := hno
    clear hno
    by_cases hkl : k < ms.length
    · obtain ⟨b, o, rfl, d0, d1⟩ := HC.out k hkl
      by_cases hp : ms[k].1 = p
      · have HR : Hid (wordOf ms p = ms[k].2) := wordOf_some ms p k hkl hp (fun j hj => HN.out j hj (by omega))
        rw [hp] at d0
        go_wp2
        go_ret
        exact ⟨by rw [HR.out]; rfl, hb⟩
      · obtain ⟨x, hx⟩ : ∃ x, x = ms[k].1 := ⟨_, rfl⟩
        rw [← hx] at d0 hp
        have hpi : ((x : Int) == (p : Int)) = false := by simp; omega
        go_wp2
        go_roundw
        case rel => exact ⟨k + 1, by omega, by go_num, by first | rfl | trivial, fun j hj hl => by
          by_cases e : j = k
          · subst e; omega
          · exact HN.out j (by omega) hl⟩
        case measure => simp [intOf]; omega
    · have HR : Hid (wordOf ms p = 0) := wordOf_none ms p (fun j hj => HN.out j (by omega) hj)
      go_wp2
      go_ret
      exact ⟨by rw [HR.out]; rfl, hb⟩
end Go.Proofs.Ytolmcbnammhjjaa
