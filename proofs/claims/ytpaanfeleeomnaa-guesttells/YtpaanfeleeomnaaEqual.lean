/- What is proved here: the library's Equal of lists of pairs. -/
import Derived.Test.YtpaanfeleeomnaaHeld
import Derived.Laws.StructEq
namespace Go.Proofs.Ytpaanfeleeomnaa
open Go.RowKit
set_option maxRecDepth 100000
set_option linter.unusedVariables false
set_option maxHeartbeats 1000000 in
theorem equal34 (v v' : Value) (xs ys : List (Nat × Int)) (w : World) (hx : Sl .i64 w v xs) (hy : Sl .i64 w v' ys) (hl : xs.length ≤ 1073741824) :
    Calls Try.prog 60 #[v, v'] w fun e w' => e = .returned (.bool (decide (xs = ys))) ∧ Below w.heap.size w w' := by
  obtain ⟨ax, cx, rfl, x1, x2, x3, x4⟩ := hx
  obtain ⟨ay, cy, rfl, y1, y2, y3, y4⟩ := hy
  have HX : Hid _ := x4
  have HY : Hid _ := y4
  clear x4 y4 x3 y3
  by_cases hlen : xs.length = ys.length
  · rw [← hlen] at y1 ⊢
    have HL : Hid _ := hlen
    clear hlen
    go_enter Try.func60, Try.ntmps60
    go_wp2
    go_loopw [13] (fun i wr => ∃ k : Nat, k ≤ xs.length ∧ i = .int .i64 (k : Int) ∧ xs.take k = ys.take k ∧ Below w.heap.size w wr) (fun i _ => xs.length - (intOf i).toNat)
    case atStart => exact ⟨0, Nat.zero_le _, rfl, rfl, Below.refl _ _⟩
    case round =>
      obtain ⟨k, hk, rfl, htk, hb⟩ := hrel
      have HT : Hid _ := htk
      clear htk
      by_cases hkl : k < xs.length
      · have hkl' : k < ys.length := by rw [← HL.out]; exact hkl
        obtain ⟨b, o, rfl, d0, d1⟩ := HX.out k hkl
        obtain ⟨b', o', rfl, d0', d1'⟩ := HY.out k hkl'
        have e0 := keep_cell hb d0
        have e1 := keep_cell hb d1
        have e0' := keep_cell hb d0'
        have e1' := keep_cell hb d1'
        clear d0 d1 d0' d1'
        by_cases he : xs[k] = ys[k]'(by rw [← HL.out]; exact hkl)
        · have HR : Hid (xs.take (k + 1) = ys.take (k + 1)) := by
            rw [List.take_add_one, List.take_add_one, HT.out, List.getElem?_eq_getElem hkl, List.getElem?_eq_getElem (by rw [← HL.out]; exact hkl), he]; rfl
          rw [← he] at e0' e1'
          obtain ⟨p, hp⟩ : ∃ p, p = xs[k].1 := ⟨_, rfl⟩
          obtain ⟨r, hr⟩ : ∃ r, r = xs[k].2 := ⟨_, rfl⟩
          rw [← hp] at e0 e0'
          rw [← hr] at e1 e1'
          clear he hp hr
          go_wp2
          go_region_held3 (fun w' => Below w.heap.size w w' ∧ w'.cell? ⟨b, o + k * 2, none⟩ = some (.int .u64 (p : Int)) ∧ w'.cell? ⟨b, o + k * 2 + 1, none⟩ = some (.int .i64 r) ∧ w'.cell? ⟨b', o' + k * 2, none⟩ = some (.int .u64 (p : Int)) ∧ w'.cell? ⟨b', o' + k * 2 + 1, none⟩ = some (.int .i64 r)) (refine ⟨?_, ?_, ?_, ?_, ?_⟩ <;> first | (with_reducible refine Free.cell ?_; (repeat (first | with_reducible assumption | with_reducible refine Free.drew ?_ | with_reducible refine Free.alloc ?_ _ | with_reducible refine Free.set ?_ _ _ | with_reducible refine Free.keep (by with_reducible assumption) ?_)); done) | (with_reducible refine Free.frozen ?_; (repeat (first | with_reducible assumption | with_reducible refine Free.drew ?_ | with_reducible refine Free.alloc ?_ _ | with_reducible refine Free.set ?_ _ _ | with_reducible refine Free.keep (by with_reducible assumption) ?_)); done) | ((repeat (first | with_reducible assumption | with_reducible exact Below.refl _ _ | with_reducible refine Below.drew ?_ | with_reducible refine below_alloc ?_ _ | (with_reducible refine below_set ?_ ?_ _; rotate_left; focus (simp; done)) | with_reducible refine below_tr ?_ (by with_reducible assumption))); done) | ((repeat (first | with_reducible assumption | with_reducible refine cell_drew ?_ | (with_reducible refine cell_newA _ _ _ _ _ _ ?_ rfl; (simp [*]; done)) | with_reducible refine cell_old ?_ _ | (with_reducible refine cell_far ?_ ?_ _; rotate_left; focus (simp; done)) | with_reducible refine keep_cell (by with_reducible assumption) ?_)); done)) (fail)
          all_goals go_wp2
          go_roundw
          case rel => exact ⟨k + 1, by omega, by go_num, HR.out, (by (repeat (first | with_reducible assumption | with_reducible exact Below.refl _ _ | with_reducible refine Below.drew ?_ | with_reducible refine below_alloc ?_ _ | (with_reducible refine below_set ?_ ?_ _; rotate_left; focus (simp; done)) | with_reducible refine below_tr ?_ (by with_reducible assumption))))⟩
          case measure => simp [intOf]; omega
        · have HR : Hid (decide (xs = ys) = false) := by
            have h : ¬ xs = ys := by intro e; subst e; exact he rfl
            simp [Hid, h]
          obtain ⟨p, hp⟩ : ∃ p, p = xs[k].1 := ⟨_, rfl⟩
          obtain ⟨r, hr⟩ : ∃ r, r = xs[k].2 := ⟨_, rfl⟩
          obtain ⟨p', hp'⟩ : ∃ p, p = (ys[k]'(by rw [← HL.out]; exact hkl)).1 := ⟨_, rfl⟩
          obtain ⟨r', hr'⟩ : ∃ r, r = (ys[k]'(by rw [← HL.out]; exact hkl)).2 := ⟨_, rfl⟩
          have hne : p = p' → ¬ r = r' := by
            rintro h1 h2
            exact he (Prod.ext (by rw [← hp, ← hp', h1]) (by rw [← hr, ← hr', h2]))
          rw [← hp] at e0
          rw [← hr] at e1
          rw [← hp'] at e0'
          rw [← hr'] at e1'
          clear he hp hr hp' hr'
          rcases (show ¬ ((p : Int) = (p' : Int)) ∨ (p = p' ∧ ¬ r = r') by
            by_cases e : p = p'
            · exact Or.inr ⟨e, hne e⟩
            · exact Or.inl (by omega)) with hq | ⟨rfl, hq⟩
          · clear hne
            go_wp2
            go_region_held3 (fun w' => Below w.heap.size w w' ∧ w'.cell? ⟨b, o + k * 2, none⟩ = some (.int .u64 (p : Int)) ∧ w'.cell? ⟨b, o + k * 2 + 1, none⟩ = some (.int .i64 r) ∧ w'.cell? ⟨b', o' + k * 2, none⟩ = some (.int .u64 (p' : Int)) ∧ w'.cell? ⟨b', o' + k * 2 + 1, none⟩ = some (.int .i64 r')) (refine ⟨?_, ?_, ?_, ?_, ?_⟩ <;> first | (with_reducible refine Free.cell ?_; (repeat (first | with_reducible assumption | with_reducible refine Free.drew ?_ | with_reducible refine Free.alloc ?_ _ | with_reducible refine Free.set ?_ _ _ | with_reducible refine Free.keep (by with_reducible assumption) ?_)); done) | (with_reducible refine Free.frozen ?_; (repeat (first | with_reducible assumption | with_reducible refine Free.drew ?_ | with_reducible refine Free.alloc ?_ _ | with_reducible refine Free.set ?_ _ _ | with_reducible refine Free.keep (by with_reducible assumption) ?_)); done) | ((repeat (first | with_reducible assumption | with_reducible exact Below.refl _ _ | with_reducible refine Below.drew ?_ | with_reducible refine below_alloc ?_ _ | (with_reducible refine below_set ?_ ?_ _; rotate_left; focus (simp; done)) | with_reducible refine below_tr ?_ (by with_reducible assumption))); done) | ((repeat (first | with_reducible assumption | with_reducible refine cell_drew ?_ | (with_reducible refine cell_newA _ _ _ _ _ _ ?_ rfl; (simp [*]; done)) | with_reducible refine cell_old ?_ _ | (with_reducible refine cell_far ?_ ?_ _; rotate_left; focus (simp; done)) | with_reducible refine keep_cell (by with_reducible assumption) ?_)); done)) (fail)
            all_goals go_wp2
            all_goals go_ret
            all_goals exact ⟨by rw [HR.out]; rfl, (by (repeat (first | with_reducible assumption | with_reducible exact Below.refl _ _ | with_reducible refine Below.drew ?_ | with_reducible refine below_alloc ?_ _ | (with_reducible refine below_set ?_ ?_ _; rotate_left; focus (simp; done)) | with_reducible refine below_tr ?_ (by with_reducible assumption))))⟩
          · clear hne
            go_wp2
            go_region_held3 (fun w' => Below w.heap.size w w' ∧ w'.cell? ⟨b, o + k * 2, none⟩ = some (.int .u64 (p : Int)) ∧ w'.cell? ⟨b, o + k * 2 + 1, none⟩ = some (.int .i64 r) ∧ w'.cell? ⟨b', o' + k * 2, none⟩ = some (.int .u64 (p : Int)) ∧ w'.cell? ⟨b', o' + k * 2 + 1, none⟩ = some (.int .i64 r')) (refine ⟨?_, ?_, ?_, ?_, ?_⟩ <;> first | (with_reducible refine Free.cell ?_; (repeat (first | with_reducible assumption | with_reducible refine Free.drew ?_ | with_reducible refine Free.alloc ?_ _ | with_reducible refine Free.set ?_ _ _ | with_reducible refine Free.keep (by with_reducible assumption) ?_)); done) | (with_reducible refine Free.frozen ?_; (repeat (first | with_reducible assumption | with_reducible refine Free.drew ?_ | with_reducible refine Free.alloc ?_ _ | with_reducible refine Free.set ?_ _ _ | with_reducible refine Free.keep (by with_reducible assumption) ?_)); done) | ((repeat (first | with_reducible assumption | with_reducible exact Below.refl _ _ | with_reducible refine Below.drew ?_ | with_reducible refine below_alloc ?_ _ | (with_reducible refine below_set ?_ ?_ _; rotate_left; focus (simp; done)) | with_reducible refine below_tr ?_ (by with_reducible assumption))); done) | ((repeat (first | with_reducible assumption | with_reducible refine cell_drew ?_ | (with_reducible refine cell_newA _ _ _ _ _ _ ?_ rfl; (simp [*]; done)) | with_reducible refine cell_old ?_ _ | (with_reducible refine cell_far ?_ ?_ _; rotate_left; focus (simp; done)) | with_reducible refine keep_cell (by with_reducible assumption) ?_)); done)) (fail)
            all_goals go_wp2
            all_goals go_ret
            all_goals exact ⟨by rw [HR.out]; rfl, (by (repeat (first | with_reducible assumption | with_reducible exact Below.refl _ _ | with_reducible refine Below.drew ?_ | with_reducible refine below_alloc ?_ _ | (with_reducible refine below_set ?_ ?_ _; rotate_left; focus (simp; done)) | with_reducible refine below_tr ?_ (by with_reducible assumption))))⟩
      · have HR : Hid (decide (xs = ys) = true) := by
          have h : xs = ys := by
            have := HT.out
            rwa [List.take_of_length_le (by omega), List.take_of_length_le (by rw [← HL.out]; omega)] at this
          simp [Hid, h]
        go_wp2
        go_ret
        exact ⟨by rw [HR.out]; rfl, hb⟩
  · have HR : decide (xs = ys) = false := by
      have h : ¬ xs = ys := by intro e; subst e; exact hlen rfl
      simp [h]
    have hlen' : ((xs.length : Int) == (ys.length : Int)) = false := by simp; omega
    rw [HR]
    clear HR HX HY
    go_enter Try.func60, Try.ntmps60
    go_wp2
    go_ret
    exact ⟨rfl, Below.refl _ _⟩
set_option maxHeartbeats 1000000 in
theorem equal35 (v v' : Value) (xs ys : List (Nat × Int)) (w : World) (hx : Sl .u64 w v xs) (hy : Sl .u64 w v' ys) (hl : xs.length ≤ 1073741824) :
    Calls Try.prog 61 #[v, v'] w fun e w' => e = .returned (.bool (decide (xs = ys))) ∧ Below w.heap.size w w' := by
  obtain ⟨ax, cx, rfl, x1, x2, x3, x4⟩ := hx
  obtain ⟨ay, cy, rfl, y1, y2, y3, y4⟩ := hy
  have HX : Hid _ := x4
  have HY : Hid _ := y4
  clear x4 y4 x3 y3
  by_cases hlen : xs.length = ys.length
  · rw [← hlen] at y1 ⊢
    have HL : Hid _ := hlen
    clear hlen
    go_enter Try.func61, Try.ntmps61
    go_wp2
    go_loopw [13] (fun i wr => ∃ k : Nat, k ≤ xs.length ∧ i = .int .i64 (k : Int) ∧ xs.take k = ys.take k ∧ Below w.heap.size w wr) (fun i _ => xs.length - (intOf i).toNat)
    case atStart => exact ⟨0, Nat.zero_le _, rfl, rfl, Below.refl _ _⟩
    case round =>
      obtain ⟨k, hk, rfl, htk, hb⟩ := hrel
      have HT : Hid _ := htk
      clear htk
      by_cases hkl : k < xs.length
      · have hkl' : k < ys.length := by rw [← HL.out]; exact hkl
        obtain ⟨b, o, rfl, d0, d1⟩ := HX.out k hkl
        obtain ⟨b', o', rfl, d0', d1'⟩ := HY.out k hkl'
        have e0 := keep_cell hb d0
        have e1 := keep_cell hb d1
        have e0' := keep_cell hb d0'
        have e1' := keep_cell hb d1'
        clear d0 d1 d0' d1'
        by_cases he : xs[k] = ys[k]'(by rw [← HL.out]; exact hkl)
        · have HR : Hid (xs.take (k + 1) = ys.take (k + 1)) := by
            rw [List.take_add_one, List.take_add_one, HT.out, List.getElem?_eq_getElem hkl, List.getElem?_eq_getElem (by rw [← HL.out]; exact hkl), he]; rfl
          rw [← he] at e0' e1'
          obtain ⟨p, hp⟩ : ∃ p, p = xs[k].1 := ⟨_, rfl⟩
          obtain ⟨r, hr⟩ : ∃ r, r = xs[k].2 := ⟨_, rfl⟩
          rw [← hp] at e0 e0'
          rw [← hr] at e1 e1'
          clear he hp hr
          go_wp2
          go_region_held3 (fun w' => Below w.heap.size w w' ∧ w'.cell? ⟨b, o + k * 2, none⟩ = some (.int .u64 (p : Int)) ∧ w'.cell? ⟨b, o + k * 2 + 1, none⟩ = some (.int .u64 r) ∧ w'.cell? ⟨b', o' + k * 2, none⟩ = some (.int .u64 (p : Int)) ∧ w'.cell? ⟨b', o' + k * 2 + 1, none⟩ = some (.int .u64 r)) (refine ⟨?_, ?_, ?_, ?_, ?_⟩ <;> first | (with_reducible refine Free.cell ?_; (repeat (first | with_reducible assumption | with_reducible refine Free.drew ?_ | with_reducible refine Free.alloc ?_ _ | with_reducible refine Free.set ?_ _ _ | with_reducible refine Free.keep (by with_reducible assumption) ?_)); done) | (with_reducible refine Free.frozen ?_; (repeat (first | with_reducible assumption | with_reducible refine Free.drew ?_ | with_reducible refine Free.alloc ?_ _ | with_reducible refine Free.set ?_ _ _ | with_reducible refine Free.keep (by with_reducible assumption) ?_)); done) | ((repeat (first | with_reducible assumption | with_reducible exact Below.refl _ _ | with_reducible refine Below.drew ?_ | with_reducible refine below_alloc ?_ _ | (with_reducible refine below_set ?_ ?_ _; rotate_left; focus (simp; done)) | with_reducible refine below_tr ?_ (by with_reducible assumption))); done) | ((repeat (first | with_reducible assumption | with_reducible refine cell_drew ?_ | (with_reducible refine cell_newA _ _ _ _ _ _ ?_ rfl; (simp [*]; done)) | with_reducible refine cell_old ?_ _ | (with_reducible refine cell_far ?_ ?_ _; rotate_left; focus (simp; done)) | with_reducible refine keep_cell (by with_reducible assumption) ?_)); done)) (fail)
          all_goals go_wp2
          go_roundw
          case rel => exact ⟨k + 1, by omega, by go_num, HR.out, (by (repeat (first | with_reducible assumption | with_reducible exact Below.refl _ _ | with_reducible refine Below.drew ?_ | with_reducible refine below_alloc ?_ _ | (with_reducible refine below_set ?_ ?_ _; rotate_left; focus (simp; done)) | with_reducible refine below_tr ?_ (by with_reducible assumption))))⟩
          case measure => simp [intOf]; omega
        · have HR : Hid (decide (xs = ys) = false) := by
            have h : ¬ xs = ys := by intro e; subst e; exact he rfl
            simp [Hid, h]
          obtain ⟨p, hp⟩ : ∃ p, p = xs[k].1 := ⟨_, rfl⟩
          obtain ⟨r, hr⟩ : ∃ r, r = xs[k].2 := ⟨_, rfl⟩
          obtain ⟨p', hp'⟩ : ∃ p, p = (ys[k]'(by rw [← HL.out]; exact hkl)).1 := ⟨_, rfl⟩
          obtain ⟨r', hr'⟩ : ∃ r, r = (ys[k]'(by rw [← HL.out]; exact hkl)).2 := ⟨_, rfl⟩
          have hne : p = p' → ¬ r = r' := by
            rintro h1 h2
            exact he (Prod.ext (by rw [← hp, ← hp', h1]) (by rw [← hr, ← hr', h2]))
          rw [← hp] at e0
          rw [← hr] at e1
          rw [← hp'] at e0'
          rw [← hr'] at e1'
          clear he hp hr hp' hr'
          rcases (show ¬ ((p : Int) = (p' : Int)) ∨ (p = p' ∧ ¬ r = r') by
            by_cases e : p = p'
            · exact Or.inr ⟨e, hne e⟩
            · exact Or.inl (by omega)) with hq | ⟨rfl, hq⟩
          · clear hne
            go_wp2
            go_region_held3 (fun w' => Below w.heap.size w w' ∧ w'.cell? ⟨b, o + k * 2, none⟩ = some (.int .u64 (p : Int)) ∧ w'.cell? ⟨b, o + k * 2 + 1, none⟩ = some (.int .u64 r) ∧ w'.cell? ⟨b', o' + k * 2, none⟩ = some (.int .u64 (p' : Int)) ∧ w'.cell? ⟨b', o' + k * 2 + 1, none⟩ = some (.int .u64 r')) (refine ⟨?_, ?_, ?_, ?_, ?_⟩ <;> first | (with_reducible refine Free.cell ?_; (repeat (first | with_reducible assumption | with_reducible refine Free.drew ?_ | with_reducible refine Free.alloc ?_ _ | with_reducible refine Free.set ?_ _ _ | with_reducible refine Free.keep (by with_reducible assumption) ?_)); done) | (with_reducible refine Free.frozen ?_; (repeat (first | with_reducible assumption | with_reducible refine Free.drew ?_ | with_reducible refine Free.alloc ?_ _ | with_reducible refine Free.set ?_ _ _ | with_reducible refine Free.keep (by with_reducible assumption) ?_)); done) | ((repeat (first | with_reducible assumption | with_reducible exact Below.refl _ _ | with_reducible refine Below.drew ?_ | with_reducible refine below_alloc ?_ _ | (with_reducible refine below_set ?_ ?_ _; rotate_left; focus (simp; done)) | with_reducible refine below_tr ?_ (by with_reducible assumption))); done) | ((repeat (first | with_reducible assumption | with_reducible refine cell_drew ?_ | (with_reducible refine cell_newA _ _ _ _ _ _ ?_ rfl; (simp [*]; done)) | with_reducible refine cell_old ?_ _ | (with_reducible refine cell_far ?_ ?_ _; rotate_left; focus (simp; done)) | with_reducible refine keep_cell (by with_reducible assumption) ?_)); done)) (fail)
            all_goals go_wp2
            all_goals go_ret
            all_goals exact ⟨by rw [HR.out]; rfl, (by (repeat (first | with_reducible assumption | with_reducible exact Below.refl _ _ | with_reducible refine Below.drew ?_ | with_reducible refine below_alloc ?_ _ | (with_reducible refine below_set ?_ ?_ _; rotate_left; focus (simp; done)) | with_reducible refine below_tr ?_ (by with_reducible assumption))))⟩
          · clear hne
            go_wp2
            go_region_held3 (fun w' => Below w.heap.size w w' ∧ w'.cell? ⟨b, o + k * 2, none⟩ = some (.int .u64 (p : Int)) ∧ w'.cell? ⟨b, o + k * 2 + 1, none⟩ = some (.int .u64 r) ∧ w'.cell? ⟨b', o' + k * 2, none⟩ = some (.int .u64 (p : Int)) ∧ w'.cell? ⟨b', o' + k * 2 + 1, none⟩ = some (.int .u64 r')) (refine ⟨?_, ?_, ?_, ?_, ?_⟩ <;> first | (with_reducible refine Free.cell ?_; (repeat (first | with_reducible assumption | with_reducible refine Free.drew ?_ | with_reducible refine Free.alloc ?_ _ | with_reducible refine Free.set ?_ _ _ | with_reducible refine Free.keep (by with_reducible assumption) ?_)); done) | (with_reducible refine Free.frozen ?_; (repeat (first | with_reducible assumption | with_reducible refine Free.drew ?_ | with_reducible refine Free.alloc ?_ _ | with_reducible refine Free.set ?_ _ _ | with_reducible refine Free.keep (by with_reducible assumption) ?_)); done) | ((repeat (first | with_reducible assumption | with_reducible exact Below.refl _ _ | with_reducible refine Below.drew ?_ | with_reducible refine below_alloc ?_ _ | (with_reducible refine below_set ?_ ?_ _; rotate_left; focus (simp; done)) | with_reducible refine below_tr ?_ (by with_reducible assumption))); done) | ((repeat (first | with_reducible assumption | with_reducible refine cell_drew ?_ | (with_reducible refine cell_newA _ _ _ _ _ _ ?_ rfl; (simp [*]; done)) | with_reducible refine cell_old ?_ _ | (with_reducible refine cell_far ?_ ?_ _; rotate_left; focus (simp; done)) | with_reducible refine keep_cell (by with_reducible assumption) ?_)); done)) (fail)
            all_goals go_wp2
            all_goals go_ret
            all_goals exact ⟨by rw [HR.out]; rfl, (by (repeat (first | with_reducible assumption | with_reducible exact Below.refl _ _ | with_reducible refine Below.drew ?_ | with_reducible refine below_alloc ?_ _ | (with_reducible refine below_set ?_ ?_ _; rotate_left; focus (simp; done)) | with_reducible refine below_tr ?_ (by with_reducible assumption))))⟩
      · have HR : Hid (decide (xs = ys) = true) := by
          have h : xs = ys := by
            have := HT.out
            rwa [List.take_of_length_le (by omega), List.take_of_length_le (by rw [← HL.out]; omega)] at this
          simp [Hid, h]
        go_wp2
        go_ret
        exact ⟨by rw [HR.out]; rfl, hb⟩
  · have HR : decide (xs = ys) = false := by
      have h : ¬ xs = ys := by intro e; subst e; exact hlen rfl
      simp [h]
    have hlen' : ((xs.length : Int) == (ys.length : Int)) = false := by simp; omega
    rw [HR]
    clear HR HX HY
    go_enter Try.func61, Try.ntmps61
    go_wp2
    go_ret
    exact ⟨rfl, Below.refl _ _⟩
end Go.Proofs.Ytpaanfeleeomnaa
