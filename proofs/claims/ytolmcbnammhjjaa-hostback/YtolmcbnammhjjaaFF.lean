/- What is proved here: the first fault of some bytes. -/
import Derived.Test.YtolmcbnammhjjaaSorted
import Derived.Test.YtolmcbnammhjjaaHeld
namespace Go.Proofs.Ytolmcbnammhjjaa
open Go.RowKit
set_option linter.unusedVariables false
/-- What is wrong with a byte: 1: no page, 2: no right, 0: nothing. -/
def faultK (ms : List (Nat × Int)) (at_ i : Nat) (need : Int) : Int :=
  match ms.find? (fun x => x.1 == ((at_ + i) % 18446744073709551616) / 16384) with
  | none => 1
  | some x => if 18446744073709551616 ≤ at_ + i then 1 else if bits .and .i64 x.2 need = 0 then 2 else 0
/-- The first fault of bytes from the i-th on. -/
def faultFrom (ms : List (Nat × Int)) (at_ : Nat) (need : Int) : Nat → Nat → Int × Nat
  | _, 0 => (0, 0)
  | i, m + 1 => if faultK ms at_ i need = 0 then faultFrom ms at_ need (i + 1) m else (faultK ms at_ i need, (at_ + i) % 18446744073709551616)
set_option maxHeartbeats 2000000 in
theorem firstFault44 (vm vc : Value) (ms : List (Nat × Int)) (at_ n : Nat) (need : Int) (w : World) (hm : Sl .i64 w vm ms) (hc : ∃ a n p, vc = .slice a n p) (hs : Srt ms) (hl : ms.length ≤ 1073741824) (ha : at_ < 18446744073709551616) (hn : n ≤ 8) :
    Calls Try.prog 44 #[.agg #[vm, vc], .int .u64 (at_ : Int), .int .u64 (n : Int), .int .i64 need] w
      fun e w' => e = .returned (.agg #[.int .i64 (faultFrom ms at_ need 0 n).1, .int .u64 ((faultFrom ms at_ need 0 n).2 : Int)]) ∧ Below w.heap.size w w' := by
  obtain ⟨W, hW, hb, hsz, c0, c1, _, _, g0, g1⟩ := box2b w vm vc (.int .i64 0) (.int .u64 0) 25 39
  have K : Hid (∀ w' (pg : Nat), Below W.heap.size W w' → Calls Try.prog 32 #[vm, .func (.func 28) #[] #[], .int .u64 (pg : Int)] w'
      fun e w'' => e = .returned (.tuple #[.agg #[.int .u64 (((mid ms pg pg).headD (0, 0)).1 : Int), .int .i64 ((mid ms pg pg).headD (0, 0)).2], .bool (!(mid ms pg pg).isEmpty)]) ∧ Below w'.heap.size w' w'') := fun w' pg hb' => found32s vm ms pg w' (hm.keep (below_tr hb hb')) hs hl
  obtain ⟨x, nm, p, rfl⟩ : ∃ a n p, vm = .slice a n p := by obtain ⟨a, p, h, _⟩ := hm; exact ⟨_, _, _, h⟩
  obtain ⟨x', n', p', rfl⟩ := hc
  obtain ⟨F, hF⟩ : ∃ F, F = faultFrom ms at_ need 0 n := ⟨_, rfl⟩
  rw [← hF]
  have HA : Hid (at_ < 18446744073709551616) := ha
  have H0 : Hid (F = faultFrom ms at_ need 0 n) := hF
  clear hm hs hF ha
  go_enter Try.func44, Try.ntmps44
  go_wp2
  go_loopw [14] (fun i wr => ∃ k : Nat, k ≤ n ∧ i = .int .u64 (k : Int) ∧ F = faultFrom ms at_ need k (n - k) ∧ Below W.heap.size W wr) (fun i _ => n - (intOf i).toNat)
  case atStart => exact ⟨0, Nat.zero_le _, rfl, H0.out, Below.refl _ _⟩
  case round =>
    obtain ⟨k, hk, rfl, hfk, hbr⟩ := hrel
    have HFK : Hid (F = faultFrom ms at_ need k (n - k)) := hfk
    clear hfk
    have e0 := keep_cell hbr c0
    have e1 := keep_cell hbr c1
    by_cases hkn : k < n
    · obtain ⟨a, haa⟩ : ∃ a, a = (at_ + k) % 18446744073709551616 := ⟨_, rfl⟩
      obtain ⟨pg, hpg⟩ : ∃ pg, pg = a / 16384 := ⟨_, rfl⟩
      have hA : IntKind.u64.wrap ((at_ : Int) + (k : Int)) = (a : Int) := by rw [IntKind.wrap_u64]; omega
      have hP : IntKind.u64.wrap ((a : Int) / 16384) = (pg : Int) := by rw [IntKind.wrap_u64]; omega
      have hlt : ((a : Int) < (at_ : Int)) ↔ 18446744073709551616 ≤ at_ + k := by have := HA.out; omega
      have HLT : Hid _ := hlt
      have HPG : Hid (pg = ((at_ + k) % 18446744073709551616) / 16384 ∧ a = (at_ + k) % 18446744073709551616) := ⟨by rw [hpg, haa], haa⟩
      have HSTEP : Hid (F = if faultK ms at_ k need = 0 then faultFrom ms at_ need (k + 1) (n - (k + 1)) else (faultK ms at_ k need, a)) := by
        have h := HFK.out
        rw [show n - k = (n - (k + 1)) + 1 by omega, faultFrom, ← haa] at h
        exact h
      have hmf := mid_find ms pg
      have HKK : Hid (faultK ms at_ k need = match (mid ms pg pg).head? with | none => 1 | some x => if 18446744073709551616 ≤ at_ + k then 1 else if bits .and .i64 x.2 need = 0 then 2 else 0) := by
        show _ = _
        rw [hmf, faultK, HPG.out.1]
      have KW := K.out wr pg hbr
      clear hmf hlt haa hpg
      obtain ⟨y1, hy1⟩ : ∃ y, y = ((mid ms pg pg).headD (0, 0)).1 := ⟨_, rfl⟩
      obtain ⟨y2, hy2⟩ : ∃ y, y = ((mid ms pg pg).headD (0, 0)).2 := ⟨_, rfl⟩
      obtain ⟨bb, hbb⟩ : ∃ b, b = !(mid ms pg pg).isEmpty := ⟨_, rfl⟩
      have HK2 : Hid ((bb = false → faultK ms at_ k need = 1) ∧ (bb = true → faultK ms at_ k need = if 18446744073709551616 ≤ at_ + k then 1 else if bits .and .i64 y2 need = 0 then 2 else 0)) := by
        have h := HKK.out
        generalize mid ms pg pg = M at h hy2 hbb
        cases M with
        | nil => exact ⟨fun _ => h, fun e => by rw [e] at hbb; simp at hbb⟩
        | cons y M => exact ⟨fun e => by rw [e] at hbb; simp at hbb, fun _ => by rw [h, hy2]; rfl⟩
      rw [← hy1, ← hy2, ← hbb] at KW
      clear hy1 hy2 hbb HKK
      cases bb with
      | false =>
        have HK3 : Hid (faultK ms at_ k need = 1) := HK2.out.1 rfl
        clear HK2
        go_wp2_with fail
        refine KW.mono ?_
        rintro e wq ⟨rfl, hb1⟩
        have HF : Hid (F = (1, a)) := by
          have h := HSTEP.out
          rw [HK3.out] at h
          show F = (1, a)
          simpa using h
        clear KW
        obtain ⟨W3, hW3, hb3, _, m0, m1, _, _⟩ := box2 wq (.int .u64 (y1 : Int)) (.int .i64 y2) 54
        have G0 : Free W3 ⟨w.heap.size + 1, 0, none⟩ := (by (repeat (first | with_reducible assumption | with_reducible refine Free.drew ?_ | with_reducible refine Free.alloc ?_ _ | with_reducible refine Free.set ?_ _ _ | with_reducible refine Free.keep (by with_reducible assumption) ?_)))
        have G1 : Free W3 ⟨w.heap.size + 1, 1, none⟩ := (by (repeat (first | with_reducible assumption | with_reducible refine Free.drew ?_ | with_reducible refine Free.alloc ?_ _ | with_reducible refine Free.set ?_ _ _ | with_reducible refine Free.keep (by with_reducible assumption) ?_)))
        have q0 := G0.cell
        have q1 := G1.cell
        have q2 := G0.frozen
        have q3 := G1.frozen
        go_wp2
        (try simp only [Exit.inBlock, Exit.then])
        obtain ⟨r0, r1⟩ := res2 W3 (w.heap.size + 1) (.int .i64 1) (.int .u64 (a : Int)) G0 G1
        refine bodyPost_ret (v := .agg #[.int .i64 1, .int .u64 (a : Int)]) ?_ rfl ⟨by first | (rw [HF.out]; done) | (rw [HF.out]; rfl), (by (repeat (first | with_reducible assumption | with_reducible exact Below.refl _ _ | with_reducible refine Below.drew ?_ | with_reducible refine below_alloc ?_ _ | (with_reducible refine below_set ?_ ?_ _; rotate_left; focus (simp; done)) | with_reducible refine below_tr ?_ (by with_reducible assumption))))⟩
        rw [results_cell1 rfl]; simp [go_sem, r0, r1]
      | true =>
        have HK3 : Hid (faultK ms at_ k need = if 18446744073709551616 ≤ at_ + k then 1 else if bits .and .i64 y2 need = 0 then 2 else 0) := HK2.out.2 rfl
        clear HK2
        go_wp2_with fail
        refine KW.mono ?_
        rintro e wq ⟨rfl, hb1⟩
        clear KW
        obtain ⟨W3, hW3, hb3, _, m0, m1, _, _⟩ := box2 wq (.int .u64 (y1 : Int)) (.int .i64 y2) 54
        have G0 : Free W3 ⟨w.heap.size + 1, 0, none⟩ := (by (repeat (first | with_reducible assumption | with_reducible refine Free.drew ?_ | with_reducible refine Free.alloc ?_ _ | with_reducible refine Free.set ?_ _ _ | with_reducible refine Free.keep (by with_reducible assumption) ?_)))
        have G1 : Free W3 ⟨w.heap.size + 1, 1, none⟩ := (by (repeat (first | with_reducible assumption | with_reducible refine Free.drew ?_ | with_reducible refine Free.alloc ?_ _ | with_reducible refine Free.set ?_ _ _ | with_reducible refine Free.keep (by with_reducible assumption) ?_)))
        have q0 := G0.cell
        have q1 := G1.cell
        have q2 := G0.frozen
        have q3 := G1.frozen
        by_cases a1 : (a : Int) < (at_ : Int)
        · have HF : Hid (F = (1, a)) := by
            have h := HSTEP.out
            rw [show faultK ms at_ k need = 1 from by rw [HK3.out, if_pos (HLT.out.1 a1)]] at h
            show F = (1, a)
            simpa using h
          go_wp2
          (try simp only [Exit.inBlock, Exit.then])
          obtain ⟨r0, r1⟩ := res2 W3 (w.heap.size + 1) (.int .i64 1) (.int .u64 (a : Int)) G0 G1
          refine bodyPost_ret (v := .agg #[.int .i64 1, .int .u64 (a : Int)]) ?_ rfl ⟨by first | (rw [HF.out]; done) | (rw [HF.out]; rfl), (by (repeat (first | with_reducible assumption | with_reducible exact Below.refl _ _ | with_reducible refine Below.drew ?_ | with_reducible refine below_alloc ?_ _ | (with_reducible refine below_set ?_ ?_ _; rotate_left; focus (simp; done)) | with_reducible refine below_tr ?_ (by with_reducible assumption))))⟩
          rw [results_cell1 rfl]; simp [go_sem, r0, r1]
        have H1 : Hid (¬ 18446744073709551616 ≤ at_ + k) := fun h => a1 (HLT.out.2 h)
        by_cases a2 : bits .and .i64 y2 need = 0
        · have HF : Hid (F = (2, a)) := by
            have h := HSTEP.out
            rw [show faultK ms at_ k need = 2 from by rw [HK3.out, if_neg H1.out, if_pos a2]] at h
            show F = (2, a)
            simpa using h
          go_wp2
          (try simp only [Exit.inBlock, Exit.then])
          obtain ⟨r0, r1⟩ := res2 W3 (w.heap.size + 1) (.int .i64 2) (.int .u64 (a : Int)) G0 G1
          refine bodyPost_ret (v := .agg #[.int .i64 2, .int .u64 (a : Int)]) ?_ rfl ⟨by first | (rw [HF.out]; done) | (rw [HF.out]; rfl), (by (repeat (first | with_reducible assumption | with_reducible exact Below.refl _ _ | with_reducible refine Below.drew ?_ | with_reducible refine below_alloc ?_ _ | (with_reducible refine below_set ?_ ?_ _; rotate_left; focus (simp; done)) | with_reducible refine below_tr ?_ (by with_reducible assumption))))⟩
          rw [results_cell1 rfl]; simp [go_sem, r0, r1]
        · have HR : Hid (F = faultFrom ms at_ need (k + 1) (n - (k + 1))) := by
            have h := HSTEP.out
            rw [show faultK ms at_ k need = 0 from by rw [HK3.out, if_neg H1.out, if_neg a2]] at h
            show F = faultFrom ms at_ need (k + 1) (n - (k + 1))
            simpa using h
          have A2 : (bits .and .i64 y2 need == 0) = false := by simpa using a2
          go_wp2
          go_roundw
          case rel => exact ⟨k + 1, by omega, by go_num, HR.out, (by (repeat (first | with_reducible assumption | with_reducible exact Below.refl _ _ | with_reducible refine Below.drew ?_ | with_reducible refine below_alloc ?_ _ | (with_reducible refine below_set ?_ ?_ _; rotate_left; focus (simp; done)) | with_reducible refine below_tr ?_ (by with_reducible assumption))))⟩
          case measure => simp [intOf]; omega
    · have HF : Hid (F = (0, 0)) := by
        have h := HFK.out
        rw [show n - k = 0 by omega, faultFrom] at h
        exact h
      obtain ⟨wq, hwq⟩ : ∃ wq, wq = wr := ⟨_, rfl⟩
      subst hwq
      have G0 : Free wq ⟨w.heap.size + 1, 0, none⟩ := (by (repeat (first | with_reducible assumption | with_reducible refine Free.drew ?_ | with_reducible refine Free.alloc ?_ _ | with_reducible refine Free.set ?_ _ _ | with_reducible refine Free.keep (by with_reducible assumption) ?_)))
      have G1 : Free wq ⟨w.heap.size + 1, 1, none⟩ := (by (repeat (first | with_reducible assumption | with_reducible refine Free.drew ?_ | with_reducible refine Free.alloc ?_ _ | with_reducible refine Free.set ?_ _ _ | with_reducible refine Free.keep (by with_reducible assumption) ?_)))
      have q0 := G0.cell
      have q1 := G1.cell
      have q2 := G0.frozen
      have q3 := G1.frozen
      go_wp2
      (try simp only [Exit.inBlock, Exit.then])
      obtain ⟨r0, r1⟩ := res2 wq (w.heap.size + 1) (.int .i64 0) (.int .u64 0) G0 G1
      refine bodyPost_ret (v := .agg #[.int .i64 0, .int .u64 0]) ?_ rfl ⟨by first | (rw [HF.out]; done) | (rw [HF.out]; rfl), (by (repeat (first | with_reducible assumption | with_reducible exact Below.refl _ _ | with_reducible refine Below.drew ?_ | with_reducible refine below_alloc ?_ _ | (with_reducible refine below_set ?_ ?_ _; rotate_left; focus (simp; done)) | with_reducible refine below_tr ?_ (by with_reducible assumption))))⟩
      rw [results_cell1 rfl]; simp [go_sem, r0, r1]

end Go.Proofs.Ytolmcbnammhjjaa
