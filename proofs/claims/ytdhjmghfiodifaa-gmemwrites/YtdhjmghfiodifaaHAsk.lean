/- What is proved here: what stage 3 has of Ask (the host's bytes). -/
import Derived.Test.YtdhjmghfiodifaaBackPlain
import Derived.Test.YtdhjmghfiodifaaH
namespace Go.Proofs.Ytdhjmghfiodifaa
open Go.RowKit
set_option maxRecDepth 100000
set_option linter.unusedVariables false
set_option linter.unusedSimpArgs false
set_option maxHeartbeats 1000000 in
theorem fault61 (vm vc : Value) (ms : List (Nat × Int)) (a : Nat) (need : Int) (w : World) (hm : Sl .i64 w vm ms) (hc : ∃ x n q, vc = .slice x n q) (ha : a < 18446744073709551616) :
    Calls Try.prog 113 #[.agg #[vm, vc], .int .u64 (a : Int), .int .i64 need] w fun e w' => e = .returned (.int .i64 (faultR ms a need)) ∧ Below w.heap.size w w' := by
  obtain ⟨W, hW, hb, hsz, c0, c1, _, _⟩ := box2 w vm vc 25
  have K33 := place33 vm vc ms (a / 16384) W (hm.keep hb) hc
  obtain ⟨pg, hpg⟩ : ∃ x, x = a / 16384 := ⟨_, rfl⟩
  have x1 : IntKind.u64.wrap ((a : Int) / 16384) = (pg : Int) := by rw [IntKind.wrap_u64]; omega
  obtain ⟨ao, cap, rfl, h1, h2, h3, h4⟩ := hm.keep hb
  obtain ⟨x, n, q, rfl⟩ := hc
  rw [← hpg] at K33
  rcases place_find ms pg with ⟨p1, p2⟩ | ⟨k, hk, p1, p2⟩
  · have HR : Hid (faultR ms a need = 1) := by show _ = _; rw [faultR, ← hpg, p2]
    rw [p1] at K33
    clear h4 hm p1 p2 hpg h3
    go_enter Try.func113, Try.ntmps113
    go_wp2_with fail
    refine K33.mono ?_
    rintro e w1 ⟨rfl, hb1⟩
    go_wp2
    go_ret
    exact ⟨by rw [HR.out]; rfl, below_tr hb hb1⟩
  · obtain ⟨b, o, rfl, d0, d1⟩ := h4 k hk
    have HF : Hid (faultR ms a need = if bits .and .i64 ms[k].2 need = 0 then 2 else 0) := by show _ = _; rw [faultR, ← hpg, p2]
    rw [p1] at K33
    generalize ms[k].2 = r at d1 HF
    clear h4 hm p1 p2 hpg h3 d0
    by_cases hz : bits .and .i64 r need = 0
    · have HR : Hid (faultR ms a need = 2) := by show _ = _; rw [HF.out, if_pos hz]
      have hz' : (bits .and .i64 r need == 0) = true := by simpa using hz
      clear hz HF
      go_enter Try.func113, Try.ntmps113
      go_wp2_with fail
      refine K33.mono ?_
      rintro e w1 ⟨rfl, hb1⟩
      have c0 := keep_cell hb1 c0
      have d1 := keep_cell hb1 d1
      go_wp2
      go_ret
      exact ⟨by rw [HR.out]; rfl, below_tr hb hb1⟩
    · have HR : Hid (faultR ms a need = 0) := by show _ = _; rw [HF.out, if_neg hz]
      have hz' : (bits .and .i64 r need == 0) = false := by simpa using hz
      clear hz HF
      go_enter Try.func113, Try.ntmps113
      go_wp2_with fail
      refine K33.mono ?_
      rintro e w1 ⟨rfl, hb1⟩
      have c0 := keep_cell hb1 c0
      have d1 := keep_cell hb1 d1
      go_wp2
      go_ret
      exact ⟨by rw [HR.out]; rfl, below_tr hb hb1⟩
set_option maxHeartbeats 2000000 in
theorem ask48 (vm vc : Value) (ms : List (Nat × Int)) (at_ n : Nat) (need : Int) (w : World) (hm : Sl .i64 w vm ms) (hc : ∃ a n p, vc = .slice a n p) (ha : at_ < 18446744073709551616) (hn : n ≤ 8) :
    Calls Try.prog 91 #[.agg #[vm, vc], .int .u64 (at_ : Int), .int .i64 (n : Int), .int .i64 need] w
      fun e w' => e = .returned (.agg #[.int .i64 (faultFrom ms at_ need 0 n).1, .int .u64 ((faultFrom ms at_ need 0 n).2 : Int)]) ∧ Below w.heap.size w w' := by
  obtain ⟨W, hW, hb, hsz, c0, c1, _, _, g0, g1⟩ := box2b w vm vc (.int .i64 0) (.int .u64 0) 25 34
  have K : Hid (∀ w' (a : Nat), a < 18446744073709551616 → Below W.heap.size W w' → Calls Try.prog 113 #[.agg #[vm, vc], .int .u64 (a : Int), .int .i64 need] w' fun e w'' => e = .returned (.int .i64 (faultR ms a need)) ∧ Below w'.heap.size w' w'') := fun w' a h hb' => fault61 vm vc ms a need w' (hm.keep (below_tr hb hb')) hc h
  obtain ⟨x, nm, p, rfl⟩ : ∃ a n p, vm = .slice a n p := by obtain ⟨a, p, h, _⟩ := hm; exact ⟨_, _, _, h⟩
  obtain ⟨x', n', p', rfl⟩ := hc
  obtain ⟨F, hF⟩ : ∃ F, F = faultFrom ms at_ need 0 n := ⟨_, rfl⟩
  rw [← hF]
  have HA : Hid (at_ < 18446744073709551616) := ha
  have H0 : Hid (F = faultFrom ms at_ need 0 n) := hF
  clear hm hF ha
  go_enter Try.func91, Try.ntmps91
  go_wp2
  go_loopw [9] (fun i wr => ∃ k : Nat, k ≤ n ∧ i = .int .i64 (k : Int) ∧ F = faultFrom ms at_ need k (n - k) ∧ Below W.heap.size W wr) (fun i _ => n - (intOf i).toNat)
  case atStart => exact ⟨0, Nat.zero_le _, rfl, H0.out, Below.refl _ _⟩
  case round =>
    obtain ⟨k, hk, rfl, hfk, hbr⟩ := hrel
    have HFK : Hid (F = faultFrom ms at_ need k (n - k)) := hfk
    clear hfk
    have e0 := keep_cell hbr c0
    have e1 := keep_cell hbr c1
    have f0 := g0.keep hbr
    have f1 := g1.keep hbr
    have hbw := below_tr hb hbr
    by_cases hkn : k < n
    · obtain ⟨a, haa⟩ : ∃ a, a = (at_ + k) % 18446744073709551616 := ⟨_, rfl⟩
      have xk : IntKind.u64.wrap (k : Int) = (k : Int) := by rw [IntKind.wrap_u64]; omega
      have hA : IntKind.u64.wrap ((at_ : Int) + (k : Int)) = (a : Int) := by rw [IntKind.wrap_u64]; omega
      have HLT : Hid (a < at_ ↔ 18446744073709551616 ≤ at_ + k) := by have := HA.out; show _ ↔ _; omega
      have hal : a < 18446744073709551616 := by omega
      have HSTEP : Hid (F = if faultK ms at_ k need = 0 then faultFrom ms at_ need (k + 1) (n - (k + 1)) else (faultK ms at_ k need, a)) := by
        have h := HFK.out
        rw [show n - k = (n - (k + 1)) + 1 by omega, faultFrom, ← haa] at h
        exact h
      have HKR : Hid (faultK ms at_ k need = if 18446744073709551616 ≤ at_ + k then 1 else faultR ms a need) := by show _ = _; rw [haa]; exact faultK_R ms at_ k need
      have KW := K.out wr a hal hbr
      obtain ⟨fr, hfr⟩ : ∃ x, x = faultR ms a need := ⟨_, rfl⟩
      rw [← hfr] at KW HKR
      clear haa hal hfr
      by_cases hov : a < at_
      · have HF : Hid (F = (1, a)) := by
          have h := HSTEP.out
          rw [HKR.out, if_pos (HLT.out.1 hov)] at h
          show F = (1, a)
          simpa using h
        go_wp2_with fail
        refine KW.mono ?_
        rintro e wq ⟨rfl, hb1⟩
        have G0 : Free wq ⟨w.heap.size + 1, 0, none⟩ := (by (repeat (first | with_reducible assumption | with_reducible refine Free.drew ?_ | with_reducible refine Free.alloc ?_ _ | with_reducible refine Free.set ?_ _ _ | with_reducible refine Free.keep (by with_reducible assumption) ?_)))
        have G1 : Free wq ⟨w.heap.size + 1, 1, none⟩ := (by (repeat (first | with_reducible assumption | with_reducible refine Free.drew ?_ | with_reducible refine Free.alloc ?_ _ | with_reducible refine Free.set ?_ _ _ | with_reducible refine Free.keep (by with_reducible assumption) ?_)))
        have q0 := G0.cell
        have q1 := G1.cell
        have q2 := G0.frozen
        have q3 := G1.frozen
        go_wp2
        (try simp only [Exit.inBlock, Exit.then])
        obtain ⟨r0, r1⟩ := res2 wq (w.heap.size + 1) (.int .i64 1) (.int .u64 (a : Int)) G0 G1
        refine bodyPost_ret (v := .agg #[.int .i64 1, .int .u64 (a : Int)]) ?_ rfl ⟨by rw [HF.out]; first | rfl | done, (by (repeat (first | with_reducible assumption | with_reducible exact Below.refl _ _ | with_reducible refine Below.drew ?_ | with_reducible refine below_alloc ?_ _ | (with_reducible refine below_set ?_ ?_ _; rotate_left; focus (first | (simp; done) | (simp; omega))) | with_reducible refine below_tr ?_ (by with_reducible assumption))))⟩
        rw [results_cell1 rfl]; simp [go_sem, r0, r1]
      · by_cases hz : fr = 0
        · have HF : Hid (F = faultFrom ms at_ need (k + 1) (n - (k + 1))) := by
            have h := HSTEP.out
            rw [HKR.out, if_neg (fun h => hov (HLT.out.2 h)), if_pos hz] at h
            exact h
          subst hz
          go_wp2_with fail
          refine KW.mono ?_
          rintro e wq ⟨rfl, hb1⟩
          have hbx := below_tr hbr hb1
          go_wp2
          go_roundw
          case rel => exact ⟨k + 1, by omega, by go_num, HF.out, hbx⟩
          case measure => simp [intOf]; omega
        · have HF : Hid (F = (fr, a)) := by
            have h := HSTEP.out
            rw [HKR.out, if_neg (fun h => hov (HLT.out.2 h)), if_neg hz] at h
            exact h
          have hz' : (fr != 0) = true := by simpa using hz
          clear hz
          go_wp2_with fail
          refine KW.mono ?_
          rintro e wq ⟨rfl, hb1⟩
          have G0 : Free wq ⟨w.heap.size + 1, 0, none⟩ := (by (repeat (first | with_reducible assumption | with_reducible refine Free.drew ?_ | with_reducible refine Free.alloc ?_ _ | with_reducible refine Free.set ?_ _ _ | with_reducible refine Free.keep (by with_reducible assumption) ?_)))
          have G1 : Free wq ⟨w.heap.size + 1, 1, none⟩ := (by (repeat (first | with_reducible assumption | with_reducible refine Free.drew ?_ | with_reducible refine Free.alloc ?_ _ | with_reducible refine Free.set ?_ _ _ | with_reducible refine Free.keep (by with_reducible assumption) ?_)))
          have q0 := G0.cell
          have q1 := G1.cell
          have q2 := G0.frozen
          have q3 := G1.frozen
          go_wp2
          (try simp only [Exit.inBlock, Exit.then])
          obtain ⟨r0, r1⟩ := res2 wq (w.heap.size + 1) (.int .i64 fr) (.int .u64 (a : Int)) G0 G1
          refine bodyPost_ret (v := .agg #[.int .i64 fr, .int .u64 (a : Int)]) ?_ rfl ⟨by rw [HF.out]; first | rfl | done, (by (repeat (first | with_reducible assumption | with_reducible exact Below.refl _ _ | with_reducible refine Below.drew ?_ | with_reducible refine below_alloc ?_ _ | (with_reducible refine below_set ?_ ?_ _; rotate_left; focus (first | (simp; done) | (simp; omega))) | with_reducible refine below_tr ?_ (by with_reducible assumption))))⟩
          rw [results_cell1 rfl]; simp [go_sem, r0, r1]
    · have HF : Hid (F = (0, 0)) := by
        have h := HFK.out
        rw [show n - k = 0 by omega] at h
        exact h
      have G0 : Free wr ⟨w.heap.size + 1, 0, none⟩ := f0
      have G1 : Free wr ⟨w.heap.size + 1, 1, none⟩ := (by (repeat (first | with_reducible assumption | with_reducible refine Free.drew ?_ | with_reducible refine Free.alloc ?_ _ | with_reducible refine Free.set ?_ _ _ | with_reducible refine Free.keep (by with_reducible assumption) ?_)))
      have q0 := G0.cell
      have q1 := G1.cell
      have q2 := G0.frozen
      have q3 := G1.frozen
      go_wp2
      (try simp only [Exit.inBlock, Exit.then])
      obtain ⟨r0, r1⟩ := res2 wr (w.heap.size + 1) (.int .i64 0) (.int .u64 0) G0 G1
      refine bodyPost_ret (v := .agg #[.int .i64 0, .int .u64 0]) ?_ rfl ⟨by rw [HF.out]; first | rfl | done, (by (repeat (first | with_reducible assumption | with_reducible exact Below.refl _ _ | with_reducible refine Below.drew ?_ | with_reducible refine below_alloc ?_ _ | (with_reducible refine below_set ?_ ?_ _; rotate_left; focus (first | (simp; done) | (simp; omega))) | with_reducible refine below_tr ?_ (by with_reducible assumption))))⟩
      rw [results_cell1 rfl]; simp [go_sem, r0, r1]
end Go.Proofs.Ytdhjmghfiodifaa
