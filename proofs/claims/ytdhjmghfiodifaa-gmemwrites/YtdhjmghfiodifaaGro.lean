/- What is proved here: the document's faults and bytes. -/
import Derived.Test.YtdhjmghfiodifaaGtx
import Derived.Test.YtdhjmghfiodifaaGby
import Derived.Test.YtdhjmghfiodifaaWRef
import Derived.Test.YtdhjmghfiodifaaGdoc
import Derived.Test.YtdhjmghfiodifaaBackPlain
import Derived.Test.YtdhjmghfiodifaaEach
import Derived.LoopTactic
import Derived.Deep.OwnRows
namespace Go.Proofs.Ytdhjmghfiodifaa
open Go.RowKit
set_option linter.unusedVariables false
set_option linter.unusedSimpArgs false
set_option maxRecDepth 100000
theorem protN_far {ps : List (Nat × Int)} (hps : ∀ x ∈ ps, x.1 < 1048576) {n : Nat} (h : 1048576 ≤ n) : protN ps n = -1 := by
  unfold protN
  rw [List.find?_eq_none.2 (fun x hx => by have := hps x hx; simp; omega)]
theorem protN_in7 {ps : List (Nat × Int)} (h7 : ∀ x ∈ ps, x.2 ≤ 7) (n : Nat) : protN ps n ≤ 7 := by
  unfold protN
  split
  · rename_i x hx
    exact h7 x (List.mem_of_find?_eq_some hx)
  · omega
theorem and_bit {x q : Int} (h0 : 0 ≤ x) (h7 : x ≤ 7) (hq : q = 1 ∨ q = 2 ∨ q = 4) : bits .and .i64 x q = 0 ∧ ¬ bits .and .i64 x q = q ∨ bits .and .i64 x q = q ∧ ¬ bits .and .i64 x q = 0 := by
  have h8 : x = 0 ∨ x = 1 ∨ x = 2 ∨ x = 3 ∨ x = 4 ∨ x = 5 ∨ x = 6 ∨ x = 7 := by omega
  rcases h8 with rfl | rfl | rfl | rfl | rfl | rfl | rfl | rfl <;> rcases hq with rfl | rfl | rfl <;> decide
theorem and_none {x : Int} (h0 : 0 ≤ x) (h7 : x ≤ 7) : bits .and .i64 x 0 = 0 := by
  have h8 : x = 0 ∨ x = 1 ∨ x = 2 ∨ x = 3 ∨ x = 4 ∨ x = 5 ∨ x = 6 ∨ x = 7 := by omega
  rcases h8 with rfl | rfl | rfl | rfl | rfl | rfl | rfl | rfl <;> decide
set_option maxHeartbeats 1000000 in
theorem rkind41 (vm vc vp : Value) (bs at_ : Nat) (need : Int) (ps : List (Nat × Int)) (w : World) (hm : ∃ a n p, vm = .slice a n p) (hc : ∃ a n p, vc = .slice a n p) (hp : Pg.Sl .i64 w vp ps) (hps : ∀ x ∈ ps, x.1 < 1048576) (h7 : ∀ x ∈ ps, x.2 ≤ 7) (hat : at_ < 18446744073709551616) (hq : need = 0 ∨ need = 1 ∨ need = 2 ∨ need = 4) :
    Calls Try.prog 41 #[.agg #[vm, vc, .int .u64 (bs : Int), vp], .int .u64 (at_ : Int), .int .i64 need] w fun e w' => e = .returned (.int .i64 (gk ps need at_)) ∧ Below w.heap.size w w' := by
  obtain ⟨W, hW, hb, hsz, c0, c1, c2, c3, _⟩ := box4 w vm vc (.int .u64 (bs : Int)) vp 29
  have hpW := hp.keep hb
  obtain ⟨ap, pp, rfl, _⟩ := id hpW
  obtain ⟨am, nm, pm, rfl⟩ := hm
  obtain ⟨ac, nc, pc, rfl⟩ := hc
  have K := rprot15 (.slice am nm pm) (.slice ac nc pc) (.slice ap ps.length pp) bs (at_ / 4096) ps W ⟨_, _, _, rfl⟩ ⟨_, _, _, rfl⟩ hpW
  have hg7 := protN_in7 h7 (at_ / 4096)
  have hfar := fun h => protN_far hps (n := at_ / 4096) h
  have hgk : gk ps need at_ = if protN ps (at_ / 4096) < 0 then 1 else if bits .and .i64 (protN ps (at_ / 4096)) need = need then 0 else 2 := rfl
  obtain ⟨np, hnp⟩ : ∃ z, z = ps.length := ⟨_, rfl⟩
  obtain ⟨g, hg⟩ : ∃ z, z = gk ps need at_ := ⟨_, rfl⟩
  obtain ⟨p, hpp⟩ : ∃ z, z = protN ps (at_ / 4096) := ⟨_, rfl⟩
  obtain ⟨q, hqq⟩ : ∃ z, z = at_ / 4096 := ⟨_, rfl⟩
  rw [← hg] at hgk ⊢
  rw [← hpp] at hgk hg7 K hfar
  rw [← hqq] at K
  rw [← hnp] at K hW c3 ⊢
  have HGK : Hid _ := hgk
  clear hgk hg hpp hnp hpW hp
  by_cases hl : 4294967296 ≤ at_
  · have HG : Hid (g = 1) := by
      have h1 := hfar (by omega)
      have h2 := HGK.out
      rw [h1] at h2
      exact h2
    have hl2 : (4294967296 : Int) ≤ (at_ : Int) := by omega
    go_enter Try.func41, Try.ntmps41
    go_wp2
    go_ret
    exact ⟨by rw [HG.out]; rfl, hb⟩
  have hl2 : (at_ : Int) < 4294967296 := by omega
  have w1 : IntKind.u32.wrap (at_ : Int) = (at_ : Int) := by rw [IntKind.wrap_u32]; omega
  have w2 : (at_ : Int) / 4096 = (q : Int) := by omega
  have w3 : (at_ : Int).tdiv 4096 = (q : Int) := by rw [Int.tdiv_eq_ediv_of_nonneg (by omega)]; omega
  have w4 : (q : Int) % 4294967296 = (q : Int) := by omega
  have hl3 : decide ((4294967296 : Int) ≤ (at_ : Int)) = false := by simp only [decide_eq_false_iff_not]; omega
  clear hqq hfar hl hl2
  by_cases hn : p < 0
  · have HG : Hid (g = 1) := by have h2 := HGK.out; rw [if_pos hn] at h2; exact h2
    go_enter Try.func41, Try.ntmps41
    go_wp2_with fail
    refine K.mono ?_
    rintro e w4 ⟨rfl, hb4⟩
    go_wp2
    go_ret
    exact ⟨by rw [HG.out]; rfl, below_tr hb hb4⟩
  have h0 : 0 ≤ p := by omega
  rcases hq with rfl | hq
  · have HG : Hid (g = 0) := by have h2 := HGK.out; rw [if_neg hn, if_pos (and_none h0 hg7)] at h2; exact h2
    go_enter Try.func41, Try.ntmps41
    go_wp2_with fail
    refine K.mono ?_
    rintro e w4 ⟨rfl, hb4⟩
    go_wp2
    go_ret
    exact ⟨by rw [HG.out]; rfl, below_tr hb hb4⟩
  have hq0 : 0 < need := by omega
  rcases and_bit h0 hg7 hq with ⟨e1, e2⟩ | ⟨e1, e2⟩
  · have HG : Hid (g = 2) := by have h2 := HGK.out; rw [if_neg hn, if_neg e2] at h2; exact h2
    clear hq
    go_enter Try.func41, Try.ntmps41
    go_wp2_with fail
    refine K.mono ?_
    rintro e w4 ⟨rfl, hb4⟩
    go_wp2
    go_ret
    exact ⟨by rw [HG.out]; rfl, below_tr hb hb4⟩
  · have HG : Hid (g = 0) := by have h2 := HGK.out; rw [if_neg hn, if_pos e1] at h2; exact h2
    have e3 : (bits .and .i64 p need == 0) = false := by simpa using e2
    have e4 : (bits .and .i64 p need = 0) = False := by simpa using e2
    clear hq e1 e2
    go_enter Try.func41, Try.ntmps41
    go_wp2_with fail
    refine K.mono ?_
    rintro e w4 ⟨rfl, hb4⟩
    go_wp2
    go_ret
    exact ⟨by rw [HG.out]; rfl, below_tr hb hb4⟩
/- The first byte that has a fault. -/
theorem off_inK (a n : Nat) : ∀ k i, i < offP a n k → ∃ j, j < k ∧ offP a n j ≤ i ∧ i < offP a n (j + 1) ∧ offP a n j < n
  | 0, i, h => by simp [offP] at h
  | k + 1, i, h => by
    by_cases c : i < offP a n k
    · obtain ⟨j, h1, h2⟩ := off_inK a n k i c
      exact ⟨j, by omega, h2⟩
    · refine ⟨k, by omega, by omega, h, ?_⟩
      rw [offP] at h
      omega
theorem gk_same {ps : List (Nat × Int)} {asked : Int} {p q : Nat} (h : p / 4096 = q / 4096) : gk ps asked p = gk ps asked q := by unfold gk; rw [h]
theorem ffL_app (ps : List (Nat × Int)) (asked : Int) (ys : List P3) : ∀ xs : List P3, ffL ps asked (xs ++ ys) = if (ffL ps asked xs).1 = 0 then ffL ps asked ys else ffL ps asked xs
  | [] => by simp [ffL]
  | x :: t => by
    rw [List.cons_append, ffL, ffL]
    by_cases c : gk ps asked x.1 = 0
    · rw [if_pos c, if_pos c]; exact ffL_app ps asked ys t
    · rw [if_neg c, if_neg c, if_neg c]
theorem ffL_before (ps : List (Nat × Int)) (asked : Int) (a n : Nat) : ∀ k, (ffL ps asked (pcM a 0 n k)).1 ≠ 0 → ∀ j, a + j < (ffL ps asked (pcM a 0 n k)).2 → gk ps asked (a + j) = 0
  | 0, h => by simp [pcM, ffL] at h
  | k + 1, h => by
    intro j hj
    rw [pcM, ffL_app] at h hj
    by_cases c : (ffL ps asked (pcM a 0 n k)).1 = 0
    · rw [if_pos c] at h hj
      by_cases c2 : offP a n k < n
      · rw [if_pos c2] at hj
        have e : (ffL ps asked [pcOf a 0 n (offP a n k)]).2 ≤ a + offP a n k := by
          rw [ffL]
          split
          · simp [ffL]
          · simp [pcOf]
        obtain ⟨i, h1, h2, h3, h4⟩ := off_inK a n k j (by omega)
        have hz := ffL_all ps asked _ c _ (pcM_mem a 0 n i h4 k h1)
        rw [offP] at h3
        rw [gk_same (q := a + offP a n i) (by omega)]
        simpa [pcOf] using hz
      · rw [if_neg c2] at h; simp [ffL] at h
    · rw [if_neg c] at hj
      exact ffL_before ps asked a n k c j hj
theorem ffL_gk' (ps : List (Nat × Int)) (asked : Int) : ∀ xs : List P3, (ffL ps asked xs).1 ≠ 0 → gk ps asked (ffL ps asked xs).2 = (ffL ps asked xs).1
  | [], h => by simp [ffL] at h
  | x :: t, h => by
    rw [ffL] at h ⊢
    split
    · rename_i c
      rw [if_pos c] at h
      exact ffL_gk' ps asked t h
    · rfl
theorem ask_at {ps : List (Nat × Int)} {asked : Int} {a n i : Nat} (hn : n ≤ 65536) (hi : i < n) (h : gk ps asked (a + i) ≠ 0) (hb : ∀ j, j < i → gk ps asked (a + j) = 0) : ffN ps a n asked = (gk ps asked (a + i), a + i) := by
  have h1 : (ffN ps a n asked).1 ≠ 0 := fun e => h (((ffN_bytes ps a n asked).1 e).2 i hi)
  have hin := ffN_in hn h1
  have e : ffN ps a n asked = ffL ps asked (pcM a 0 n n) := by unfold ffN; rw [if_neg (by omega)]
  have hg := ffL_gk' ps asked (pcM a 0 n n) (by rw [← e]; exact h1)
  have hbf := ffL_before ps asked a n n (by rw [← e]; exact h1)
  rw [← e] at hg hbf
  have e2 : (ffN ps a n asked).2 = a + i := by
    rcases Nat.lt_trichotomy (ffN ps a n asked).2 (a + i) with c | c | c
    · have := hb ((ffN ps a n asked).2 - a) (by omega)
      rw [show a + ((ffN ps a n asked).2 - a) = (ffN ps a n asked).2 by omega, hg] at this
      exact absurd this h1
    · exact c
    · exact absurd (hbf i c) h
  rw [e2] at hg
  exact Prod.ext hg.symm e2
theorem ret_pair {kd g : Int} {fa at_ : Nat} (h : (kd, fa) = (g, at_)) : Ending.returned (.agg #[.int .i64 g, .int .u64 (at_ : Int)]) = .returned (.agg #[.int .i64 kd, .int .u64 (fa : Int)]) := by
  cases h; rfl
theorem ask_no {ps : List (Nat × Int)} {asked : Int} {a n : Nat} (hn : n ≤ 65536) (hb : ∀ j, j < n → gk ps asked (a + j) = 0) : ffN ps a n asked = (0, 0) := (ffN_zero ps a n asked ((ffN_bytes ps a n asked).2 ⟨hn, hb⟩)).1
set_option maxHeartbeats 1000000 in
theorem rask32 (vm vc vp : Value) (bs a n : Nat) (need : Int) (ps : List (Nat × Int)) (w : World) (hm : ∃ a n p, vm = .slice a n p) (hc : ∃ a n p, vc = .slice a n p) (hp : Pg.Sl .i64 w vp ps) (hps : ∀ x ∈ ps, x.1 < 1048576) (h7 : ∀ x ∈ ps, x.2 ≤ 7) (ha : a < 4294967296) (hn : n ≤ 65536) (hq : need = 0 ∨ need = 1 ∨ need = 2 ∨ need = 4) :
    Calls Try.prog 32 #[.agg #[vm, vc, .int .u64 (bs : Int), vp], .int .u32 (a : Int), .int .i64 (n : Int), .int .i64 need] w fun e w' => e = .returned (.agg #[.int .i64 (ffN ps a n need).1, .int .u64 ((ffN ps a n need).2 : Int)]) ∧ Below w.heap.size w w' := by
  obtain ⟨X, hX, hb, hsz, c0, c1, c2, c3, g0, g1⟩ := box42 w vm vc (.int .u64 (bs : Int)) vp (.int .i64 0) (.int .u64 0)
  obtain ⟨ap, pp, rfl, _⟩ := id hp
  obtain ⟨am, nm, pm, rfl⟩ := hm
  obtain ⟨ac, nc, pc, rfl⟩ := hc
  have K : Hid (∀ (at_ : Nat) w', Below X.heap.size X w' → at_ < 18446744073709551616 → Calls Try.prog 41 #[.agg #[.slice am nm pm, .slice ac nc pc, .int .u64 (bs : Int), .slice ap ps.length pp], .int .u64 (at_ : Int), .int .i64 need] w' fun e w'' => e = .returned (.int .i64 (gk ps need at_)) ∧ Below w'.heap.size w' w'') := fun at_ w' hb' hat => rkind41 _ _ _ bs at_ need ps w' ⟨_, _, _, rfl⟩ ⟨_, _, _, rfl⟩ (hp.keep (below_tr hb hb')) hps h7 hat hq
  have FIN : Hid (∀ wq x y, Below X.heap.size X wq → (Free wq ⟨w.heap.size + 1, 0, none⟩ ∧ Free wq ⟨w.heap.size + 1, 1, none⟩) ∧ Below w.heap.size w ((wq.setCell ⟨w.heap.size + 1, 0, none⟩ x).setCell ⟨w.heap.size + 1, 1, none⟩ y) ∧ ((wq.setCell ⟨w.heap.size + 1, 0, none⟩ x).setCell ⟨w.heap.size + 1, 1, none⟩ y).cell? ⟨w.heap.size + 1, 0, none⟩ = some x ∧ ((wq.setCell ⟨w.heap.size + 1, 0, none⟩ x).setCell ⟨w.heap.size + 1, 1, none⟩ y).cell? ⟨w.heap.size + 1, 1, none⟩ = some y) := fun wq x y hbq => by
    have F0 : Free wq ⟨w.heap.size + 1, 0, none⟩ := ⟨⟨_, keep_cell hbq g0.cell⟩, keep_frozen hbq (by simp; omega) g0.frozen⟩
    have F1 : Free wq ⟨w.heap.size + 1, 1, none⟩ := ⟨⟨_, keep_cell hbq g1.cell⟩, keep_frozen hbq (by simp; omega) g1.frozen⟩
    obtain ⟨s0, s1⟩ := res2 wq (w.heap.size + 1) x y F0 F1
    exact ⟨⟨F0, F1⟩, ((below_tr hb hbq).setCell (by simp) _).setCell (by simp) _, s0, s1⟩
  have HF : Hid (∀ i, i < n → gk ps need (a + i) ≠ 0 → (∀ j, j < i → gk ps need (a + j) = 0) → ffN ps a n need = (gk ps need (a + i), a + i)) := fun i h1 h2 h3 => ask_at hn h1 h2 h3
  have HN : Hid ((∀ j, j < n → gk ps need (a + j) = 0) → ffN ps a n need = (0, 0)) := fun h => ask_no hn h
  obtain ⟨F, hF⟩ : ∃ z, z = ffN ps a n need := ⟨_, rfl⟩
  obtain ⟨np, hnp⟩ : ∃ z, z = ps.length := ⟨_, rfl⟩
  rw [← hF] at HF HN ⊢
  rw [← hnp] at K c3 hX ⊢
  obtain ⟨kd, fa⟩ := F
  simp only at ⊢
  clear hF hnp g0 g1 hq hps h7 hp
  have wa : IntKind.u64.wrap (a : Int) = (a : Int) := by rw [IntKind.wrap_u64]; omega
  go_enter Try.func32, Try.ntmps32
  go_wp2
  go_loopw [9] (fun i wr => ∃ k : Nat, k ≤ n ∧ i = .int .i64 (k : Int) ∧ (∀ j, j < k → gk ps need (a + j) = 0) ∧ Below X.heap.size X wr) (fun i _ => n - (intOf i).toNat)
  case atStart => exact ⟨0, Nat.zero_le _, rfl, fun j hj => by omega, Below.refl _ _⟩
  case round =>
    obtain ⟨k, hk, rfl, hal, hbr⟩ := hrel
    have HA : Hid _ := hal
    clear hal
    have c0 := keep_cell hbr c0
    have c1 := keep_cell hbr c1
    have c2 := keep_cell hbr c2
    have c3 := keep_cell hbr c3
    by_cases hkl : k < n
    · obtain ⟨at_, hat⟩ : ∃ z, z = a + k := ⟨_, rfl⟩
      have wk : IntKind.u64.wrap (k : Int) = (k : Int) := by rw [IntKind.wrap_u64]; omega
      have ws : IntKind.u64.wrap ((a : Int) + (k : Int)) = (at_ : Int) := by rw [IntKind.wrap_u64]; omega
      have ws2 : (a : Int) + (k : Int) = (at_ : Int) := by omega
      have R := K.out at_ wr hbr (by omega)
      obtain ⟨g, hg⟩ : ∃ z, z = gk ps need at_ := ⟨_, rfl⟩
      rw [← hg] at R
      have HG : Hid (g = gk ps need (a + k) ∧ at_ = a + k) := ⟨by rw [hg, hat], hat⟩
      clear hg hat
      by_cases hz : g = 0
      · subst hz
        go_wp2_with fail
        refine R.mono ?_
        rintro e w4 ⟨rfl, hb4⟩
        go_wp2
        go_roundw
        case rel => exact ⟨k + 1, by omega, by go_num, fun j hj => by
          by_cases e : j = k
          · subst e; exact HG.out.1.symm
          · exact HA.out j (by omega), below_tr hbr hb4⟩
        case measure => simp [intOf]; omega
      · have hz1 : (g != 0) = true := by simp [hz]
        have HE : Hid ((kd, fa) = (g, at_)) := by
          have h := HF.out k hkl (by rw [← HG.out.1]; exact hz) HA.out
          rw [← HG.out.1, ← HG.out.2] at h
          exact h
        clear hz
        go_wp2_with fail
        refine R.mono ?_
        rintro e w4 ⟨rfl, hb4⟩
        obtain ⟨⟨F0, F1⟩, u0, u1, u2⟩ := FIN.out w4 (.int .i64 g) (.int .u64 (at_ : Int)) (below_tr hbr hb4)
        have HU : Hid _ := u0
        have q0 := F0.cell
        have q1 := F1.cell
        have q2 := F0.frozen
        have q3 := F1.frozen
        clear F0 F1 u0
        have HU1 : Hid _ := u1
        have HU2 : Hid _ := u2
        clear u1 u2
        go_wp2
        refine bodyPost_ret (v := .agg #[.int .i64 g, .int .u64 (at_ : Int)]) ?_ rfl ⟨ret_pair HE.out, HU.out⟩
        have u1 := HU1.out
        have u2 := HU2.out
        rw [results_cell1 rfl]; simp [go_sem, u1, u2]
    · obtain rfl : k = n := by omega
      have HE : Hid ((kd, fa) = ((0, 0) : Int × Nat)) := HN.out HA.out
      obtain ⟨⟨F0, F1⟩, u0, u1, u2⟩ := FIN.out wr (.int .i64 0) (.int .u64 0) hbr
      have HU : Hid _ := u0
      have q0 := F0.cell
      have q1 := F1.cell
      have q2 := F0.frozen
      have q3 := F1.frozen
      have HU1 : Hid _ := u1
      have HU2 : Hid _ := u2
      clear F0 F1 u0 u1 u2
      go_wp2
      refine bodyPost_ret (v := .agg #[.int .i64 0, .int .u64 0]) ?_ rfl ⟨ret_pair HE.out, HU.out⟩
      have u1 := HU1.out
      have u2 := HU2.out
      rw [results_cell1 rfl]; simp [go_sem, u1, u2]
end Go.Proofs.Ytdhjmghfiodifaa
