/- What is proved here: what stage 3 has of Rstore (the host's bytes). -/
import Derived.Test.YtdhjmghfiodifaaPokePlain
import Derived.Test.YtdhjmghfiodifaaH
import Derived.Test.YtdhjmghfiodifaaHAsk
import Derived.Test.YtdhjmghfiodifaaHPoke
namespace Go.Proofs.Ytdhjmghfiodifaa
open Go.RowKit
set_option maxRecDepth 100000
set_option linter.unusedVariables false
set_option linter.unusedSimpArgs false
set_option maxHeartbeats 2000000 in
theorem rstore23_out (vm vc : Value) (ms cs : List (Nat × Int)) (a v : Nat) (k : Int) (w : World) (hm : Sl .i64 w vm ms) (hc : Sl .u64 w vc cs) (hn : k < 1 ∨ 8 < k) :
    Calls Try.prog 68 #[.agg #[vm, vc], .int .u64 (a : Int), .int .i64 k, .int .u64 (v : Int)] w fun e w' => ∃ vc', e = .returned (.tuple #[.agg #[vm, vc'], .agg #[.int .i64 0, .int .u64 0]]) ∧ Sl .u64 w' vc' cs ∧ Below w.heap.size w w' := by
  obtain ⟨W, hW, hb, hsz, c0, c1, g0, g1, g2, g3⟩ := box2c w vm vc (.slice none 0 0) (.slice none 0 0) (.int .i64 0) (.int .u64 0) 25 25 34
  obtain ⟨x, nm, p, rfl⟩ : ∃ a n p, vm = .slice a n p := by obtain ⟨a, p, h, _⟩ := hm; exact ⟨_, _, _, h⟩
  obtain ⟨x', nc, p', rfl⟩ : ∃ a n p, vc = .slice a n p := by obtain ⟨a, p, h, _⟩ := hc; exact ⟨_, _, _, h⟩
  have G0 := g0
  have G1 := g1
  have G2 := g2
  have G3 := g3
  have hbw := hb
  rcases hn with hn | hn
  · go_enter Try.func68, Try.ntmps68
    have i0 := G0.cell
    have i1 := G1.cell
    have i2 := G2.cell
    have i3 := G3.cell
    have j0 := G0.frozen
    have j1 := G1.frozen
    have j2 := G2.frozen
    have j3 := G3.frozen
    have SC : Hid (Sl .u64 ((((W.setCell ⟨w.heap.size + 1, 0, none⟩ (.slice x nm p)).setCell ⟨w.heap.size + 1, 1, none⟩ (.slice x' nc p')).setCell ⟨w.heap.size + 1 + 1, 0, none⟩ (.int .i64 0)).setCell ⟨w.heap.size + 1 + 1, 1, none⟩ (.int .u64 0)) (.slice x' nc p') cs) := sl_set4 hc hb (by omega) (by omega)
    have SB : Hid (Below w.heap.size w ((((W.setCell ⟨w.heap.size + 1, 0, none⟩ (.slice x nm p)).setCell ⟨w.heap.size + 1, 1, none⟩ (.slice x' nc p')).setCell ⟨w.heap.size + 1 + 1, 0, none⟩ (.int .i64 0)).setCell ⟨w.heap.size + 1 + 1, 1, none⟩ (.int .u64 0))) := below_set (below_set (below_set (below_set hbw (by simp) _) (by simp) _) (by simp; omega) _) (by simp; omega) _
    go_wp2
    (try simp only [Exit.inBlock, Exit.then])
    obtain ⟨r0, r1, r2, r3⟩ := res4 W (w.heap.size + 1) (w.heap.size + 1 + 1) (.slice x nm p) (.slice x' nc p') (.int .i64 0) (.int .u64 0) (by omega) G0 G1 G2 G3
    refine bodyPost_ret (v := .tuple #[.agg #[.slice x nm p, (.slice x' nc p')], .agg #[.int .i64 0, .int .u64 0]]) ?_ rfl ⟨_, rfl, SC.out, SB.out⟩
    rw [results_cells rfl]; simp [go_sem, r0, r1, r2, r3]
  · go_enter Try.func68, Try.ntmps68
    have i0 := G0.cell
    have i1 := G1.cell
    have i2 := G2.cell
    have i3 := G3.cell
    have j0 := G0.frozen
    have j1 := G1.frozen
    have j2 := G2.frozen
    have j3 := G3.frozen
    have SC : Hid (Sl .u64 ((((W.setCell ⟨w.heap.size + 1, 0, none⟩ (.slice x nm p)).setCell ⟨w.heap.size + 1, 1, none⟩ (.slice x' nc p')).setCell ⟨w.heap.size + 1 + 1, 0, none⟩ (.int .i64 0)).setCell ⟨w.heap.size + 1 + 1, 1, none⟩ (.int .u64 0)) (.slice x' nc p') cs) := sl_set4 hc hb (by omega) (by omega)
    have SB : Hid (Below w.heap.size w ((((W.setCell ⟨w.heap.size + 1, 0, none⟩ (.slice x nm p)).setCell ⟨w.heap.size + 1, 1, none⟩ (.slice x' nc p')).setCell ⟨w.heap.size + 1 + 1, 0, none⟩ (.int .i64 0)).setCell ⟨w.heap.size + 1 + 1, 1, none⟩ (.int .u64 0))) := below_set (below_set (below_set (below_set hbw (by simp) _) (by simp) _) (by simp; omega) _) (by simp; omega) _
    go_wp2
    (try simp only [Exit.inBlock, Exit.then])
    obtain ⟨r0, r1, r2, r3⟩ := res4 W (w.heap.size + 1) (w.heap.size + 1 + 1) (.slice x nm p) (.slice x' nc p') (.int .i64 0) (.int .u64 0) (by omega) G0 G1 G2 G3
    refine bodyPost_ret (v := .tuple #[.agg #[.slice x nm p, (.slice x' nc p')], .agg #[.int .i64 0, .int .u64 0]]) ?_ rfl ⟨_, rfl, SC.out, SB.out⟩
    rw [results_cells rfl]; simp [go_sem, r0, r1, r2, r3]
set_option maxHeartbeats 4000000 in
set_option maxRecDepth 100000 in
theorem rstore23 (vm vc : Value) (ms cs : List (Nat × Int)) (a k v : Nat) (w : World) (hm : Sl .i64 w vm ms) (hc : Sl .u64 w vc cs) (HQ : FitQ ms cs) (lc : cs.length ≤ 60000) (hw : Words cs) (hrc : ∀ y ∈ cs, y.1 < 18446744073709551616)
    (ha : a < 18446744073709551616) (k1 : 1 ≤ k) (k8 : k ≤ 8) (hv : v < 18446744073709551616) :
    Calls Try.prog 68 #[.agg #[vm, vc], .int .u64 (a : Int), .int .i64 (k : Int), .int .u64 (v : Int)] w fun e w' => ∃ vc', e = .returned (.tuple #[.agg #[vm, vc'], .agg #[.int .i64 (faultFrom ms a 2 0 k).1, .int .u64 ((faultFrom ms a 2 0 k).2 : Int)]]) ∧ Sl .u64 w' vc' (storeV ms cs a k v) ∧ Below w.heap.size w w' := by
  obtain ⟨W, hW, hb, hsz, c0, c1, g0, g1, g2, g3⟩ := box2c w vm vc (.slice none 0 0) (.slice none 0 0) (.int .i64 0) (.int .u64 0) 25 25 34
  obtain ⟨x, nm, p, rfl⟩ : ∃ a n p, vm = .slice a n p := by obtain ⟨a, p, h, _⟩ := hm; exact ⟨_, _, _, h⟩
  obtain ⟨x', nc, p', rfl⟩ : ∃ a n p, vc = .slice a n p := by obtain ⟨a, p, h, _⟩ := hc; exact ⟨_, _, _, h⟩
  have K48 : Hid (Calls Try.prog 91 #[.agg #[.slice x nm p, .slice x' nc p'], .int .u64 (a : Int), .int .i64 (k : Int), .int .i64 2] W fun e w' => e = .returned (.agg #[.int .i64 (faultFrom ms a 2 0 k).1, .int .u64 ((faultFrom ms a 2 0 k).2 : Int)]) ∧ Below W.heap.size W w') :=
    ask48 (.slice x nm p) (.slice x' nc p') ms a k 2 W (hm.keep hb) ⟨_, _, _, rfl⟩ ha k8
  by_cases hf : (faultFrom ms a 2 0 k).1 = 0
  case neg =>
    rw [storeV, if_neg hf]
    generalize (faultFrom ms a 2 0 k).1 = fk at K48 hf ⊢
    generalize (faultFrom ms a 2 0 k).2 = fa at K48 ⊢
    have hne : (fk != 0) = true := by simpa using hf
    have HSC : Hid (Sl .u64 w (.slice x' nc p') cs) := hc
    clear hm hc hf ha HQ hw hrc
    go_enter Try.func68, Try.ntmps68
    go_wp2_with fail
    refine K48.out.mono ?_
    rintro e w1 ⟨rfl, hb1⟩
    obtain ⟨W3, hW3, hb3, _, m0, m1, _, _⟩ := box2 w1 (.int .i64 fk) (.int .u64 (fa : Int)) 34
    have e0 := keep_cell hb3 (keep_cell hb1 c0)
    have e1 := keep_cell hb3 (keep_cell hb1 c1)
    have hlt : w.heap.size + 2 < w1.heap.size := by have := hb1.size; omega
    have HLT : Hid (w.heap.size + 2 < w1.heap.size) := hlt
    clear hlt K48
    have G0 : Free W3 ⟨w.heap.size + 1, 0, none⟩ := (by (repeat (first | with_reducible assumption | with_reducible refine Free.drew ?_ | with_reducible refine Free.alloc ?_ _ | with_reducible refine Free.set ?_ _ _ | with_reducible refine Free.keep (by with_reducible assumption) ?_)))
    have G1 : Free W3 ⟨w.heap.size + 1, 1, none⟩ := (by (repeat (first | with_reducible assumption | with_reducible refine Free.drew ?_ | with_reducible refine Free.alloc ?_ _ | with_reducible refine Free.set ?_ _ _ | with_reducible refine Free.keep (by with_reducible assumption) ?_)))
    have G2 : Free W3 ⟨w.heap.size + 1 + 1, 0, none⟩ := (by (repeat (first | with_reducible assumption | with_reducible refine Free.drew ?_ | with_reducible refine Free.alloc ?_ _ | with_reducible refine Free.set ?_ _ _ | with_reducible refine Free.keep (by with_reducible assumption) ?_)))
    have G3 : Free W3 ⟨w.heap.size + 1 + 1, 1, none⟩ := (by (repeat (first | with_reducible assumption | with_reducible refine Free.drew ?_ | with_reducible refine Free.alloc ?_ _ | with_reducible refine Free.set ?_ _ _ | with_reducible refine Free.keep (by with_reducible assumption) ?_)))
    have i0 := G0.cell
    have i1 := G1.cell
    have i2 := G2.cell
    have i3 := G3.cell
    have j0 := G0.frozen
    have j1 := G1.frozen
    have j2 := G2.frozen
    have j3 := G3.frozen
    have hbW3 : Below W.heap.size W W3 := below_tr hb1 hb3
    have hbw3 : Below w.heap.size w W3 := below_tr hb hbW3
    clear hb1 hb3
    go_wp2
    go_region_held3 (fun w' => Below w.heap.size w w' ∧ w'.cell? ⟨w.heap.size, 0, none⟩ = some (.slice x nm p) ∧ w'.cell? ⟨w.heap.size, 1, none⟩ = some (.slice x' nc p') ∧ w'.cell? ⟨w1.heap.size, 0, none⟩ = some (.int .i64 fk) ∧ w'.cell? ⟨w1.heap.size, 1, none⟩ = some (.int .u64 (fa : Int)) ∧ w'.cell? ⟨w.heap.size + 1, 0, none⟩ = some (cellAt w' ⟨w.heap.size + 1, 0, none⟩) ∧ w'.cell? ⟨w.heap.size + 1, 1, none⟩ = some (cellAt w' ⟨w.heap.size + 1, 1, none⟩) ∧ w'.cell? ⟨w.heap.size + 1 + 1, 0, none⟩ = some (cellAt w' ⟨w.heap.size + 1 + 1, 0, none⟩) ∧ w'.cell? ⟨w.heap.size + 1 + 1, 1, none⟩ = some (cellAt w' ⟨w.heap.size + 1 + 1, 1, none⟩) ∧ w'.frozen? ⟨w.heap.size + 1, 0, none⟩ = false ∧ w'.frozen? ⟨w.heap.size + 1, 1, none⟩ = false ∧ w'.frozen? ⟨w.heap.size + 1 + 1, 0, none⟩ = false ∧ w'.frozen? ⟨w.heap.size + 1 + 1, 1, none⟩ = false)
      (refine ⟨?_, ?_, ?_, ?_, ?_, ?_, ?_, ?_, ?_, ?_, ?_, ?_, ?_⟩ <;> first | (with_reducible refine Free.cell ?_; (repeat (first | with_reducible assumption | with_reducible refine Free.drew ?_ | with_reducible refine Free.alloc ?_ _ | with_reducible refine Free.set ?_ _ _ | with_reducible refine Free.keep (by with_reducible assumption) ?_)); done) | (with_reducible refine Free.frozen ?_; (repeat (first | with_reducible assumption | with_reducible refine Free.drew ?_ | with_reducible refine Free.alloc ?_ _ | with_reducible refine Free.set ?_ _ _ | with_reducible refine Free.keep (by with_reducible assumption) ?_)); done) | ((repeat (first | with_reducible assumption | with_reducible exact Below.refl _ _ | with_reducible refine Below.drew ?_ | with_reducible refine below_alloc ?_ _ | (with_reducible refine below_set ?_ ?_ _; rotate_left; focus (first | (simp; done) | (simp; omega))) | with_reducible refine below_tr ?_ (by with_reducible assumption))); done) | ((repeat (first | with_reducible assumption | with_reducible refine cell_drew ?_ | with_reducible refine cell_old ?_ _ | (with_reducible refine cell_far ?_ ?_ _; rotate_left; focus (first | (simp; done) | (have := HLT.out; simp; omega))) | with_reducible refine keep_cell (by with_reducible assumption) ?_)); done)) (fail)
    all_goals (go_wp2; (try simp only [Exit.inBlock, Exit.then]))
    all_goals have r := res4 W3 (w.heap.size + 1) (w.heap.size + 1 + 1) (.slice x nm p) (.slice x' nc p') (.int .i64 fk) (.int .u64 (fa : Int)) (by omega) G0 G1 G2 G3
    all_goals obtain ⟨r0, r1, r2, r3⟩ := r
    all_goals refine bodyPost_ret (v := .tuple #[.agg #[.slice x nm p, .slice x' nc p'], .agg #[.int .i64 fk, .int .u64 (fa : Int)]]) ?_ rfl ⟨_, rfl, HSC.out.keep (by (repeat (first | with_reducible assumption | with_reducible exact Below.refl _ _ | with_reducible refine Below.drew ?_ | with_reducible refine below_alloc ?_ _ | (with_reducible refine below_set ?_ ?_ _; rotate_left; focus (first | (simp; done) | (simp; omega))) | with_reducible refine below_tr ?_ (by with_reducible assumption)))), (by (repeat (first | with_reducible assumption | with_reducible exact Below.refl _ _ | with_reducible refine Below.drew ?_ | with_reducible refine below_alloc ?_ _ | (with_reducible refine below_set ?_ ?_ _; rotate_left; focus (first | (simp; done) | (simp; omega))) | with_reducible refine below_tr ?_ (by with_reducible assumption))))⟩
    all_goals (rw [results_cells rfl]; simp [go_sem, r0, r1, r2, r3])
  rw [storeV, if_pos hf]
  obtain ⟨hf0, hfj⟩ := faultFrom_kind ms a 2 k 0 hf
  have hlast : a + (k - 1) < 18446744073709551616 := faultK_lt ms a (k - 1) 2 (hfj _ (by omega) (by omega))
  rw [hf0] at K48 ⊢
  rw [← pokes_store HQ hw hrc (by omega) a k v k1 k8 hf]
  obtain ⟨zs, hzs⟩ : ∃ z, z = pokes cs a v k := ⟨_, rfl⟩
  rw [← hzs]
  have HZ : Hid (zs = pokes cs a v k) := hzs
  have K52 : Hid (∀ m, m < k → ∀ vx wr, Below w.heap.size w wr → Sl .u64 wr vx (pokes cs a v m) → Calls Try.prog 92 #[.agg #[.slice x nm p, vx], .int .u64 ((a + m : Nat) : Int), .int .u8 ((v / 256 ^ m % 256 : Nat) : Int)] wr fun e w' => ∃ s1 s2 s3, e = .returned (.agg #[.slice x nm p, .slice s1 s2 s3]) ∧ w'.ownsRow wr.heap.size 85 2 (.slice s1 s2 s3) (pokes cs a v (m + 1)).length (rowOf .u64 (pokes cs a v (m + 1))) ∧ Below wr.heap.size wr w') := fun m hmk vx wr hbr hsl => by
    obtain ⟨f1, f2, f3⟩ := pokes_facts HQ.2.2.2.1 hw a v m
    refine (poke52 (.slice x nm p) vx ms (pokes cs a v m) (a + m) (v / 256 ^ m % 256) wr (hm.keep hbr) hsl f1 (by omega) f2 (by omega) (Nat.mod_lt _ (by omega))).mono ?_
    rintro e w' ⟨vc', rfl, ho, hB⟩
    obtain ⟨s1, s2, s3, rfl⟩ := own_shape ho
    exact ⟨s1, s2, s3, rfl, ho, hB⟩
  have HSC : Hid (Sl .u64 w (.slice x' nc p') (pokes cs a v 0)) := hc
  have HL : Hid (a + (k - 1) < 18446744073709551616) := hlast
  have HV : Hid (∀ m, m < k → v / 256 ^ m < 18446744073709551616 ∧ v / 256 ^ (m + 1) = v / 256 ^ m / 256) := fun m _ => ⟨Nat.lt_of_le_of_lt (Nat.div_le_self _ _) hv, by rw [Nat.pow_succ, Nat.div_div_eq_div_mul]⟩
  obtain ⟨X, hX, _, _, _, _, fx0, fx1, _, _⟩ := box2b w (.slice x nm p) (.slice x' nc p') (.slice none 0 0) (.slice none 0 0) 25 25
  have HF0 : Hid (W.frozen? ⟨w.heap.size, 0, none⟩ = false) := by rw [← hW, hX]; exact (fx0.alloc _).frozen
  have HF1 : Hid (W.frozen? ⟨w.heap.size, 1, none⟩ = false) := by rw [← hW, hX]; exact (fx1.alloc _).frozen
  clear fx0 fx1 hX
  clear hm hc hf hfj hf0 hlast HQ hw hrc ha hzs hv
  go_enter Try.func68, Try.ntmps68
  go_wp2_with fail
  refine K48.out.mono ?_
  rintro e w1 ⟨rfl, hb1⟩
  clear K48
  go_wp2
  obtain ⟨W3, hW3, hb3, _, _, _, _, _⟩ := box2 w1 (.int .i64 0) (.int .u64 0) 34
  rw [hW3]
  have hbW := below_tr hb1 hb3
  go_loopw [3, 11] (fun u i wr => ∃ m : Nat, m ≤ k ∧ i = .int .i64 (m : Int) ∧ u = .int .u64 ((v / 256 ^ m : Nat) : Int) ∧ wr.cell? ⟨w.heap.size, 0, none⟩ = some (.slice x nm p) ∧ (∃ s1 s2 s3, wr.cell? ⟨w.heap.size, 1, none⟩ = some (.slice s1 s2 s3) ∧ ((m = 0 ∧ s1 = x' ∧ s2 = nc ∧ s3 = p') ∨ wr.ownsRow (w.heap.size + 3) 85 2 (.slice s1 s2 s3) (pokes cs a v m).length (rowOf .u64 (pokes cs a v m)))) ∧
      wr.frozen? ⟨w.heap.size, 0, none⟩ = false ∧ wr.frozen? ⟨w.heap.size, 1, none⟩ = false ∧ Free wr ⟨w.heap.size + 1, 0, none⟩ ∧ Free wr ⟨w.heap.size + 1, 1, none⟩ ∧ Free wr ⟨w.heap.size + 1 + 1, 0, none⟩ ∧ Free wr ⟨w.heap.size + 1 + 1, 1, none⟩ ∧ Below w.heap.size w wr ∧ w.heap.size + 3 ≤ wr.heap.size) (fun _ i _ => k - (intOf i).toNat)
  case atStart =>
    have hz0 := hbW.size
    refine ⟨0, Nat.zero_le _, rfl, by simp, keep_cell hbW c0, ⟨_, _, _, keep_cell hbW c1, Or.inl ⟨rfl, rfl, rfl, rfl⟩⟩, keep_frozen hbW (by simp; omega) HF0.out, keep_frozen hbW (by simp; omega) HF1.out, g0.keep hbW, g1.keep hbW, g2.keep hbW, g3.keep hbW, below_tr hb hbW, by omega⟩
  case round =>
    clear hb1 hb3 hbW
    obtain ⟨m, hmk, rfl, rfl, y0, ⟨s1, s2, s3, y1, hor⟩, z0, z1, G0, G1, G2, G3, hbw, hszr⟩ := hrel
    have HSL : Hid (Sl .u64 wr (.slice s1 s2 s3) (pokes cs a v m)) := by
      rcases hor with ⟨q0, q1, q2, q3⟩ | q
      · subst q0 q1 q2 q3
        exact HSC.out.keep hbw
      · exact own_sl q
    by_cases hml : m < k
    · clear hor
      obtain ⟨am', ham⟩ : ∃ t, t = a + m := ⟨_, rfl⟩
      have K := K52.out m hml (.slice s1 s2 s3) wr hbw HSL.out
      obtain ⟨v1, v2⟩ := HV.out m hml
      obtain ⟨vm', hvm⟩ : ∃ t, t = v / 256 ^ m := ⟨_, rfl⟩
      have HVN : Hid (v / 256 ^ (m + 1) = vm' / 256) := by show _ = _; rw [v2, hvm]
      rw [← hvm] at K v1 ⊢
      rw [← ham] at K
      have y2 : IntKind.u64.wrap (m : Int) = (m : Int) := by rw [IntKind.wrap_u64]; omega
      have y3 : IntKind.u64.wrap ((a : Int) + (m : Int)) = (am' : Int) := by have := HL.out; rw [IntKind.wrap_u64]; omega
      have y4 : IntKind.u8.wrap (vm' : Int) = ((vm' % 256 : Nat) : Int) := by rw [IntKind.wrap_u8]; omega
      obtain ⟨bt, hbt⟩ : ∃ t, t = vm' % 256 := ⟨_, rfl⟩
      rw [← hbt] at y4 K
      have y5 : IntKind.u64.wrap ((vm' : Int) / 256) = ((vm' / 256 : Nat) : Int) := by rw [IntKind.wrap_u64]; omega
      obtain ⟨nx, hnx⟩ : ∃ t, t = vm' / 256 := ⟨_, rfl⟩
      rw [← hnx] at y5 HVN
      clear v2 hvm ham hbt hnx HSL v1
      go_wp2_with fail
      refine K.mono ?_
      rintro e w4 ⟨t1, t2, t3, rfl, ho4, hb4⟩
      have y0' := keep_cell hb4 y0
      have y1' := keep_cell hb4 y1
      have z0' := keep_frozen hb4 (World.block_lt_of_cell? _ _ y0) z0
      have z1' := keep_frozen hb4 (World.block_lt_of_cell? _ _ y1) z1
      have H0 := G0.keep hb4
      have H1 := G1.keep hb4
      have H2 := G2.keep hb4
      have H3 := G3.keep hb4
      have hbw4 := below_tr hbw hb4
      have hsz4 := hb4.size
      obtain ⟨W5, hW5⟩ : ∃ W5, (w4.setCell ⟨w.heap.size, 0, none⟩ (.slice x nm p)).setCell ⟨w.heap.size, 1, none⟩ (.slice t1 t2 t3) = W5 := ⟨_, rfl⟩
      obtain ⟨u0, u1⟩ := res2 w4 w.heap.size (.slice x nm p) (.slice t1 t2 t3) ⟨⟨_, y0'⟩, z0'⟩ ⟨⟨_, y1'⟩, z1'⟩
      rw [hW5] at u0 u1
      have HREL : Hid (W5.frozen? ⟨w.heap.size, 0, none⟩ = false ∧ W5.frozen? ⟨w.heap.size, 1, none⟩ = false ∧ Free W5 ⟨w.heap.size + 1, 0, none⟩ ∧ Free W5 ⟨w.heap.size + 1, 1, none⟩ ∧ Free W5 ⟨w.heap.size + 1 + 1, 0, none⟩ ∧ Free W5 ⟨w.heap.size + 1 + 1, 1, none⟩ ∧ Below w.heap.size w W5 ∧ w.heap.size + 3 ≤ W5.heap.size ∧ W5.ownsRow (w.heap.size + 3) 85 2 (.slice t1 t2 t3) (pokes cs a v (m + 1)).length (rowOf .u64 (pokes cs a v (m + 1)))) := by
        rw [← hW5]
        exact ⟨by rw [World.frozen?_setCell, World.frozen?_setCell]; exact z0', by rw [World.frozen?_setCell, World.frozen?_setCell]; exact z1', (H0.set _ _).set _ _, (H1.set _ _).set _ _, (H2.set _ _).set _ _, (H3.set _ _).set _ _,
          below_set (below_set hbw4 (by simp) _) (by simp) _, by simp; omega, own_base (ownsRow_setCell_below (ownsRow_setCell_below ho4 (by simp; omega) _) (by simp; omega) _) (by omega)⟩
      clear y0 y1 z0 z1 G0 G1 G2 G3 hbw K H0 H1 H2 H3 hbw4 ho4 hb4
      go_wp2
      go_roundw
      case rel =>
        obtain ⟨r1, r2, r3, r4, r5, r6, r7, r8, r9⟩ := HREL.out
        exact ⟨m + 1, by omega, by go_num, by rw [HVN.out], u0, ⟨_, _, _, u1, Or.inr r9⟩, r1, r2, r3, r4, r5, r6, r7, r8⟩
      case measure => simp [intOf]; omega
    · obtain rfl : m = k := by omega
      have hown : wr.ownsRow (w.heap.size + 3) 85 2 (.slice s1 s2 s3) zs.length (rowOf .u64 zs) := by
        rcases hor with ⟨q0, _⟩ | q
        · omega
        · rw [HZ.out]; exact q
      clear hor HSL
      have i0 := G0.cell
      have i1 := G1.cell
      have i2 := G2.cell
      have i3 := G3.cell
      have j0 := G0.frozen
      have j1 := G1.frozen
      have j2 := G2.frozen
      have j3 := G3.frozen
      have SC : Hid (Sl .u64 ((((wr.setCell ⟨w.heap.size + 1, 0, none⟩ (.slice x nm p)).setCell ⟨w.heap.size + 1, 1, none⟩ (.slice s1 s2 s3)).setCell ⟨w.heap.size + 1 + 1, 0, none⟩ (.int .i64 0)).setCell ⟨w.heap.size + 1 + 1, 1, none⟩ (.int .u64 0)) (.slice s1 s2 s3) zs) := res4_sl hown (by omega) (by omega)
      have SB : Hid (Below w.heap.size w ((((wr.setCell ⟨w.heap.size + 1, 0, none⟩ (.slice x nm p)).setCell ⟨w.heap.size + 1, 1, none⟩ (.slice s1 s2 s3)).setCell ⟨w.heap.size + 1 + 1, 0, none⟩ (.int .i64 0)).setCell ⟨w.heap.size + 1 + 1, 1, none⟩ (.int .u64 0))) := below_set (below_set (below_set (below_set hbw (by simp) _) (by simp) _) (by simp; omega) _) (by simp; omega) _
      go_wp2
      (try simp only [Exit.inBlock, Exit.then])
      obtain ⟨r0, r1, r2, r3⟩ := res4 wr (w.heap.size + 1) (w.heap.size + 1 + 1) (.slice x nm p) (.slice s1 s2 s3) (.int .i64 0) (.int .u64 0) (by omega) G0 G1 G2 G3
      refine bodyPost_ret (v := .tuple #[.agg #[.slice x nm p, (.slice s1 s2 s3)], .agg #[.int .i64 0, .int .u64 0]]) ?_ rfl ⟨_, rfl, SC.out, SB.out⟩
      rw [results_cells rfl]; simp [go_sem, r0, r1, r2, r3]
end Go.Proofs.Ytdhjmghfiodifaa
