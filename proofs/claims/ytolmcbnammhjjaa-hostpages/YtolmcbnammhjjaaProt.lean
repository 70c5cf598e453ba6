/- What is proved here: Protect. -/
import Derived.Test.YtolmcbnammhjjaaProtPlain
import Derived.Test.YtolmcbnammhjjaaSmall
namespace Go.Proofs.Ytolmcbnammhjjaa
open Go.RowKit
set_option linter.unusedVariables false
theorem own_two {w : World} {B B' n n' : Nat} {a : Option Addr} {k p k' p' : Nat} {xs ys : List Value} {g : Nat} (h : w.ownsRow B 58 2 (.slice a k p) n xs) (h' : w.ownsRow B' 54 2 (.slice (some ⟨g, 0, none⟩) k' p') n' ys) : (Value.slice a k p).ownBlock ≠ some g := by
  intro e
  obtain ⟨c1, f1, q1⟩ := Go.Lib.ownsRow_kind h g e
  obtain ⟨c2, f2, q2⟩ := Go.Lib.ownsRow_kind h' g rfl
  rw [q1] at q2
  simp at q2
set_option maxHeartbeats 4000000 in
theorem protect18_inval (vm vc : Value) (ms cs : List (Nat × Int)) (page n : Nat) (prot : Int) (w : World) (hm : Sl .i64 w vm ms) (hc : Sl .u64 w vc cs) (lm : ms.length ≤ 1073741824) (lc : cs.length ≤ 1073741824) (h1 : page < 18446744073709551616) (h2 : n < 18446744073709551616) (hp : (pagesOk page n && protOk prot) = false) :
    Calls Try.prog 18 #[.agg #[vm, vc], .int .u64 (page : Int), .int .u64 (n : Int), .int .i64 prot] w fun e w' => ∃ vm' vc', e = .returned (.tuple #[.agg #[vm', vc'], .int .i64 22]) ∧ OwnH w.heap.size w' vm' vc' ms cs ∧ Below w.heap.size w w' := by
  obtain ⟨W, hW, hb, hsz, c0, c1, h0, h1', g0, g1⟩ := box2b w vm vc (.slice none 0 0) (.slice none 0 0) 25 25
  have HWS : Hid (W.heap.size = w.heap.size + 2) := by show _ = _; omega
  have K37 : Hid (Calls Try.prog 37 #[.agg #[vm, vc]] W fun e w' => ∃ vm' vc', e = .returned (.agg #[vm', vc']) ∧ w'.ownsRow W.heap.size 54 2 vm' ms.length (rowOf .i64 ms) ∧ w'.ownsRow W.heap.size 58 2 vc' cs.length (rowOf .u64 cs) ∧ Below W.heap.size W w') := copied37 vm vc ms cs W (hm.keep hb) (hc.keep hb) lm lc
  obtain ⟨am, nm, pm, rfl⟩ : ∃ a n p, vm = .slice a n p := by obtain ⟨a, p, h, _⟩ := hm; exact ⟨_, _, _, h⟩
  obtain ⟨ac, nc, pc, rfl⟩ : ∃ a n p, vc = .slice a n p := by obtain ⟨a, p, h, _⟩ := hc; exact ⟨_, _, _, h⟩
  clear hm hc hsz
  have KP := arePages36 page n h1 h2
  have KQ := isProt31 prot
  have KP : Hid (∀ w', Calls Try.prog 36 #[.int .u64 (page : Int), .int .u64 (n : Int)] w' fun e w'' => e = .returned (.bool (pagesOk page n)) ∧ w'' = w') := KP
  have KQ : Hid (∀ w', Calls Try.prog 31 #[.int .i64 prot] w' fun e w'' => e = .returned (.bool (protOk prot)) ∧ w'' = w') := KQ
  cases hq : pagesOk page n with
  | false =>
    rw [hq] at KP
    clear hp hq h1 h2
    go_enter Try.func18, Try.ntmps18
    go_wp2_with fail
    refine K37.out.mono ?_
    rintro e w1 ⟨v1, v2, rfl, ho1, ho2, hb1⟩
    clear K37
    obtain ⟨a1, k1, q1, rfl⟩ := own_shape ho1
    obtain ⟨a2, k2, q2, rfl⟩ := own_shape ho2
    have F0 := h0.keep hb1
    have F1 := h1'.keep hb1
    have G0 := g0.keep hb1
    have G1 := g1.keep hb1
    obtain ⟨W2, hW2⟩ : ∃ W2, (w1.setCell ⟨w.heap.size, 0, none⟩ (.slice a1 k1 q1)).setCell ⟨w.heap.size, 1, none⟩ (.slice a2 k2 q2) = W2 := ⟨_, rfl⟩
    obtain ⟨u0, u1⟩ := res2 w1 w.heap.size (.slice a1 k1 q1) (.slice a2 k2 q2) F0 F1
    have ho1' : W2.ownsRow W.heap.size 54 2 (.slice a1 k1 q1) ms.length (rowOf .i64 ms) := by rw [← hW2]; exact res2_own ho1 (by have := HWS.out; omega) (Nat.le_refl _)
    have ho2' : W2.ownsRow W.heap.size 58 2 (.slice a2 k2 q2) cs.length (rowOf .u64 cs) := by rw [← hW2]; exact res2_own ho2 (by have := HWS.out; omega) (Nat.le_refl _)
    have hbw2 : Below w.heap.size w W2 := by rw [← hW2]; exact below_set (below_set (below_tr hb hb1) (by simp) _) (by simp) _
    have G0 : Free W2 ⟨w.heap.size + 1, 0, none⟩ := by rw [← hW2]; exact (G0.set _ _).set _ _
    have G1 : Free W2 ⟨w.heap.size + 1, 1, none⟩ := by rw [← hW2]; exact (G1.set _ _).set _ _
    have hszr : W.heap.size ≤ W2.heap.size := by rw [← hW2]; simpa using hb1.size
    have i0 := F0.cell
    have i1 := F1.cell
    have i2 := F0.frozen
    have i3 := F1.frozen
    rw [hW2] at u0 u1
    clear ho1 ho2
    go_wp2_with fail
    refine (KP.out W2).mono ?_
    rintro e w3 ⟨rfl, h3⟩
    subst h3
    have q0 := G0.cell
    have q1' := G1.cell
    have q2' := G0.frozen
    have q3 := G1.frozen
    have SM : Hid (OwnH w.heap.size ((w3.setCell ⟨w.heap.size + 1, 0, none⟩ (.slice a1 k1 q1)).setCell ⟨w.heap.size + 1, 1, none⟩ (.slice a2 k2 q2)) (.slice a1 k1 q1) (.slice a2 k2 q2) ms cs) := ⟨res2_own ho1' (by have := HWS.out; omega) (by have := HWS.out; omega), res2_own ho2' (by have := HWS.out; omega) (by have := HWS.out; omega)⟩
    have SB : Hid (Below w.heap.size w ((w3.setCell ⟨w.heap.size + 1, 0, none⟩ (.slice a1 k1 q1)).setCell ⟨w.heap.size + 1, 1, none⟩ (.slice a2 k2 q2))) := below_set (below_set hbw2 (by simp) _) (by simp) _
    clear ho1' ho2'
    go_wp2
    (try simp only [Exit.inBlock, Exit.then])
    obtain ⟨r0, r1⟩ := res2 w3 (w.heap.size + 1) (.slice a1 k1 q1) (.slice a2 k2 q2) G0 G1
    refine bodyPost_ret (v := .tuple #[.agg #[.slice a1 k1 q1, .slice a2 k2 q2], .int .i64 22]) ?_ rfl ⟨_, _, rfl, SM.out, SB.out⟩
    rw [results_cell_tmp rfl]; simp [go_sem, r0, r1]
  | true =>
    rw [hq] at KP hp
    simp only [Bool.true_and] at hp
    rw [hp] at KQ
    clear hp hq h1 h2
    go_enter Try.func18, Try.ntmps18
    go_wp2_with fail
    refine K37.out.mono ?_
    rintro e w1 ⟨v1, v2, rfl, ho1, ho2, hb1⟩
    clear K37
    obtain ⟨a1, k1, q1, rfl⟩ := own_shape ho1
    obtain ⟨a2, k2, q2, rfl⟩ := own_shape ho2
    have F0 := h0.keep hb1
    have F1 := h1'.keep hb1
    have G0 := g0.keep hb1
    have G1 := g1.keep hb1
    obtain ⟨W2, hW2⟩ : ∃ W2, (w1.setCell ⟨w.heap.size, 0, none⟩ (.slice a1 k1 q1)).setCell ⟨w.heap.size, 1, none⟩ (.slice a2 k2 q2) = W2 := ⟨_, rfl⟩
    obtain ⟨u0, u1⟩ := res2 w1 w.heap.size (.slice a1 k1 q1) (.slice a2 k2 q2) F0 F1
    have ho1' : W2.ownsRow W.heap.size 54 2 (.slice a1 k1 q1) ms.length (rowOf .i64 ms) := by rw [← hW2]; exact res2_own ho1 (by have := HWS.out; omega) (Nat.le_refl _)
    have ho2' : W2.ownsRow W.heap.size 58 2 (.slice a2 k2 q2) cs.length (rowOf .u64 cs) := by rw [← hW2]; exact res2_own ho2 (by have := HWS.out; omega) (Nat.le_refl _)
    have hbw2 : Below w.heap.size w W2 := by rw [← hW2]; exact below_set (below_set (below_tr hb hb1) (by simp) _) (by simp) _
    have G0 : Free W2 ⟨w.heap.size + 1, 0, none⟩ := by rw [← hW2]; exact (G0.set _ _).set _ _
    have G1 : Free W2 ⟨w.heap.size + 1, 1, none⟩ := by rw [← hW2]; exact (G1.set _ _).set _ _
    have hszr : W.heap.size ≤ W2.heap.size := by rw [← hW2]; simpa using hb1.size
    have i0 := F0.cell
    have i1 := F1.cell
    have i2 := F0.frozen
    have i3 := F1.frozen
    rw [hW2] at u0 u1
    clear ho1 ho2
    go_wp2_with fail
    refine (KP.out W2).mono ?_
    rintro e w3 ⟨rfl, h3⟩
    subst h3
    go_wp2_with fail
    refine (KQ.out w3).mono ?_
    rintro e w4 ⟨rfl, h4⟩
    subst h4
    have q0 := G0.cell
    have q1' := G1.cell
    have q2' := G0.frozen
    have q3 := G1.frozen
    have SM : Hid (OwnH w.heap.size ((w4.setCell ⟨w.heap.size + 1, 0, none⟩ (.slice a1 k1 q1)).setCell ⟨w.heap.size + 1, 1, none⟩ (.slice a2 k2 q2)) (.slice a1 k1 q1) (.slice a2 k2 q2) ms cs) := ⟨res2_own ho1' (by have := HWS.out; omega) (by have := HWS.out; omega), res2_own ho2' (by have := HWS.out; omega) (by have := HWS.out; omega)⟩
    have SB : Hid (Below w.heap.size w ((w4.setCell ⟨w.heap.size + 1, 0, none⟩ (.slice a1 k1 q1)).setCell ⟨w.heap.size + 1, 1, none⟩ (.slice a2 k2 q2))) := below_set (below_set hbw2 (by simp) _) (by simp) _
    clear ho1' ho2'
    go_wp2
    (try simp only [Exit.inBlock, Exit.then])
    obtain ⟨r0, r1⟩ := res2 w4 (w.heap.size + 1) (.slice a1 k1 q1) (.slice a2 k2 q2) G0 G1
    refine bodyPost_ret (v := .tuple #[.agg #[.slice a1 k1 q1, .slice a2 k2 q2], .int .i64 22]) ?_ rfl ⟨_, _, rfl, SM.out, SB.out⟩
    rw [results_cell_tmp rfl]; simp [go_sem, r0, r1]
set_option maxHeartbeats 4000000 in
theorem protect18_none (vm vc : Value) (ms cs : List (Nat × Int)) (page n : Nat) (prot : Int) (w : World) (hm : Sl .i64 w vm ms) (hc : Sl .u64 w vc cs) (lm : ms.length ≤ 1073741824) (lc : cs.length ≤ 1073741824) (last : Nat) (sm : Srt ms) (hp : pagesOk page n = true) (hq : protOk prot = true) (hl : last = page + n - 1) (hno : (mid ms page last).length ≠ n) :
    Calls Try.prog 18 #[.agg #[vm, vc], .int .u64 (page : Int), .int .u64 (n : Int), .int .i64 prot] w fun e w' => ∃ vm' vc', e = .returned (.tuple #[.agg #[vm', vc'], .int .i64 2]) ∧ OwnH w.heap.size w' vm' vc' ms cs ∧ Below w.heap.size w w' := by
  obtain ⟨W, hW, hb, hsz, c0, c1, h0, h1', g0, g1⟩ := box2b w vm vc (.slice none 0 0) (.slice none 0 0) 25 25
  have HWS : Hid (W.heap.size = w.heap.size + 2) := by show _ = _; omega
  have K37 : Hid (Calls Try.prog 37 #[.agg #[vm, vc]] W fun e w' => ∃ vm' vc', e = .returned (.agg #[vm', vc']) ∧ w'.ownsRow W.heap.size 54 2 vm' ms.length (rowOf .i64 ms) ∧ w'.ownsRow W.heap.size 58 2 vc' cs.length (rowOf .u64 cs) ∧ Below W.heap.size W w') := copied37 vm vc ms cs W (hm.keep hb) (hc.keep hb) lm lc
  obtain ⟨am, nm, pm, rfl⟩ : ∃ a n p, vm = .slice a n p := by obtain ⟨a, p, h, _⟩ := hm; exact ⟨_, _, _, h⟩
  obtain ⟨ac, nc, pc, rfl⟩ : ∃ a n p, vc = .slice a n p := by obtain ⟨a, p, h, _⟩ := hc; exact ⟨_, _, _, h⟩
  clear hm hc hsz
  have hpp : n ≠ 0 ∧ page + n ≤ 1125899906842624 := by simpa [pagesOk] using hp
  have KP : Hid (∀ w', Calls Try.prog 36 #[.int .u64 (page : Int), .int .u64 (n : Int)] w' fun e w'' => e = .returned (.bool true) ∧ w'' = w') := fun w' => by have h := arePages36 page n (by omega) (by omega) w'; rw [hp] at h; exact h
  have KQ : Hid (∀ w', Calls Try.prog 31 #[.int .i64 prot] w' fun e w'' => e = .returned (.bool true) ∧ w'' = w') := fun w' => by have h := isProt31 prot w'; rw [hq] at h; exact h
  have x1 : IntKind.u64.wrap (IntKind.u64.wrap ((page : Int) + (n : Int)) - 1) = (last : Int) := by rw [IntKind.wrap_u64, IntKind.wrap_u64]; omega
  obtain ⟨f, hf⟩ : ∃ f, f = (lo ms page).length := ⟨_, rfl⟩
  obtain ⟨mm, hmm⟩ : ∃ f, f = (mid ms page last).length := ⟨_, rfl⟩
  obtain ⟨t, ht⟩ : ∃ t, t = f + mm := ⟨_, rfl⟩
  have hlen := parts_len ms sm page last (by omega)
  have K38 : Hid (∀ v w', Sl .i64 w' v ms → Calls Try.prog 38 #[v, .func (.func 28) #[] #[], .int .u64 (page : Int), .int .u64 (last : Int)] w' fun e w'' => e = .returned (.tuple #[.int .i64 (f : Int), .int .i64 (t : Int)]) ∧ Below w'.heap.size w' w'') := fun v w' h => by
    have g := span38s v ms page last w' h sm lm (by omega)
    rw [← hf, ← hmm, ← ht] at g
    exact g
  have y1 : IntKind.i64.wrap ((t : Int) - (f : Int)) = (mm : Int) := by rw [IntKind.wrap_i64]; omega
  have y2 : IntKind.u64.wrap (mm : Int) = (mm : Int) := by rw [IntKind.wrap_u64]; omega
  have y3 : (t : Int) - (f : Int) = (mm : Int) := by omega
  have hne : ((mm : Int) != (n : Int)) = true := by rw [hmm]; simp; omega
  have y4 : wrap64 (mm : Int) = (mm : Int) := by unfold wrap64; omega
  clear hp hq hl hno hpp hf hmm ht hlen sm
  go_enter Try.func18, Try.ntmps18
  go_wp2_with fail
  refine K37.out.mono ?_
  rintro e w1 ⟨v1, v2, rfl, ho1, ho2, hb1⟩
  clear K37
  obtain ⟨a1, k1, q1, rfl⟩ := own_shape ho1
  obtain ⟨a2, k2, q2, rfl⟩ := own_shape ho2
  have F0 := h0.keep hb1
  have F1 := h1'.keep hb1
  have G0 := g0.keep hb1
  have G1 := g1.keep hb1
  obtain ⟨W2, hW2⟩ : ∃ W2, (w1.setCell ⟨w.heap.size, 0, none⟩ (.slice a1 k1 q1)).setCell ⟨w.heap.size, 1, none⟩ (.slice a2 k2 q2) = W2 := ⟨_, rfl⟩
  obtain ⟨u0, u1⟩ := res2 w1 w.heap.size (.slice a1 k1 q1) (.slice a2 k2 q2) F0 F1
  have ho1' : W2.ownsRow W.heap.size 54 2 (.slice a1 k1 q1) ms.length (rowOf .i64 ms) := by rw [← hW2]; exact res2_own ho1 (by have := HWS.out; omega) (Nat.le_refl _)
  have ho2' : W2.ownsRow W.heap.size 58 2 (.slice a2 k2 q2) cs.length (rowOf .u64 cs) := by rw [← hW2]; exact res2_own ho2 (by have := HWS.out; omega) (Nat.le_refl _)
  have hbw2 : Below w.heap.size w W2 := by rw [← hW2]; exact below_set (below_set (below_tr hb hb1) (by simp) _) (by simp) _
  have G0 : Free W2 ⟨w.heap.size + 1, 0, none⟩ := by rw [← hW2]; exact (G0.set _ _).set _ _
  have G1 : Free W2 ⟨w.heap.size + 1, 1, none⟩ := by rw [← hW2]; exact (G1.set _ _).set _ _
  have hszr : W.heap.size ≤ W2.heap.size := by rw [← hW2]; simpa using hb1.size
  have i0 := F0.cell
  have i1 := F1.cell
  have i2 := F0.frozen
  have i3 := F1.frozen
  rw [hW2] at u0 u1
  clear ho1 ho2
  go_wp2_with fail
  refine (KP.out W2).mono ?_
  rintro e w3 ⟨rfl, h3⟩
  subst h3
  go_wp2_with fail
  refine (KQ.out w3).mono ?_
  rintro e w4 ⟨rfl, h4⟩
  subst h4
  go_wp2_with fail
  refine (K38.out _ w4 (own_sl ho1')).mono ?_
  rintro e w5 ⟨rfl, hb5⟩
  have u0 := keep_cell hb5 u0
  have u1 := keep_cell hb5 u1
  have G0 := G0.keep hb5
  have G1 := G1.keep hb5
  have ho1' := own_keep ho1' hb5
  have ho2' := own_keep ho2' hb5
  have hbw5 := below_tr hbw2 hb5
  have q0 := G0.cell
  have q1' := G1.cell
  have q2' := G0.frozen
  have q3 := G1.frozen
  have SM : Hid (OwnH w.heap.size ((w5.setCell ⟨w.heap.size + 1, 0, none⟩ (.slice a1 k1 q1)).setCell ⟨w.heap.size + 1, 1, none⟩ (.slice a2 k2 q2)) (.slice a1 k1 q1) (.slice a2 k2 q2) ms cs) := ⟨res2_own ho1' (by have := HWS.out; omega) (by have := HWS.out; omega), res2_own ho2' (by have := HWS.out; omega) (by have := HWS.out; omega)⟩
  have SB : Hid (Below w.heap.size w ((w5.setCell ⟨w.heap.size + 1, 0, none⟩ (.slice a1 k1 q1)).setCell ⟨w.heap.size + 1, 1, none⟩ (.slice a2 k2 q2))) := below_set (below_set hbw5 (by simp) _) (by simp) _
  clear ho1' ho2'
  go_wp2
  (try simp only [Exit.inBlock, Exit.then])
  obtain ⟨r0, r1⟩ := res2 w5 (w.heap.size + 1) (.slice a1 k1 q1) (.slice a2 k2 q2) G0 G1
  refine bodyPost_ret (v := .tuple #[.agg #[.slice a1 k1 q1, .slice a2 k2 q2], .int .i64 2]) ?_ rfl ⟨_, _, rfl, SM.out, SB.out⟩
  rw [results_cell_tmp rfl]; simp [go_sem, r0, r1]
set_option maxHeartbeats 4000000 in
set_option maxRecDepth 100000 in
theorem protect18_ok (vm vc : Value) (ms cs : List (Nat × Int)) (page n : Nat) (prot : Int) (w : World) (hm : Sl .i64 w vm ms) (hc : Sl .u64 w vc cs) (lm : ms.length ≤ 1073741824) (lc : cs.length ≤ 1073741824) (last : Nat) (sm : Srt ms) (hp : pagesOk page n = true) (hq : protOk prot = true) (hl : last = page + n - 1) (hno : (mid ms page last).length = n) :
    Calls Try.prog 18 #[.agg #[vm, vc], .int .u64 (page : Int), .int .u64 (n : Int), .int .i64 prot] w fun e w' => ∃ vm' vc', e = .returned (.tuple #[.agg #[vm', vc'], .int .i64 0]) ∧ OwnH w.heap.size w' vm' vc' (protL page last prot ms) cs ∧ Below w.heap.size w w' := by
  obtain ⟨W, hW, hb, hsz, c0, c1, h0, h1', g0, g1⟩ := box2b w vm vc (.slice none 0 0) (.slice none 0 0) 25 25
  have HWS : Hid (W.heap.size = w.heap.size + 2) := by show _ = _; omega
  have K37 : Hid (Calls Try.prog 37 #[.agg #[vm, vc]] W fun e w' => ∃ vm' vc', e = .returned (.agg #[vm', vc']) ∧ w'.ownsRow W.heap.size 54 2 vm' ms.length (rowOf .i64 ms) ∧ w'.ownsRow W.heap.size 58 2 vc' cs.length (rowOf .u64 cs) ∧ Below W.heap.size W w') := copied37 vm vc ms cs W (hm.keep hb) (hc.keep hb) lm lc
  obtain ⟨am, nm, pm, rfl⟩ : ∃ a n p, vm = .slice a n p := by obtain ⟨a, p, h, _⟩ := hm; exact ⟨_, _, _, h⟩
  obtain ⟨ac, nc, pc, rfl⟩ : ∃ a n p, vc = .slice a n p := by obtain ⟨a, p, h, _⟩ := hc; exact ⟨_, _, _, h⟩
  clear hm hc hsz
  have hpp : n ≠ 0 ∧ page + n ≤ 1125899906842624 := by simpa [pagesOk] using hp
  have KP : Hid (∀ w', Calls Try.prog 36 #[.int .u64 (page : Int), .int .u64 (n : Int)] w' fun e w'' => e = .returned (.bool true) ∧ w'' = w') := fun w' => by have h := arePages36 page n (by omega) (by omega) w'; rw [hp] at h; exact h
  have KQ : Hid (∀ w', Calls Try.prog 31 #[.int .i64 prot] w' fun e w'' => e = .returned (.bool true) ∧ w'' = w') := fun w' => by have h := isProt31 prot w'; rw [hq] at h; exact h
  have x1 : IntKind.u64.wrap (IntKind.u64.wrap ((page : Int) + (n : Int)) - 1) = (last : Int) := by rw [IntKind.wrap_u64, IntKind.wrap_u64]; omega
  obtain ⟨f, hf⟩ : ∃ f, f = (lo ms page).length := ⟨_, rfl⟩
  obtain ⟨mm, hmm⟩ : ∃ f, f = (mid ms page last).length := ⟨_, rfl⟩
  obtain ⟨t, ht⟩ : ∃ t, t = f + mm := ⟨_, rfl⟩
  have hlen := parts_len ms sm page last (by omega)
  have K38 : Hid (∀ v w', Sl .i64 w' v ms → Calls Try.prog 38 #[v, .func (.func 28) #[] #[], .int .u64 (page : Int), .int .u64 (last : Int)] w' fun e w'' => e = .returned (.tuple #[.int .i64 (f : Int), .int .i64 (t : Int)]) ∧ Below w'.heap.size w' w'') := fun v w' h => by
    have g := span38s v ms page last w' h sm lm (by omega)
    rw [← hf, ← hmm, ← ht] at g
    exact g
  have y1 : IntKind.i64.wrap ((t : Int) - (f : Int)) = (mm : Int) := by rw [IntKind.wrap_i64]; omega
  have y2 : IntKind.u64.wrap (mm : Int) = (mm : Int) := by rw [IntKind.wrap_u64]; omega
  have y3 : (t : Int) - (f : Int) = (mm : Int) := by omega
  have hne : ((mm : Int) != (n : Int)) = false := by rw [hmm]; simp; omega
  have HPS : Hid (protS ms f prot mm = protL page last prot ms) := by show _ = _; rw [hf, hmm]; exact protS_eq sm prot (by omega)
  obtain ⟨zs, hzs⟩ : ∃ z, z = protL page last prot ms := ⟨_, rfl⟩
  rw [← hzs]
  have HZ : Hid (protS ms f prot mm = zs) := HPS.out.trans hzs.symm
  have HT : Hid (t = f + mm ∧ t ≤ ms.length ∧ n ≠ 0 ∧ mm = n) := ⟨ht, by omega, hpp.1, by omega⟩
  have y4 : wrap64 (mm : Int) = (mm : Int) := by unfold wrap64; omega
  clear hp hq hl hno hpp hf hmm ht hlen sm HPS hzs
  go_enter Try.func18, Try.ntmps18
  go_wp2_with fail
  refine K37.out.mono ?_
  rintro e w1 ⟨v1, v2, rfl, ho1, ho2, hb1⟩
  clear K37
  obtain ⟨a1, k1, q1, rfl⟩ := own_shape ho1
  obtain ⟨a2, k2, q2, rfl⟩ := own_shape ho2
  have F0 := h0.keep hb1
  have F1 := h1'.keep hb1
  have G0 := g0.keep hb1
  have G1 := g1.keep hb1
  obtain ⟨W2, hW2⟩ : ∃ W2, (w1.setCell ⟨w.heap.size, 0, none⟩ (.slice a1 k1 q1)).setCell ⟨w.heap.size, 1, none⟩ (.slice a2 k2 q2) = W2 := ⟨_, rfl⟩
  obtain ⟨u0, u1⟩ := res2 w1 w.heap.size (.slice a1 k1 q1) (.slice a2 k2 q2) F0 F1
  have ho1' : W2.ownsRow W.heap.size 54 2 (.slice a1 k1 q1) ms.length (rowOf .i64 ms) := by rw [← hW2]; exact res2_own ho1 (by have := HWS.out; omega) (Nat.le_refl _)
  have ho2' : W2.ownsRow W.heap.size 58 2 (.slice a2 k2 q2) cs.length (rowOf .u64 cs) := by rw [← hW2]; exact res2_own ho2 (by have := HWS.out; omega) (Nat.le_refl _)
  have hbw2 : Below w.heap.size w W2 := by rw [← hW2]; exact below_set (below_set (below_tr hb hb1) (by simp) _) (by simp) _
  have G0 : Free W2 ⟨w.heap.size + 1, 0, none⟩ := by rw [← hW2]; exact (G0.set _ _).set _ _
  have G1 : Free W2 ⟨w.heap.size + 1, 1, none⟩ := by rw [← hW2]; exact (G1.set _ _).set _ _
  have hszr : W.heap.size ≤ W2.heap.size := by rw [← hW2]; simpa using hb1.size
  have i0 := F0.cell
  have i1 := F1.cell
  have i2 := F0.frozen
  have i3 := F1.frozen
  rw [hW2] at u0 u1
  clear ho1 ho2
  go_wp2_with fail
  refine (KP.out W2).mono ?_
  rintro e w3 ⟨rfl, h3⟩
  subst h3
  go_wp2_with fail
  refine (KQ.out w3).mono ?_
  rintro e w4 ⟨rfl, h4⟩
  subst h4
  go_wp2_with fail
  refine (K38.out _ w4 (own_sl ho1')).mono ?_
  rintro e w5 ⟨rfl, hb5⟩
  have u0 := keep_cell hb5 u0
  have u1 := keep_cell hb5 u1
  have G0 := G0.keep hb5
  have G1 := G1.keep hb5
  have ho1' := own_keep ho1' hb5
  have ho2' := own_keep ho2' hb5
  have hbw5 := below_tr hbw2 hb5
  have hsz5 := Nat.le_trans hszr hb5.size
  obtain ⟨g, hg1, hg2⟩ : ∃ g, a1 = some ⟨g, 0, none⟩ ∧ k1 = ms.length ∧ W.heap.size ≤ g := by
    rcases ho1'.2 with ⟨e, hn0⟩ | ⟨g, cap, cur, e, hB, _⟩
    · have := HT.out; omega
    · simp only [Value.slice.injEq] at e
      exact ⟨g, e.1, e.2.1, hB⟩
  obtain ⟨rfl, hgB⟩ := hg2
  subst hg1
  clear KP KQ K38 hb5 hbw2 hszr
  go_wp2
  go_loopw [12] (fun i wr => ∃ k : Nat, k ≤ mm ∧ i = .int .i64 ((f + k : Nat) : Int) ∧ wr.ownsRow W.heap.size 54 2 (.slice (some ⟨g, 0, none⟩) ms.length q1) ms.length (rowOf .i64 (protS ms f prot k)) ∧ wr.ownsRow W.heap.size 58 2 (.slice a2 k2 q2) cs.length (rowOf .u64 cs) ∧ wr.cell? ⟨w.heap.size, 0, none⟩ = some (.slice (some ⟨g, 0, none⟩) ms.length q1) ∧ wr.cell? ⟨w.heap.size, 1, none⟩ = some (.slice a2 k2 q2) ∧ Free wr ⟨w.heap.size + 1, 0, none⟩ ∧ Free wr ⟨w.heap.size + 1, 1, none⟩ ∧ Below w.heap.size w wr) (fun i _ => t - (intOf i).toNat)
  case atStart => exact ⟨0, Nat.zero_le _, rfl, ho1', ho2', u0, u1, G0, G1, hbw5⟩
  case round =>
    clear ho1' ho2' u0 u1 G0 G1 hbw5
    obtain ⟨k, hk, rfl, ho1, ho2, u0, u1, G0, G1, hbw⟩ := hrel
    by_cases hkm : k < mm
    · obtain ⟨ix, hix⟩ : ∃ t, t = f + k := ⟨_, rfl⟩
      have hixl : ix < ms.length := by have := HT.out; omega
      have hixt : (ix : Int) < (t : Int) := by have := HT.out; omega
      obtain ⟨r0', r1'⟩ := rowOf_even .i64 (protS ms f prot k) ix (by rw [protS_len]; exact hixl)
      have d1 := ho1.cellAt (ix * 2 + 1) (by omega)
      rw [r1'] at d1
      have f1 := ho1.frozenAt (ix * 2 + 1)
      have HR : Hid ((wr.setCell ⟨g, ix * 2 + 1, none⟩ (.int .i64 prot)).ownsRow W.heap.size 54 2 (.slice (some ⟨g, 0, none⟩) ms.length q1) ms.length (rowOf .i64 (protS ms f prot (k + 1)))) := by
        have h := (ho1.stored (ix * 2 + 1) (.int .i64 prot)).1
        rw [rowOf_set1 .i64 _ ix (by rw [protS_len]; exact hixl)] at h
        have e1 : (protS ms f prot k)[ix]'(by rw [protS_len]; exact hixl) = ms[ix] := by
          have h2 := protS_get ms f prot ix hixl k
          rw [if_neg (by omega), List.getElem?_eq_getElem (by rw [protS_len]; exact hixl)] at h2
          simpa using h2
        rw [e1] at h
        rw [protS, ← hix, getD_at hixl]
        exact h
      have HR2 : Hid ((wr.setCell ⟨g, ix * 2 + 1, none⟩ (.int .i64 prot)).ownsRow W.heap.size 58 2 (.slice a2 k2 q2) cs.length (rowOf .u64 cs)) := ownsRow_setCell_other ho2 (own_two ho2 ho1) _
      have hne0 : g ≠ w.heap.size := by have := HWS.out; omega
      have HU : Hid ((wr.setCell ⟨g, ix * 2 + 1, none⟩ (.int .i64 prot)).cell? ⟨w.heap.size, 0, none⟩ = some (.slice (some ⟨g, 0, none⟩) ms.length q1) ∧ (wr.setCell ⟨g, ix * 2 + 1, none⟩ (.int .i64 prot)).cell? ⟨w.heap.size, 1, none⟩ = some (.slice a2 k2 q2) ∧ Free (wr.setCell ⟨g, ix * 2 + 1, none⟩ (.int .i64 prot)) ⟨w.heap.size + 1, 0, none⟩ ∧ Free (wr.setCell ⟨g, ix * 2 + 1, none⟩ (.int .i64 prot)) ⟨w.heap.size + 1, 1, none⟩ ∧ Below w.heap.size w (wr.setCell ⟨g, ix * 2 + 1, none⟩ (.int .i64 prot))) :=
        ⟨cell_far u0 (by simpa using hne0) _, cell_far u1 (by simpa using hne0) _, G0.set _ _, G1.set _ _, below_set hbw (by have := HWS.out; simp; omega) _⟩
      have HIX : Hid (ix = f + k) := hix
      rw [← hix]
      clear r0' r1' ho1 ho2 hix hbw hne0 G0 G1
      go_wp2
      go_roundw
      case rel =>
        obtain ⟨t1, t2, t3, t4, t5⟩ := HU.out
        exact ⟨k + 1, by omega, by have := HIX.out; go_num, HR.out, HR2.out, t1, t2, t3, t4, t5⟩
      case measure => simp [intOf]; omega
    · obtain rfl : k = mm := by omega
      rw [HZ.out] at ho1
      have hlz : zs.length = ms.length := by rw [← HZ.out, protS_len]
      have htt : ¬ ((f + k : Nat) : Int) < (t : Int) := by have := HT.out; omega
      obtain ⟨ix, hix⟩ : ∃ t, t = f + k := ⟨_, rfl⟩
      rw [← hix] at htt ⊢
      have oA : wr.ownsRow W.heap.size 54 2 (.slice (some ⟨g, 0, none⟩) ms.length q1) zs.length (rowOf .i64 zs) := by rw [hlz]; exact ho1
      clear hlz
      have oB := ho2
      clear hix ho1 ho2
      have q0 := G0.cell
      have q1' := G1.cell
      have q2' := G0.frozen
      have q3 := G1.frozen
      have SM : Hid (OwnH w.heap.size ((wr.setCell ⟨w.heap.size + 1, 0, none⟩ (.slice (some ⟨g, 0, none⟩) ms.length q1)).setCell ⟨w.heap.size + 1, 1, none⟩ (.slice a2 k2 q2)) (.slice (some ⟨g, 0, none⟩) ms.length q1) (.slice a2 k2 q2) zs cs) := ⟨res2_own oA (by have := HWS.out; omega) (by have := HWS.out; omega), res2_own oB (by have := HWS.out; omega) (by have := HWS.out; omega)⟩
      have SB : Hid (Below w.heap.size w ((wr.setCell ⟨w.heap.size + 1, 0, none⟩ (.slice (some ⟨g, 0, none⟩) ms.length q1)).setCell ⟨w.heap.size + 1, 1, none⟩ (.slice a2 k2 q2))) := below_set (below_set hbw (by simp) _) (by simp) _
      clear oA oB
      go_wp2
      (try simp only [Exit.inBlock, Exit.then])
      obtain ⟨r0, r1⟩ := res2 wr (w.heap.size + 1) (.slice (some ⟨g, 0, none⟩) ms.length q1) (.slice a2 k2 q2) G0 G1
      refine bodyPost_ret (v := .tuple #[.agg #[(.slice (some ⟨g, 0, none⟩) ms.length q1), .slice a2 k2 q2], .int .i64 0]) ?_ rfl ⟨_, _, rfl, SM.out, SB.out⟩
      rw [results_cell_tmp rfl]; simp [go_sem, r0, r1]
end Go.Proofs.Ytolmcbnammhjjaa
