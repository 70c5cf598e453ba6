/- What is proved here: a library that can be: the program's Fit says so, its parts. -/
import Derived.Test.YtgdflobcbhnimaaGreatPkr
import Derived.Test.YtgdflobcbhnimaaGreatPkh
namespace Go.Proofs.YtgdflobcbhnimaaGreat
open Go.RowKit 
set_option linter.unusedVariables false
set_option linter.unusedSimpArgs false
set_option maxRecDepth 100000
theorem isCount52 (n : Int) (l : Lb) (q : Lv) (w : World) (hv : LvIs l q w) (h0 : 0 ≤ n) (h1 : n ≤ (l.syms.length : Int)) (hy : l.syms.length ≤ 1000) :
    Calls Tryz.prog 52 #[.int .i64 n, l.val q] w fun e w' => e = .returned (.bool true) ∧ Below w.heap.size w w' := by
  obtain ⟨W1, hW1, b1, n1, s1⟩ := box14 l q w
  have c9 : W1.cell? ⟨w.heap.size, 9, none⟩ = some (q.vs) := blk_at n1 9 rfl
  obtain ⟨LC, hLC⟩ : ∃ z : Array Value, z = (l.cells q).toArray := ⟨_, rfl⟩
  have hval : l.val q = .agg LC := by rw [hLC]; rfl
  rw [hval]
  rw [← hLC] at hW1
  obtain ⟨ya, yc, hvy, _⟩ := hv.s
  rw [hvy] at c9
  obtain ⟨N, hN⟩ : ∃ z, z = l.syms.length := ⟨_, rfl⟩
  rw [← hN] at c9 h1
  have d0 := decide_eq_true h0
  have d1 := decide_eq_true h1
  have HB : Hid (Below w.heap.size w W1) := b1
  clear hLC hval n1 b1 hN hy hvy
  go_enter Tryz.func52, Tryz.ntmps52
  go_wp2
  go_ret
  exact ⟨rfl, HB.out⟩
theorem areBytes18 (l : Lb) (q : Lv) (w : World) (hf : FitP l) : Calls Tryz.prog 18 #[l.val q] w fun e w' => e = .returned (.bool true) ∧ Below w.heap.size w w' := by
  obtain ⟨W1, hW1, b1, n1, s1⟩ := box14 l q w
  have c3 : W1.cell? ⟨w.heap.size, 3, none⟩ = some (.string ⟨l.code.toArray⟩) := blk_at n1 3 rfl
  have c4 : W1.cell? ⟨w.heap.size, 4, none⟩ = some (.string ⟨l.data.toArray⟩) := blk_at n1 4 rfl
  have c5 : W1.cell? ⟨w.heap.size, 5, none⟩ = some (.int .u32 (l.bss : Int)) := blk_at n1 5 rfl
  obtain ⟨LC, hLC⟩ : ∃ z : Array Value, z = (l.cells q).toArray := ⟨_, rfl⟩
  have hval : l.val q = .agg LC := by rw [hLC]; rfl
  rw [hval]
  rw [← hLC] at hW1
  obtain ⟨C, hC⟩ : ∃ B : ByteArray, B = ⟨l.code.toArray⟩ := ⟨_, rfl⟩
  obtain ⟨D, hD⟩ : ∃ B : ByteArray, B = ⟨l.data.toArray⟩ := ⟨_, rfl⟩
  rw [← hC] at c3
  rw [← hD] at c4
  have zC : C.size = l.code.length := by rw [← bt_len, hC, bal]
  have zD : D.size = l.data.length := by rw [← bt_len, hD, bal]
  have f0 := hf.c0; have f1 := hf.c1; have f2 := hf.da; have f3 := hf.bs
  obtain ⟨BS, hBS⟩ : ∃ z, z = l.bss := ⟨_, rfl⟩
  rw [← hBS] at c5 f3
  have i0 : (C.size : Int) ≤ 4096 := by omega
  have i1 : (C.size : Int) % 4 = 0 := by omega
  have i1t : (C.size : Int).tmod 4 = 0 := by rw [Int.tmod_eq_emod_of_nonneg (by omega)]; exact i1
  have i2 : (D.size : Int) ≤ 4096 := by omega
  have i3 : (BS : Int) ≤ 8192 := by omega
  have d0 := decide_eq_true i0
  have d2 := decide_eq_true i2
  have d3 := decide_eq_true i3
  have HB : Hid (Below w.heap.size w W1) := b1
  clear hLC hval n1 b1 hC hD zC zD f0 f1 f2 f3 hBS hf i1
  go_enter Tryz.func18, Tryz.ntmps18
  go_wp2
  go_ret
  exact ⟨rfl, HB.out⟩
theorem areTexts19 (l : Lb) (q : Lv) (w : World) (hf : FitP l) (hv : LvIs l q w) : Calls Tryz.prog 19 #[l.val q] w fun e w' => e = .returned (.bool true) ∧ Below w.heap.size w w' := by
  obtain ⟨W1, hW1, b1, n1, s1⟩ := box14 l q w
  have c6 : W1.cell? ⟨w.heap.size, 6, none⟩ = some (q.vn) := blk_at n1 6 rfl
  have c7 : W1.cell? ⟨w.heap.size, 7, none⟩ = some (.string ⟨l.soname.toArray⟩) := blk_at n1 7 rfl
  have c8 : W1.cell? ⟨w.heap.size, 8, none⟩ = some (.string ⟨l.interp.toArray⟩) := blk_at n1 8 rfl
  obtain ⟨LC, hLC⟩ : ∃ z : Array Value, z = (l.cells q).toArray := ⟨_, rfl⟩
  have hval : l.val q = .agg LC := by rw [hLC]; rfl
  rw [hval]
  rw [← hLC] at hW1
  obtain ⟨na, nc, hvn, _⟩ := id hv.n
  have K47 := contains47 l.needed q.vn W1 (hv.n.keep b1) (by have := hf.n0; omega) hf.n1
  rw [hvn] at c6 K47
  obtain ⟨N, hN⟩ : ∃ z, z = l.needed.length := ⟨_, rfl⟩
  have hNb : (N : Int) ≤ 8 := by have := hf.n0; omega
  have d0 := decide_eq_true hNb
  rw [← hN] at c6 K47
  have KS := fun w' => isText46 l.soname hf.so w'
  have KI := fun w' => isText46 l.interp hf.ip w'
  obtain ⟨C, hC⟩ : ∃ B : ByteArray, B = ⟨l.soname.toArray⟩ := ⟨_, rfl⟩
  obtain ⟨D, hD⟩ : ∃ B : ByteArray, B = ⟨l.interp.toArray⟩ := ⟨_, rfl⟩
  rw [← hC] at c7
  rw [← hD] at c8
  have HKS : Hid (∀ w', Calls Tryz.prog 46 #[.string C] w' fun e w'' => e = .returned (.bool true) ∧ w'' = w') := fun w' => by rw [hC]; exact KS w'
  have HKI : Hid (∀ w', Calls Tryz.prog 46 #[.string D] w' fun e w'' => e = .returned (.bool true) ∧ w'' = w') := fun w' => by rw [hD]; exact KI w'
  have HB : Hid (Below w.heap.size w W1) := b1
  clear hLC hval n1 b1 hC hD hN hvn hf hv KS KI
  go_enter Tryz.func19, Tryz.ntmps19
  go_wp2_with fail
  refine K47.mono ?_
  rintro e w2 ⟨rfl, hb2⟩
  have HB2 : Hid (Below w.heap.size w w2) := below_tr HB.out hb2
  replace c7 := keep_cell hb2 c7
  replace c8 := keep_cell hb2 c8
  clear K47 c6 hb2 hW1
  go_wp2_with fail
  refine (HKS.out w2).mono ?_
  rintro e w3 ⟨rfl, rfl⟩
  go_wp2_with fail
  refine (HKI.out _).mono ?_
  rintro e w3 ⟨rfl, rfl⟩
  go_wp2
  go_ret
  exact ⟨rfl, HB2.out⟩
def Rl.val (r : Rl) : Value := .agg #[.int .u32 (r.at_ : Int), .int .i64 r.kind, .int .i64 r.sym]
set_option maxHeartbeats 1000000 in
theorem isRel49 (r : Rl) (l : Lb) (q : Lv) (w : World) (hv : LvIs l q w) (hr : relP l r) (hd : l.data.length ≤ 4096) (hy : l.syms.length ≤ 1000) :
    Calls Tryz.prog 49 #[r.val, l.val q] w fun e w' => e = .returned (.bool true) ∧ Below w.heap.size w w' := by
  obtain ⟨W0, hW0, b0, m0, m1, m2⟩ := boxR w r
  have s0 : W0.heap.size = w.heap.size + 1 := by rw [← hW0]; simp
  obtain ⟨W1, hW1, b1, n1, s1⟩ := box14 l q W0
  rw [s0] at n1
  have c0 : W1.cell? ⟨w.heap.size + 1, 0, none⟩ = some (.bool l.shared) := blk_at n1 0 rfl
  have c1 : W1.cell? ⟨w.heap.size + 1, 1, none⟩ = some (.int .u32 (l.base : Int)) := blk_at n1 1 rfl
  have c2 : W1.cell? ⟨w.heap.size + 1, 2, none⟩ = some (.int .u32 (l.entry : Int)) := blk_at n1 2 rfl
  have c3 : W1.cell? ⟨w.heap.size + 1, 3, none⟩ = some (.string ⟨l.code.toArray⟩) := blk_at n1 3 rfl
  have c4 : W1.cell? ⟨w.heap.size + 1, 4, none⟩ = some (.string ⟨l.data.toArray⟩) := blk_at n1 4 rfl
  have c5 : W1.cell? ⟨w.heap.size + 1, 5, none⟩ = some (.int .u32 (l.bss : Int)) := blk_at n1 5 rfl
  have c6 : W1.cell? ⟨w.heap.size + 1, 6, none⟩ = some (q.vn) := blk_at n1 6 rfl
  have c7 : W1.cell? ⟨w.heap.size + 1, 7, none⟩ = some (.string ⟨l.soname.toArray⟩) := blk_at n1 7 rfl
  have c8 : W1.cell? ⟨w.heap.size + 1, 8, none⟩ = some (.string ⟨l.interp.toArray⟩) := blk_at n1 8 rfl
  have c9 : W1.cell? ⟨w.heap.size + 1, 9, none⟩ = some (q.vs) := blk_at n1 9 rfl
  have c10 : W1.cell? ⟨w.heap.size + 1, 10, none⟩ = some (q.vr) := blk_at n1 10 rfl
  have c11 : W1.cell? ⟨w.heap.size + 1, 11, none⟩ = some (q.vl) := blk_at n1 11 rfl
  have c12 : W1.cell? ⟨w.heap.size + 1, 12, none⟩ = some (.int .i64 l.global) := blk_at n1 12 rfl
  have c13 : W1.cell? ⟨w.heap.size + 1, 13, none⟩ = some (.int .u32 (l.init : Int)) := blk_at n1 13 rfl
  replace m0 := keep_cell b1 m0
  replace m1 := keep_cell b1 m1
  replace m2 := keep_cell b1 m2
  have HVL : Hid (Below w.heap.size w W1) := below_tr b0 b1
  have K52 : Hid (∀ w', Below w.heap.size w w' → Calls Tryz.prog 52 #[.int .i64 r.sym, .agg #[.bool l.shared, .int .u32 (l.base : Int), .int .u32 (l.entry : Int), .string ⟨l.code.toArray⟩, .string ⟨l.data.toArray⟩, .int .u32 (l.bss : Int), q.vn, .string ⟨l.soname.toArray⟩, .string ⟨l.interp.toArray⟩, q.vs, q.vr, q.vl, .int .i64 l.global, .int .u32 (l.init : Int)]] w' fun e w'' => e = .returned (.bool true) ∧ Below w'.heap.size w' w'') := fun w' hw => isCount52 r.sym l q w' (hv.keep hw) hr.2.2.1 hr.2.2.2 hy
  unfold Lb.val Lb.cells
  unfold Lb.cells at hW1
  obtain ⟨D, hD⟩ : ∃ B : ByteArray, B = ⟨l.data.toArray⟩ := ⟨_, rfl⟩
  rw [← hD] at c4 K52 hW1 ⊢
  have zD : D.size = l.data.length := by rw [← bt_len, hD, bal]
  obtain ⟨AT, hAT⟩ : ∃ z, z = r.at_ := ⟨_, rfl⟩
  obtain ⟨KD, hKD⟩ : ∃ z, z = r.kind := ⟨_, rfl⟩
  obtain ⟨SY, hSY⟩ : ∃ z, z = r.sym := ⟨_, rfl⟩
  obtain ⟨q1, q2, _, _⟩ := hr
  unfold Rl.val
  rw [← hAT] at q2
  rw [← hKD] at q1
  rw [← hAT, ← hKD, ← hSY] at hW0 ⊢
  rw [← hAT] at m0
  rw [← hKD] at m1
  rw [← hSY] at m2 K52
  obtain ⟨A4, hA4⟩ : ∃ z, z = AT + 4 := ⟨_, rfl⟩
  have a1 : (AT : Int) + 4 = (A4 : Int) := by omega
  have a2 : (A4 : Int) ≤ (D.size : Int) := by omega
  have a3 := decide_eq_true a2
  have a4 : IntKind.i64.wrap (AT : Int) = (AT : Int) := by rw [IntKind.wrap_i64]; omega
  have a5 : IntKind.i64.wrap (A4 : Int) = (A4 : Int) := by rw [IntKind.wrap_i64]; omega
  obtain ⟨a6, a7⟩ := And.intro (wrap64_nat AT (by omega)) (wrap64_nat A4 (by omega))
  clear n1 b0 b1 hD zD hAT hKD hSY hA4 hv hd hy q2
  rcases q1 with rfl | rfl
  all_goals
    go_enter Tryz.func49, Tryz.ntmps49
    go_wp2_with fail
    refine (K52.out W1 HVL.out).mono ?_
    rintro e w2 ⟨rfl, hb2⟩
    go_wp2
    go_ret
    exact ⟨rfl, below_tr HVL.out hb2⟩
end Go.Proofs.YtgdflobcbhnimaaGreat
namespace Go.Proofs.YtgdflobcbhnimaaGreat
open Go.RowKit 
set_option linter.unusedVariables false
set_option linter.unusedSimpArgs false
set_option maxRecDepth 100000
theorem isWrong48 (r : Rl) (l : Lb) (q : Lv) (b : Nat) (w : World) (hb : BL l q b w) (hv : LvIs l q w) (hr : relP l r) (hd : l.data.length ≤ 4096) (hy : l.syms.length ≤ 1000) :
    Calls Tryz.prog 48 #[r.val, .pointer (some ⟨b, 0, none⟩)] w fun e w' => e = .returned (.bool false) ∧ Below w.heap.size w w' := by
  obtain ⟨W0, hW0, b0, m0, m1, m2⟩ := boxR w r
  have n1 := hb.keep b0
  have c0 : W0.cell? ⟨b, 0, none⟩ = some (.bool l.shared) := blk_at n1 0 rfl
  have c1 : W0.cell? ⟨b, 1, none⟩ = some (.int .u32 (l.base : Int)) := blk_at n1 1 rfl
  have c2 : W0.cell? ⟨b, 2, none⟩ = some (.int .u32 (l.entry : Int)) := blk_at n1 2 rfl
  have c3 : W0.cell? ⟨b, 3, none⟩ = some (.string ⟨l.code.toArray⟩) := blk_at n1 3 rfl
  have c4 : W0.cell? ⟨b, 4, none⟩ = some (.string ⟨l.data.toArray⟩) := blk_at n1 4 rfl
  have c5 : W0.cell? ⟨b, 5, none⟩ = some (.int .u32 (l.bss : Int)) := blk_at n1 5 rfl
  have c6 : W0.cell? ⟨b, 6, none⟩ = some (q.vn) := blk_at n1 6 rfl
  have c7 : W0.cell? ⟨b, 7, none⟩ = some (.string ⟨l.soname.toArray⟩) := blk_at n1 7 rfl
  have c8 : W0.cell? ⟨b, 8, none⟩ = some (.string ⟨l.interp.toArray⟩) := blk_at n1 8 rfl
  have c9 : W0.cell? ⟨b, 9, none⟩ = some (q.vs) := blk_at n1 9 rfl
  have c10 : W0.cell? ⟨b, 10, none⟩ = some (q.vr) := blk_at n1 10 rfl
  have c11 : W0.cell? ⟨b, 11, none⟩ = some (q.vl) := blk_at n1 11 rfl
  have c12 : W0.cell? ⟨b, 12, none⟩ = some (.int .i64 l.global) := blk_at n1 12 rfl
  have c13 : W0.cell? ⟨b, 13, none⟩ = some (.int .u32 (l.init : Int)) := blk_at n1 13 rfl
  have K49 : Calls Tryz.prog 49 #[.agg #[.int .u32 (r.at_ : Int), .int .i64 r.kind, .int .i64 r.sym], .agg #[.bool l.shared, .int .u32 (l.base : Int), .int .u32 (l.entry : Int), .string ⟨l.code.toArray⟩, .string ⟨l.data.toArray⟩, .int .u32 (l.bss : Int), q.vn, .string ⟨l.soname.toArray⟩, .string ⟨l.interp.toArray⟩, q.vs, q.vr, q.vl, .int .i64 l.global, .int .u32 (l.init : Int)]] W0 fun e w' => e = .returned (.bool true) ∧ Below W0.heap.size W0 w' := isRel49 r l q W0 (hv.keep b0) hr hd hy
  have HB : Hid (Below w.heap.size w W0) := b0
  unfold Rl.val
  clear b0 hb n1 hv hr hd hy
  go_enter Tryz.func48, Tryz.ntmps48
  go_wp2_with fail
  refine K49.mono ?_
  rintro e w2 ⟨rfl, hb2⟩
  go_wp2
  go_ret
  exact ⟨rfl, below_tr HB.out hb2⟩
set_option maxHeartbeats 1000000 in
theorem index83 (f : Nat) (cp : Value) (xs : List Rl) (v : Value) (w : World) (hs : SlR w v xs) (hn : xs.length ≤ 1000000)
    (eg : ∀ args w, (callFunc f args).run Tryz.prog w = .ok (.enter f args) w)
    (hf : ∀ w1 s, Below w.heap.size w w1 → s ∈ xs → Calls Tryz.prog f #[s.val, cp] w1 fun e w' => e = .returned (.bool false) ∧ Below w1.heap.size w1 w') :
    Calls Tryz.prog 83 #[v, .func (.func f) #[] #[cp]] w fun e w' => e = .returned (.int .i64 (-1)) ∧ Below w.heap.size w w' := by
  obtain ⟨ao, cap, rfl, s1, s2, s3, s4⟩ := hs
  have HS : Hid (∀ i (h : i < xs.length), ∃ b o, ao = some ⟨b, o, none⟩ ∧ At3 w b (o + i * 3) xs[i]) := s4
  have HFF : Hid (∀ w1 (s : Rl), Below w.heap.size w w1 → s ∈ xs → Calls Tryz.prog f #[.agg #[.int .u32 (s.at_ : Int), .int .i64 s.kind, .int .i64 s.sym], cp] w1 fun e w' => e = .returned (.bool false) ∧ Below w1.heap.size w1 w') := hf
  clear s4 hf
  go_enter Tryz.func83, Tryz.ntmps83
  go_wp2
  go_loopw [8] (fun x wr => ∃ k : Nat, x = .int .i64 (k : Int) ∧ k ≤ xs.length ∧ Below w.heap.size w wr) (fun x _ => xs.length - (intOf x).toNat)
  case atStart => exact ⟨0, rfl, Nat.zero_le _, Below.refl _ _⟩
  case round =>
    obtain ⟨k, rfl, hk, hbr⟩ := hrel
    by_cases hlt : k < xs.length
    · obtain ⟨b, o, hao, c0, c1, c2⟩ := HS.out k hlt
      replace c0 := keep_cell hbr c0
      replace c1 := keep_cell hbr c1
      replace c2 := keep_cell hbr c2
      have KF := HFF.out wr xs[k] hbr (List.getElem_mem hlt)
      generalize xs[k] = S at c0 c1 c2 KF
      have hki : (k : Int) < (xs.length : Int) := by omega
      have HB : Hid (Below w.heap.size w wr) := hbr
      subst hao
      clear hbr
      go_wp2_with fail
      refine KF.mono ?_
      rintro e w2 ⟨rfl, hb2⟩
      have HB2 : Hid (Below w.heap.size w w2) := below_tr HB.out hb2
      clear KF c0 c1 c2 hb2
      go_wp2
      go_roundw
      case rel => exact ⟨k + 1, by go_num, by omega, HB2.out⟩
      case measure => simp [intOf]; omega
    · have hki : ¬ (k : Int) < (xs.length : Int) := by omega
      go_wp2
      go_ret
      exact ⟨rfl, hbr⟩
theorem contains51 (l : Lb) (q : Lv) (b : Nat) (w : World) (hb : BL l q b w) (hv : LvIs l q w) (hf : FitP l) :
    Calls Tryz.prog 51 #[q.vr, .func (.func 48) #[] #[.pointer (some ⟨b, 0, none⟩)]] w fun e w' => e = .returned (.bool false) ∧ Below w.heap.size w w' := by
  have eg := enters_of Tryz.func48 (by kernel_rfl) rfl
  have K := index83 48 (.pointer (some ⟨b, 0, none⟩)) l.rels q.vr w hv.r (by have := hf.r0; omega) eg (fun w1 s hw hm => isWrong48 s l q b w1 (hb.keep hw) (hv.keep hw) (hf.r1 s hm) hf.da (by have := hf.y0; omega))
  obtain ⟨ao, cap, hvr, _⟩ := hv.r
  rw [hvr] at K ⊢
  clear eg hb hv hf hvr
  go_enter Tryz.func51, Tryz.ntmps51
  go_wp2_with fail
  refine K.mono ?_
  rintro e w2 ⟨rfl, hb2⟩
  go_wp2
  go_ret
  exact ⟨rfl, hb2⟩
set_option maxHeartbeats 2000000 in
theorem areTables20 (l : Lb) (q : Lv) (w : World) (hf : FitP l) (hv : LvIs l q w) : Calls Tryz.prog 20 #[l.val q] w fun e w' => e = .returned (.bool true) ∧ Below w.heap.size w w' := by
  obtain ⟨W1, hW1, b1, n1, s1⟩ := box14 l q w
  have c0 : W1.cell? ⟨w.heap.size, 0, none⟩ = some (.bool l.shared) := blk_at n1 0 rfl
  have c1 : W1.cell? ⟨w.heap.size, 1, none⟩ = some (.int .u32 (l.base : Int)) := blk_at n1 1 rfl
  have c2 : W1.cell? ⟨w.heap.size, 2, none⟩ = some (.int .u32 (l.entry : Int)) := blk_at n1 2 rfl
  have c3 : W1.cell? ⟨w.heap.size, 3, none⟩ = some (.string ⟨l.code.toArray⟩) := blk_at n1 3 rfl
  have c4 : W1.cell? ⟨w.heap.size, 4, none⟩ = some (.string ⟨l.data.toArray⟩) := blk_at n1 4 rfl
  have c5 : W1.cell? ⟨w.heap.size, 5, none⟩ = some (.int .u32 (l.bss : Int)) := blk_at n1 5 rfl
  have c6 : W1.cell? ⟨w.heap.size, 6, none⟩ = some (q.vn) := blk_at n1 6 rfl
  have c7 : W1.cell? ⟨w.heap.size, 7, none⟩ = some (.string ⟨l.soname.toArray⟩) := blk_at n1 7 rfl
  have c8 : W1.cell? ⟨w.heap.size, 8, none⟩ = some (.string ⟨l.interp.toArray⟩) := blk_at n1 8 rfl
  have c9 : W1.cell? ⟨w.heap.size, 9, none⟩ = some (q.vs) := blk_at n1 9 rfl
  have c10 : W1.cell? ⟨w.heap.size, 10, none⟩ = some (q.vr) := blk_at n1 10 rfl
  have c11 : W1.cell? ⟨w.heap.size, 11, none⟩ = some (q.vl) := blk_at n1 11 rfl
  have c12 : W1.cell? ⟨w.heap.size, 12, none⟩ = some (.int .i64 l.global) := blk_at n1 12 rfl
  have c13 : W1.cell? ⟨w.heap.size, 13, none⟩ = some (.int .u32 (l.init : Int)) := blk_at n1 13 rfl
  have HC : Hid (Below w.heap.size w W1 ∧ BL l q w.heap.size W1 ∧ LvIs l q W1 ∧ FitP l) := ⟨b1, n1, hv.keep b1, hf⟩
  have HCS : Hid (∀ w', Below W1.heap.size W1 w' → w'.cell? ⟨w.heap.size, 9, none⟩ = some q.vs ∧ w'.cell? ⟨w.heap.size, 10, none⟩ = some q.vr ∧ w'.cell? ⟨w.heap.size, 11, none⟩ = some q.vl ∧ w'.cell? ⟨w.heap.size, 12, none⟩ = some (.int .i64 l.global)) := fun w' hw => ⟨keep_cell hw c9, keep_cell hw c10, keep_cell hw c11, keep_cell hw c12⟩
  have K50 : Hid (∀ w', Below W1.heap.size W1 w' → Calls Tryz.prog 50 #[q.vs] w' fun e w'' => e = .returned (.bool true) ∧ Below w'.heap.size w' w'') := fun w' hw => by
    have := fit16 l.syms q.vs w' ((HC.out.2.2.1.keep hw).s) (by have := hf.y0; omega)
    rw [hf.y1] at this
    exact this
  have K51 : Hid (∀ w', Below W1.heap.size W1 w' → Calls Tryz.prog 51 #[q.vr, .func (.func 48) #[] #[.pointer (some ⟨w.heap.size, 0, none⟩)]] w' fun e w'' => e = .returned (.bool false) ∧ Below w'.heap.size w' w'') := fun w' hw => contains51 l q w.heap.size w' (HC.out.2.1.keep hw) (HC.out.2.2.1.keep hw) hf
  have K52 : Hid (∀ w', Below W1.heap.size W1 w' → Calls Tryz.prog 52 #[.int .i64 l.global, .agg #[.bool l.shared, .int .u32 (l.base : Int), .int .u32 (l.entry : Int), .string ⟨l.code.toArray⟩, .string ⟨l.data.toArray⟩, .int .u32 (l.bss : Int), q.vn, .string ⟨l.soname.toArray⟩, .string ⟨l.interp.toArray⟩, q.vs, q.vr, q.vl, .int .i64 l.global, .int .u32 (l.init : Int)]] w' fun e w'' => e = .returned (.bool true) ∧ Below w'.heap.size w' w'') := fun w' hw => isCount52 l.global l q w' (HC.out.2.2.1.keep hw) hf.g0 hf.g1 (by have := hf.y0; omega)
  obtain ⟨ya, yc, hvy, _⟩ := hv.s
  obtain ⟨ra, rc, hvr, _⟩ := hv.r
  obtain ⟨la, lc, hvl, _⟩ := hv.l
  obtain ⟨vn, vs, vr, vl⟩ := q
  simp only at hvy hvr hvl
  subst hvy hvr hvl
  simp only at c0 c1 c2 c3 c4 c5 c6 c7 c8 c9 c10 c11 c12 c13 K50 K51 K52
  have i9 : (l.syms.length : Int) ≤ 60 := by have := hf.y0; omega
  have i10 : (l.rels.length : Int) ≤ 60 := by have := hf.r0; omega
  have i11 : (l.locals.length : Int) ≤ 30 := by have := hf.lo; omega
  have d9 := decide_eq_true i9
  have d10 := decide_eq_true i10
  have d11 := decide_eq_true i11
  have HALL : Hid (∀ w', Below W1.heap.size W1 w' → BL l ⟨vn, .slice ya l.syms.length yc, .slice ra l.rels.length rc, .slice la l.locals.length lc⟩ w.heap.size w') := fun w' hw => HC.out.2.1.keep hw
  unfold Lb.val Lb.cells
  unfold Lb.cells at hW1
  simp only at hW1 ⊢
  clear hf hv b1 n1
  go_enter Tryz.func20, Tryz.ntmps20
  go_wp2_with fail
  refine (K50.out W1 (Below.refl _ _)).mono ?_
  rintro e w2 ⟨rfl, hb2⟩
  have H2 : Hid (Below W1.heap.size W1 w2) := hb2
  replace c10 := keep_cell hb2 c10
  replace c11 := keep_cell hb2 c11
  replace c12 := keep_cell hb2 c12
  clear hb2 hW1 c0 c1 c2 c3 c4 c5 c6 c7 c8 c9 c13
  go_wp2_with fail
  refine (K51.out w2 H2.out).mono ?_
  rintro e w3 ⟨rfl, hb3⟩
  have H3 : Hid (Below W1.heap.size W1 w3) := below_tr H2.out hb3
  clear hb3 c10 c11 c12
  have n3 := HALL.out w3 H3.out
  have c0 : w3.cell? ⟨w.heap.size, 0, none⟩ = some (.bool l.shared) := blk_at n3 0 rfl
  have c1 : w3.cell? ⟨w.heap.size, 1, none⟩ = some (.int .u32 (l.base : Int)) := blk_at n3 1 rfl
  have c2 : w3.cell? ⟨w.heap.size, 2, none⟩ = some (.int .u32 (l.entry : Int)) := blk_at n3 2 rfl
  have c3 : w3.cell? ⟨w.heap.size, 3, none⟩ = some (.string ⟨l.code.toArray⟩) := blk_at n3 3 rfl
  have c4 : w3.cell? ⟨w.heap.size, 4, none⟩ = some (.string ⟨l.data.toArray⟩) := blk_at n3 4 rfl
  have c5 : w3.cell? ⟨w.heap.size, 5, none⟩ = some (.int .u32 (l.bss : Int)) := blk_at n3 5 rfl
  have c6 : w3.cell? ⟨w.heap.size, 6, none⟩ = some (vn) := blk_at n3 6 rfl
  have c7 : w3.cell? ⟨w.heap.size, 7, none⟩ = some (.string ⟨l.soname.toArray⟩) := blk_at n3 7 rfl
  have c8 : w3.cell? ⟨w.heap.size, 8, none⟩ = some (.string ⟨l.interp.toArray⟩) := blk_at n3 8 rfl
  have c9 : w3.cell? ⟨w.heap.size, 9, none⟩ = some (.slice ya l.syms.length yc) := blk_at n3 9 rfl
  have c10 : w3.cell? ⟨w.heap.size, 10, none⟩ = some (.slice ra l.rels.length rc) := blk_at n3 10 rfl
  have c11 : w3.cell? ⟨w.heap.size, 11, none⟩ = some (.slice la l.locals.length lc) := blk_at n3 11 rfl
  have c12 : w3.cell? ⟨w.heap.size, 12, none⟩ = some (.int .i64 l.global) := blk_at n3 12 rfl
  have c13 : w3.cell? ⟨w.heap.size, 13, none⟩ = some (.int .u32 (l.init : Int)) := blk_at n3 13 rfl
  clear n3
  go_wp2_with fail
  refine (K52.out w3 H3.out).mono ?_
  rintro e w4 ⟨rfl, hb4⟩
  go_wp2
  go_ret
  exact ⟨rfl, below_tr (below_tr HC.out.1 H3.out) hb4⟩
end Go.Proofs.YtgdflobcbhnimaaGreat
