/- What is proved here: the guest's small functions; looking for a page by halves. -/
import Derived.Test.YtpaanfeleeomnaaPg
import Derived.Test.YtpaanfeleeomnaaSpan
import Derived.Test.YtpaanfeleeomnaaCopied
import Derived.Test.YtpaanfeleeomnaaPlain
import Derived.Test.YtpaanfeleeomnaaSl
import Derived.LoopTactic
namespace Go.Proofs.Ytpaanfeleeomnaa
open Go.RowKit
set_option linter.unusedVariables false
set_option maxRecDepth 100000
/-- A new block of four cells. -/
theorem box4 (w : World) (x0 x1 x2 x3 : Value) (t : Nat) : ∃ W, w.alloc (.cells #[x0, x1, x2, x3] t) = W ∧ Below w.heap.size w W ∧ W.heap.size = w.heap.size + 1 ∧
    W.cell? ⟨w.heap.size, 0, none⟩ = some x0 ∧ W.cell? ⟨w.heap.size, 1, none⟩ = some x1 ∧ W.cell? ⟨w.heap.size, 2, none⟩ = some x2 ∧ W.cell? ⟨w.heap.size, 3, none⟩ = some x3 ∧
    Free W ⟨w.heap.size, 0, none⟩ ∧ Free W ⟨w.heap.size, 1, none⟩ ∧ Free W ⟨w.heap.size, 2, none⟩ ∧ Free W ⟨w.heap.size, 3, none⟩ := by
  have hc : ∀ i x, #[x0, x1, x2, x3][i]? = some x → (w.alloc (.cells #[x0, x1, x2, x3] t)).cell? ⟨w.heap.size, i, none⟩ = some x := fun i x hx => cell_newA w _ t _ i x rfl hx
  have hf : ∀ i, (w.alloc (.cells #[x0, x1, x2, x3] t)).frozen? ⟨w.heap.size, i, none⟩ = false := fun i => by rw [World.frozen?_alloc_at _ _ _ _ (by simp)]
  exact ⟨_, rfl, (Below.refl _ _).alloc (Nat.le_refl _) _, by simp, hc 0 _ rfl, hc 1 _ rfl, hc 2 _ rfl, hc 3 _ rfl, ⟨⟨_, hc 0 _ rfl⟩, hf 0⟩, ⟨⟨_, hc 1 _ rfl⟩, hf 1⟩, ⟨⟨_, hc 2 _ rfl⟩, hf 2⟩, ⟨⟨_, hc 3 _ rfl⟩, hf 3⟩⟩
/-- Which pages can be. -/
def gpagesOk (first n : Nat) : Bool := decide (n ≠ 0 ∧ first + n ≤ 1048576)
set_option maxHeartbeats 1000000 in
theorem garePages38 (first n : Nat) (h1 : first < 4294967296) (h2 : n < 4294967296) (w : World) :
    Calls Try.prog 38 #[.int .u32 (first : Int), .int .u32 (n : Int)] w fun e w' => e = .returned (.bool (gpagesOk first n)) ∧ w' = w := by
  by_cases hn : n = 0
  · subst hn
    have HR : Hid (gpagesOk first 0 = false) := by simp [Hid, gpagesOk]
    go_enter Try.func38, Try.ntmps38
    go_wp2
    go_ret
    exact ⟨by rw [HR.out]; rfl, rfl⟩
  · have x1 : IntKind.u64.wrap (first : Int) = (first : Int) := by rw [IntKind.wrap_u64]; omega
    have x2 : IntKind.u64.wrap (n : Int) = (n : Int) := by rw [IntKind.wrap_u64]; omega
    have x3 : IntKind.u64.wrap ((first : Int) + (n : Int)) = ((first + n : Nat) : Int) := by rw [IntKind.wrap_u64]; omega
    have x0 : ((n : Int) != 0) = true := by simp; omega
    have HR : Hid (gpagesOk first n = decide (first + n ≤ 1048576)) := by simp [Hid, gpagesOk, hn]
    obtain ⟨q, hq⟩ : ∃ q, q = first + n := ⟨_, rfl⟩
    rw [← hq] at x3 HR
    clear hn hq
    by_cases hle : q ≤ 1048576
    · have y1 : (q : Int) ≤ 1048576 := by omega
      rw [decide_eq_true hle] at HR
      clear hle
      go_enter Try.func38, Try.ntmps38
      go_wp2
      go_ret
      exact ⟨by rw [HR.out]; rfl, rfl⟩
    · have y1 : ¬ (q : Int) ≤ 1048576 := by omega
      rw [decide_eq_false hle] at HR
      clear hle
      go_enter Try.func38, Try.ntmps38
      go_wp2
      go_ret
      exact ⟨by rw [HR.out]; rfl, rfl⟩
set_option maxHeartbeats 1000000 in
theorem gisProt39 (prot : Int) (w : World) : Calls Try.prog 39 #[.int .i64 prot] w fun e w' => e = .returned (.bool (protOk prot)) ∧ w' = w := by
  by_cases h1 : 0 ≤ prot
  · by_cases h2 : prot ≤ 7
    · have HR : Hid (protOk prot = true) := by simp [Hid, protOk, h1, h2]
      go_enter Try.func39, Try.ntmps39
      go_wp2
      go_ret
      exact ⟨by rw [HR.out]; rfl, rfl⟩
    · have HR : Hid (protOk prot = false) := by simp [Hid, protOk, h2]
      go_enter Try.func39, Try.ntmps39
      go_wp2
      go_ret
      exact ⟨by rw [HR.out]; rfl, rfl⟩
  · have HR : Hid (protOk prot = false) := by simp [Hid, protOk, h1]
    go_enter Try.func39, Try.ntmps39
    go_wp2
    go_ret
    exact ⟨by rw [HR.out]; rfl, rfl⟩
set_option maxHeartbeats 1000000 in
theorem ghostPage59 (b k : Nat) (hb : b ≤ 4611686018427387904) (hk : k < 4294967296) (w : World) :
    Calls Try.prog 59 #[.int .u64 (b : Int), .int .u32 (k : Int)] w fun e w' => e = .returned (.int .u64 ((b / 16384 + k : Nat) : Int)) ∧ w' = w := by
  have x1 : IntKind.u64.wrap ((b : Int) / 16384) = ((b / 16384 : Nat) : Int) := by rw [IntKind.wrap_u64]; omega
  have x2 : IntKind.u64.wrap (k : Int) = (k : Int) := by rw [IntKind.wrap_u64]; omega
  have x3 : IntKind.u64.wrap (((b / 16384 : Nat) : Int) + (k : Int)) = ((b / 16384 + k : Nat) : Int) := by rw [IntKind.wrap_u64]; omega
  obtain ⟨q, hq⟩ : ∃ q, q = b / 16384 + k := ⟨_, rfl⟩
  obtain ⟨d, hd⟩ : ∃ q, q = b / 16384 := ⟨_, rfl⟩
  rw [← hd] at x1 x3 hq
  rw [← hq] at x3
  rw [← hd, ← hq]
  clear hq hd
  go_enter Try.func59, Try.ntmps59
  go_wp2
  go_ret
  exact ⟨rfl, rfl⟩
set_option maxHeartbeats 1000000 in
theorem gplace16 (vm vc vp : Value) (b a : Nat) (hb : b ≤ 4611686018427387904) (ha : a < 4294967296) (w : World) (hm : ∃ a n p, vm = .slice a n p) (hc : ∃ a n p, vc = .slice a n p) (hp : ∃ a n p, vp = .slice a n p) :
    Calls Try.prog 16 #[.agg #[vm, vc, .int .u64 (b : Int), vp], .int .u32 (a : Int)] w fun e w' => e = .returned (.int .u64 ((b + a : Nat) : Int)) ∧ Below w.heap.size w w' := by
  obtain ⟨W, hW, hbb, hsz, c0, c1, c2, c3, _⟩ := box4 w vm vc (.int .u64 (b : Int)) vp 29
  obtain ⟨_, _, _, rfl⟩ := hm
  obtain ⟨_, _, _, rfl⟩ := hc
  obtain ⟨_, _, _, rfl⟩ := hp
  have x2 : IntKind.u64.wrap (a : Int) = (a : Int) := by rw [IntKind.wrap_u64]; omega
  have x3 : IntKind.u64.wrap ((b : Int) + (a : Int)) = ((b + a : Nat) : Int) := by rw [IntKind.wrap_u64]; omega
  obtain ⟨q, hq⟩ : ∃ q, q = b + a := ⟨_, rfl⟩
  rw [← hq] at x3
  rw [← hq]
  clear hq
  go_enter Try.func16, Try.ntmps16
  go_wp2

  go_ret
  exact ⟨rfl, hbb⟩
set_option maxHeartbeats 1000000 in
theorem isNaN75 (a : Nat) (w : World) : Calls Try.prog 75 #[.int .u32 (a : Int)] w fun e w' => e = .returned (.bool false) ∧ w' = w := by
  go_enter Try.func75, Try.ntmps75
  go_wp2
  go_ret
  exact ⟨rfl, rfl⟩
/-- Less, the same, greater. -/
def cmpN (a b : Nat) : Int := if a < b then -1 else if b < a then 1 else 0
set_option maxHeartbeats 1000000 in
theorem compare64 (a b : Nat) (w : World) : Calls Try.prog 64 #[.int .u32 (a : Int), .int .u32 (b : Int)] w fun e w' => e = .returned (.int .i64 (cmpN a b)) ∧ w' = w := by
  have KA := isNaN75 a w
  have KB := isNaN75 b w
  by_cases h1 : a < b
  · have HR : Hid (cmpN a b = -1) := by show _ = _; rw [cmpN, if_pos h1]
    have y1 : (a : Int) < (b : Int) := by omega
    go_enter Try.func64, Try.ntmps64
    go_wp2_with fail
    refine KA.mono ?_
    rintro e w1 ⟨rfl, rfl⟩
    go_wp2_with fail
    refine KB.mono ?_
    rintro e w2 ⟨rfl, rfl⟩
    go_wp2
    go_ret
    exact ⟨by rw [HR.out]; rfl, rfl⟩
  · have y1 : ¬ (a : Int) < (b : Int) := by omega
    by_cases h2 : b < a
    · have HR : Hid (cmpN a b = 1) := by show _ = _; rw [cmpN, if_neg h1, if_pos h2]
      have y2 : (b : Int) < (a : Int) := by omega
      go_enter Try.func64, Try.ntmps64
      go_wp2_with fail
      refine KA.mono ?_
      rintro e w1 ⟨rfl, rfl⟩
      go_wp2_with fail
      refine KB.mono ?_
      rintro e w2 ⟨rfl, rfl⟩
      go_wp2
      go_ret
      exact ⟨by rw [HR.out]; rfl, rfl⟩
    · have HR : Hid (cmpN a b = 0) := by show _ = _; rw [cmpN, if_neg h1, if_neg h2]
      have y2 : ¬ (b : Int) < (a : Int) := by omega
      go_enter Try.func64, Try.ntmps64
      go_wp2_with fail
      refine KA.mono ?_
      rintro e w1 ⟨rfl, rfl⟩
      go_wp2_with fail
      refine KB.mono ?_
      rintro e w2 ⟨rfl, rfl⟩
      go_wp2
      go_ret
      exact ⟨by rw [HR.out]; rfl, rfl⟩
set_option maxHeartbeats 1000000 in
theorem searchc63 (p n : Nat) (r : Int) (w : World) : Calls Try.prog 63 #[.agg #[.int .u32 (p : Int), .int .i64 r], .int .u32 (n : Int)] w fun e w' => e = .returned (.int .i64 (cmpN p n)) ∧ Below w.heap.size w w' := by
  obtain ⟨W, hW, hb, hsz, c0, c1, _, _⟩ := box2 w (.int .u32 (p : Int)) (.int .i64 r) 46
  have K := compare64 p n W
  go_enter Try.func63, Try.ntmps63
  go_wp2_with fail
  refine K.mono ?_
  rintro e w1 ⟨rfl, rfl⟩
  go_wp2
  go_ret
  exact ⟨rfl, hb⟩
theorem lo_at {xs : List (Nat × Int)} (hs : Srt xs) (a i : Nat) (h : i < xs.length) : i < (lo xs a).length ↔ xs[i].1 < a := by
  have e := parts xs hs a a (Nat.le_refl _)
  have l := parts_len xs hs a a (Nat.le_refl _)
  constructor
  · intro hi
    have h2 : xs[i]? = (lo xs a)[i]? := by
      conv => lhs; rw [e]
      rw [List.append_assoc, List.getElem?_append_left hi]
    rw [List.getElem?_eq_getElem h, List.getElem?_eq_getElem hi] at h2
    have h3 := Option.some.inj h2
    rw [h3]
    exact (lo_mem.1 (List.getElem_mem hi)).2
  · intro hx
    apply Classical.byContradiction
    intro hi
    have h2 : xs[i]? = (mid xs a a ++ _root_.Go.Proofs.Ytpaanfeleeomnaa.hi xs a)[i - (lo xs a).length]? := by
      conv => lhs; rw [e]
      rw [List.append_assoc, List.getElem?_append_right (by omega)]
    have h4 : xs[i] ∈ mid xs a a ++ _root_.Go.Proofs.Ytpaanfeleeomnaa.hi xs a := by
      rw [List.getElem?_eq_getElem h] at h2
      exact List.mem_of_getElem? h2.symm
    rcases List.mem_append.1 h4 with g | g
    · have := (mid_mem.1 g).2; omega
    · have := (hi_mem.1 g).2; omega
/-- Is a place in a list? -/
def isIn (xs : List (Nat × Int)) (n : Nat) : Bool := xs.any (fun x => x.1 == n)
theorem isIn_at {xs : List (Nat × Int)} (hs : Srt xs) (n : Nat) (h : (lo xs n).length < xs.length) : isIn xs n = decide (xs[(lo xs n).length].1 = n) := by
  obtain ⟨m, hm⟩ : ∃ m, m = (lo xs n).length := ⟨_, rfl⟩
  have h' : m < xs.length := by omega
  have e : xs[(lo xs n).length] = xs[m] := by simp [hm]
  rw [e]
  have hge : n ≤ xs[m].1 := by
    have := (lo_at hs n m h').2
    omega
  rw [Bool.eq_iff_iff]
  simp only [isIn, List.any_eq_true, beq_iff_eq, decide_eq_true_eq]
  constructor
  · rintro ⟨x, hx, e2⟩
    obtain ⟨j, hj, rfl⟩ := List.getElem_of_mem hx
    have q1 := (lo_at hs n j hj)
    have q2 : ¬ j < m := by omega
    by_cases q3 : j = m
    · subst q3; exact e2
    · have := List.pairwise_iff_getElem.1 hs m j h' hj (by omega)
      omega
  · intro e2
    exact ⟨_, List.getElem_mem h', e2⟩
theorem isIn_end {xs : List (Nat × Int)} (hs : Srt xs) (n : Nat) (h : ¬ (lo xs n).length < xs.length) : isIn xs n = false := by
  rw [isIn, List.any_eq_false]
  intro x hx
  obtain ⟨j, hj, rfl⟩ := List.getElem_of_mem hx
  have := (lo_at hs n j hj)
  simp; omega
set_option maxHeartbeats 2000000 in
theorem bsearch62 (v : Value) (ps : List (Nat × Int)) (n : Nat) (w : World) (hp : Pg.Sl .i64 w v ps) (hs : Srt ps) (hl : ps.length ≤ 1073741824) :
    Calls Try.prog 62 #[v, .int .u32 (n : Int), .func (.func 63) #[] #[]] w fun e w' => e = .returned (.tuple #[.int .i64 (((lo ps n).length : Nat) : Int), .bool (isIn ps n)]) ∧ Below w.heap.size w w' := by
  obtain ⟨ao, cap, rfl, h1, h2, _, h4⟩ := hp
  have HX : Hid (∀ i (h : i < ps.length), ∃ b o, ao = some ⟨b, o, none⟩ ∧ w.cell? ⟨b, o + i * 2, none⟩ = some (.int .u32 (ps[i].1 : Int)) ∧ w.cell? ⟨b, o + i * 2 + 1, none⟩ = some (.int .i64 ps[i].2)) := h4
  have HA : Hid (∀ i (h : i < ps.length), i < (lo ps n).length ↔ ps[i].1 < n) := fun i h => lo_at hs n i h
  have HI : Hid (∀ h : (lo ps n).length < ps.length, isIn ps n = decide (ps[(lo ps n).length].1 = n)) := isIn_at hs n
  have HE : Hid (¬ (lo ps n).length < ps.length → isIn ps n = false) := isIn_end hs n
  have hml : (lo ps n).length ≤ ps.length := lo_len _ _
  generalize (lo ps n).length = m at HA HI HE hml ⊢
  generalize isIn ps n = bb at HI HE ⊢
  clear h4 hs
  go_enter Try.func62, Try.ntmps62
  go_wp2
  go_loopw [9, 10] (fun a b wr => ∃ i j : Nat, a = .int .i64 (i : Int) ∧ b = .int .i64 (j : Int) ∧ i ≤ m ∧ m ≤ j ∧ j ≤ ps.length ∧ Below w.heap.size w wr) (fun a b _ => (intOf b).toNat - (intOf a).toNat)
  case atStart => exact ⟨0, ps.length, rfl, rfl, Nat.zero_le _, hml, Nat.le_refl _, Below.refl _ _⟩
  case round =>
    obtain ⟨i, j, rfl, rfl, q1, q2, q3, hb⟩ := hrel
    by_cases hij : i < j
    · obtain ⟨h, hh⟩ : ∃ h, h = (i + j) / 2 := ⟨_, rfl⟩
      have g1 : i ≤ h := by omega
      have g2 : h < j := by omega
      have g3 : h < ps.length := by omega
      have y1 : IntKind.u64.wrap ((i : Int) + (j : Int)) / 2 = (h : Int) := by rw [IntKind.wrap_u64]; omega
      have y2 : ((i : Int) + (j : Int)) / 2 = (h : Int) := by omega
      have y3 : IntKind.u64.wrap ((i : Int) + (j : Int)) = (i : Int) + (j : Int) := by rw [IntKind.wrap_u64]; omega
      obtain ⟨b, o, rfl, d0, d1⟩ := HX.out h g3
      have d0 := keep_cell hb d0
      have d1 := keep_cell hb d1
      have ha := HA.out h g3
      generalize ps[h].1 = p at d0 ha
      generalize ps[h].2 = r at d1
      have K := searchc63 p n r wr
      clear hh
      by_cases hp : h < m
      · have e1 : cmpN p n = -1 := by rw [cmpN, if_pos (ha.1 hp)]
        rw [e1] at K
        clear ha
        go_wp2_with fail
        refine K.mono ?_
        rintro e w1 ⟨rfl, hb1⟩
        go_wp2
        go_roundw
        case rel => exact ⟨h + 1, j, by go_num, rfl, by omega, q2, q3, below_tr hb hb1⟩
        case measure => simp [intOf]; omega
      · have e1 : ¬ cmpN p n < 0 := by
          have : ¬ p < n := fun c => hp (ha.2 c)
          rw [cmpN, if_neg this]
          split <;> decide
        generalize cmpN p n = cc at K e1
        clear ha
        go_wp2_with fail
        refine K.mono ?_
        rintro e w1 ⟨rfl, hb1⟩
        go_wp2
        go_roundw
        case rel => exact ⟨i, h, rfl, rfl, q1, by omega, by omega, below_tr hb hb1⟩
        case measure => simp [intOf]; omega
    · obtain rfl : i = m := by omega
      by_cases hil : i < ps.length
      · obtain ⟨b, o, rfl, d0, d1⟩ := HX.out i hil
        have d0 := keep_cell hb d0
        have d1 := keep_cell hb d1
        have hi := HI.out hil
        generalize ps[i].1 = p at d0 hi
        generalize ps[i].2 = r at d1
        have K := searchc63 p n r wr
        have HR : Hid ((cmpN p n == 0) = bb) := by
          show _ = _
          rw [hi, cmpN, Bool.eq_iff_iff]
          simp only [beq_iff_eq, decide_eq_true_eq]
          split
          · constructor
            · intro c; cases c
            · omega
          · split
            · constructor
              · intro c; cases c
              · omega
            · simp; omega
        have e1 := HR.out
        generalize cmpN p n = cc at K HR e1
        clear hi HI HE
        go_wp2_with fail
        refine K.mono ?_
        rintro e w1 ⟨rfl, hb1⟩
        go_wp2
        go_ret2
        exact ⟨rfl, below_tr hb hb1⟩
      · have HR : Hid (bb = false) := HE.out hil
        obtain rfl : i = ps.length := by omega
        go_wp2
        go_ret2
        exact ⟨by rw [HR.out]; rfl, hb⟩
set_option maxHeartbeats 2000000 in
theorem gsearch37 (v : Value) (ps : List (Nat × Int)) (n : Nat) (w : World) (hp : Pg.Sl .i64 w v ps) (hs : Srt ps) (hl : ps.length ≤ 1073741824) :
    Calls Try.prog 37 #[v, .int .u32 (n : Int)] w fun e w' => e = .returned (.tuple #[.int .i64 (((lo ps n).length : Nat) : Int), .bool (isIn ps n)]) ∧ Below w.heap.size w w' := by
  have K := bsearch62 v ps n w hp hs hl
  obtain ⟨_, _, rfl, _⟩ := hp
  generalize (lo ps n).length = m at K ⊢
  generalize isIn ps n = bb at K ⊢
  go_enter Try.func37, Try.ntmps37
  go_wp2_with fail
  refine K.mono ?_
  rintro e w1 ⟨rfl, hb1⟩
  go_wp2
  go_ret2
  exact ⟨rfl, hb1⟩
end Go.Proofs.Ytpaanfeleeomnaa
