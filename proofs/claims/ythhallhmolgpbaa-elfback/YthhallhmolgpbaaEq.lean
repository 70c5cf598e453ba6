/- What is proved here: which headers are the same: the program's and the document's. -/
import Derived.Test.YthhallhmolgpbaaSl
import Derived.Laws.StructEq
namespace Go.Proofs.Ythhallhmolgpbaa
open Go.RowKit
set_option linter.unusedVariables false
set_option linter.unusedSimpArgs false
set_option maxRecDepth 100000
theorem eq39 (g h : Sg) (w : World) : (binOp .eql 39 g.val h.val).run Try.prog w = .ok (.bool (sgEq g h)) w := by
  obtain ⟨k, o, a, s, r, p, l⟩ := g
  obtain ⟨k', o', a', s', r', p', l'⟩ := h
  have eo : ((o : Int) == (o' : Int)) = (o == o') := by rw [Bool.eq_iff_iff]; simp only [beq_iff_eq]; omega
  have ea : ((a : Int) == (a' : Int)) = (a == a') := by rw [Bool.eq_iff_iff]; simp only [beq_iff_eq]; omega
  have es : ((s : Int) == (s' : Int)) = (s == s') := by rw [Bool.eq_iff_iff]; simp only [beq_iff_eq]; omega
  have er : ((r : Int) == (r' : Int)) = (r == r') := by rw [Bool.eq_iff_iff]; simp only [beq_iff_eq]; omega
  have el : ((l : Int) == (l' : Int)) = (l == l') := by rw [Bool.eq_iff_iff]; simp only [beq_iff_eq]; omega
  simp only [Sg.val, sgEq]
  rw [← eo, ← ea, ← es, ← er, ← el]
  clear eo ea es er el
  cases h0 : (k == k') with
  | false => simp [go_sem, h0]
  | true =>
    cases h1 : ((o : Int) == (o' : Int)) with
    | false => simp [go_sem, h0, h1]
    | true =>
      cases h2 : ((a : Int) == (a' : Int)) with
      | false => simp [go_sem, h0, h1, h2]
      | true =>
        cases h3 : ((s : Int) == (s' : Int)) with
        | false => simp [go_sem, h0, h1, h2, h3]
        | true =>
          cases h4 : ((r : Int) == (r' : Int)) with
          | false => simp [go_sem, h0, h1, h2, h3, h4]
          | true =>
            cases h5 : (p == p') with
            | false => simp [go_sem, h0, h1, h2, h3, h4, h5]
            | true =>
              cases h6 : ((l : Int) == (l' : Int)) with
              | false => simp [go_sem, h0, h1, h2, h3, h4, h5, h6]
              | true =>
                simp [go_sem, h0, h1, h2, h3, h4, h5, h6]
theorem ne39 (g h : Sg) (w : World) : (binOp .neq 39 g.val h.val).run Try.prog w = .ok (.bool (!sgEq g h)) w := by
  obtain ⟨k, o, a, s, r, p, l⟩ := g
  obtain ⟨k', o', a', s', r', p', l'⟩ := h
  have eo : ((o : Int) == (o' : Int)) = (o == o') := by rw [Bool.eq_iff_iff]; simp only [beq_iff_eq]; omega
  have ea : ((a : Int) == (a' : Int)) = (a == a') := by rw [Bool.eq_iff_iff]; simp only [beq_iff_eq]; omega
  have es : ((s : Int) == (s' : Int)) = (s == s') := by rw [Bool.eq_iff_iff]; simp only [beq_iff_eq]; omega
  have er : ((r : Int) == (r' : Int)) = (r == r') := by rw [Bool.eq_iff_iff]; simp only [beq_iff_eq]; omega
  have el : ((l : Int) == (l' : Int)) = (l == l') := by rw [Bool.eq_iff_iff]; simp only [beq_iff_eq]; omega
  simp only [Sg.val, sgEq]
  rw [← eo, ← ea, ← es, ← er, ← el]
  clear eo ea es er el
  cases h0 : (k == k') with
  | false => simp [go_sem, h0]
  | true =>
    cases h1 : ((o : Int) == (o' : Int)) with
    | false => simp [go_sem, h0, h1]
    | true =>
      cases h2 : ((a : Int) == (a' : Int)) with
      | false => simp [go_sem, h0, h1, h2]
      | true =>
        cases h3 : ((s : Int) == (s' : Int)) with
        | false => simp [go_sem, h0, h1, h2, h3]
        | true =>
          cases h4 : ((r : Int) == (r' : Int)) with
          | false => simp [go_sem, h0, h1, h2, h3, h4]
          | true =>
            cases h5 : (p == p') with
            | false => simp [go_sem, h0, h1, h2, h3, h4, h5]
            | true =>
              cases h6 : ((l : Int) == (l' : Int)) with
              | false => simp [go_sem, h0, h1, h2, h3, h4, h5, h6]
              | true =>
                simp [go_sem, h0, h1, h2, h3, h4, h5, h6]
theorem sgs_take {xs ys : List Sg} {k : Nat} (hl : xs.length = ys.length) (hk : k < xs.length) (hk' : k < ys.length) (ht : xs.take k = ys.take k) (he : sgEq xs[k] ys[k] = true) : xs.take (k + 1) = ys.take (k + 1) := by
  rw [List.take_succ_eq_append_getElem hk, List.take_succ_eq_append_getElem hk', ht, (sgEq_iff _ _).1 he]
theorem sgs_no {xs ys : List Sg} {k : Nat} (hk : k < xs.length) (hk' : k < ys.length) (he : sgEq xs[k] ys[k] = false) : sgsEq xs ys = false := by
  cases h : sgsEq xs ys with
  | false => rfl
  | true =>
    have := (sgsEq_iff _ _).1 h
    subst this
    rw [(sgEq_iff _ _).2 rfl] at he
    cases he
theorem sgs_len {xs ys : List Sg} (h : xs.length ≠ ys.length) : sgsEq xs ys = false := by
  cases hh : sgsEq xs ys with
  | false => rfl
  | true => exact absurd (congrArg List.length ((sgsEq_iff _ _).1 hh)) h
set_option maxHeartbeats 1000000 in
theorem equal33 (v v' : Value) (xs ys : List Sg) (w : World) (hx : SlG w v xs) (hy : SlG w v' ys) (hl : xs.length ≤ 1000000) :
    Calls Try.prog 33 #[v, v'] w fun e w' => e = .returned (.bool (sgsEq xs ys)) ∧ Below w.heap.size w w' := by
  obtain ⟨ax, cx, rfl, x1, x2, x3, x4⟩ := hx
  obtain ⟨ay, cy, rfl, y1, y2, y3, y4⟩ := hy
  have HX : Hid (∀ i (h : i < xs.length), ∃ b o, ax = some ⟨b, o, none⟩ ∧ At7 w b (o + i * 7) xs[i]) := x4
  have HY : Hid (∀ i (h : i < ys.length), ∃ b o, ay = some ⟨b, o, none⟩ ∧ At7 w b (o + i * 7) ys[i]) := y4
  clear x4 y4 x3 y3
  by_cases hlen : xs.length = ys.length
  · rw [← hlen] at y1 ⊢
    have HL : Hid (xs.length = ys.length) := hlen
    clear hlen
    go_enter Try.func33, Try.ntmps33
    go_wp2
    go_loopw [13] (fun x wr => ∃ k : Nat, x = .int .i64 (k : Int) ∧ k ≤ xs.length ∧ xs.take k = ys.take k ∧ Below w.heap.size w wr) (fun x _ => xs.length - (intOf x).toNat)
    case atStart => exact ⟨0, rfl, Nat.zero_le _, rfl, Below.refl _ _⟩
    case round =>
      obtain ⟨k, rfl, hk, htk, hbr⟩ := hrel
      have HT : Hid (xs.take k = ys.take k) := htk
      clear htk
      by_cases hlt : k < xs.length
      · have hlt' : k < ys.length := by rw [← HL.out]; exact hlt
        obtain ⟨b, o, rfl, h7⟩ := HX.out k hlt
        obtain ⟨b', o', rfl, h7'⟩ := HY.out k hlt'
        have h7 := h7.keep hbr
        have h7' := h7'.keep hbr
        have hne := ne39 xs[k] ys[k]
        have HN : Hid ((sgEq xs[k] ys[k] = true → xs.take (k + 1) = ys.take (k + 1)) ∧ (sgEq xs[k] ys[k] = false → sgsEq xs ys = false)) := ⟨sgs_take HL.out hlt hlt' HT.out, sgs_no hlt hlt'⟩
        have hlti : (k : Int) < (xs.length : Int) := by omega
        obtain ⟨g, hg⟩ : ∃ g, g = xs[k] := ⟨_, rfl⟩
        obtain ⟨h, hh⟩ : ∃ h, h = ys[k] := ⟨_, rfl⟩
        rw [← hg] at h7 hne HN
        rw [← hh] at h7' hne HN
        clear hg hh
        obtain ⟨r0, r1, r2, r3, r4, r5, r6⟩ := h7
        obtain ⟨t0, t1, t2, t3, t4, t5, t6⟩ := h7'
        unfold Sg.val at hne
        cases hq : sgEq g h with
        | true =>
          rw [hq] at hne HN
          have HA : Hid (xs.take (k + 1) = ys.take (k + 1)) := HN.out.1 rfl
          clear hq HN
          go_wp2
          go_quiet (fail)
          go_wp2
          go_roundw
          case rel => exact ⟨k + 1, by go_num, by omega, HA.out, by first | exact hbr | exact below_drewN hbr _⟩
          case measure => simp [intOf]; omega
        | false =>
          rw [hq] at hne HN
          have HA : Hid (sgsEq xs ys = false) := HN.out.2 rfl
          clear hq HN
          go_wp2
          go_quiet (fail)
          go_wp2
          go_ret
          exact ⟨by rw [HA.out]; rfl, (by first | exact hbr | exact below_drewN hbr _)⟩
      · have HA : Hid (sgsEq xs ys = true) := by
          have h := HT.out
          rw [List.take_of_length_le (by omega), List.take_of_length_le (by rw [← HL.out]; omega)] at h
          exact (sgsEq_iff _ _).2 h
        go_wp2
        go_ret
        exact ⟨by rw [HA.out]; rfl, hbr⟩
  · have e : sgsEq xs ys = false := sgs_len hlen
    rw [e]
    have hne : ¬ (xs.length : Int) = (ys.length : Int) := by omega
    go_enter Try.func33, Try.ntmps33
    go_wp2
    go_ret
    exact ⟨rfl, Below.refl _ _⟩
set_option maxHeartbeats 1000000 in
theorem same17 (a b : Ef) (v v' : Value) (w : World) (hx : SlG w v a.segs) (hy : SlG w v' b.segs) (hl : a.segs.length ≤ 1000000) :
    Calls Try.prog 17 #[a.val v, b.val v'] w fun e w' => e = .returned (.bool (sameE a b)) ∧ Below w.heap.size w w' := by
  obtain ⟨W0, hW0, hb0, hz0, q0, q1, q2⟩ := box3 w (.bool a.shared) (.int .u32 (a.entry : Int)) v 26
  obtain ⟨W, hW, hb1, hz1, p0, p1, p2⟩ := box3 W0 (.bool b.shared) (.int .u32 (b.entry : Int)) v' 26
  have q0 := keep_cell hb1 q0
  have q1 := keep_cell hb1 q1
  have q2 := keep_cell hb1 q2
  rw [hz0] at p0 p1 p2
  have HB : Hid (Below w.heap.size w W) := below_tr hb0 hb1
  have K := equal33 v v' a.segs b.segs W (hx.keep HB.out) (hy.keep HB.out) hl
  unfold sameE
  obtain ⟨B, hB⟩ : ∃ B, B = sgsEq a.segs b.segs := ⟨_, rfl⟩
  rw [← hB] at K ⊢
  obtain ⟨ax, cx, rfl, x1, x2, x3, x4⟩ := hx
  obtain ⟨ay, cy, rfl, y1, y2, y3, y4⟩ := hy
  clear x4 y4 x3 y3 hB hb0 hb1 hz1
  unfold Ef.val
  have ee : (a.entry == b.entry) = ((a.entry : Int) == (b.entry : Int)) := by rw [Bool.eq_iff_iff]; simp only [beq_iff_eq]; omega
  rw [ee]
  clear ee
  cases h1 : (a.shared == b.shared) with
  | false =>
    clear K
    go_enter Try.func17, Try.ntmps17
    go_wp2
    go_ret
    exact ⟨rfl, HB.out⟩
  | true =>
    cases h2 : ((a.entry : Int) == (b.entry : Int)) with
    | false =>
      clear K
      go_enter Try.func17, Try.ntmps17
      go_wp2
      go_ret
      exact ⟨rfl, HB.out⟩
    | true =>
      go_enter Try.func17, Try.ntmps17
      go_wp2_with fail
      refine K.mono ?_
      rintro e w1 ⟨rfl, hb1⟩
      clear K
      go_wp2
      go_ret
      exact ⟨rfl, below_tr HB.out hb1⟩
set_option maxHeartbeats 1000000 in
theorem rsame10 (a b : Ef) (v v' : Value) (w : World) (hx : SlG w v a.segs) (hy : SlG w v' b.segs) (hl : a.segs.length ≤ 1000000) :
    Calls Try.prog 10 #[a.val v, b.val v'] w fun e w' => e = .returned (.bool (sameE a b)) ∧ Below w.heap.size w w' := by
  obtain ⟨W0, hW0, hb0, hz0, q0, q1, q2⟩ := box3 w (.bool a.shared) (.int .u32 (a.entry : Int)) v 26
  obtain ⟨W, hW, hb1, hz1, p0, p1, p2⟩ := box3 W0 (.bool b.shared) (.int .u32 (b.entry : Int)) v' 26
  have q0 := keep_cell hb1 q0
  have q1 := keep_cell hb1 q1
  have q2 := keep_cell hb1 q2
  rw [hz0] at p0 p1 p2
  have HB : Hid (Below w.heap.size w W) := below_tr hb0 hb1
  have hx' := hx.keep HB.out
  have hy' := hy.keep HB.out
  obtain ⟨ax, cx, rfl, x1, x2, x3, x4⟩ := hx'
  obtain ⟨ay, cy, rfl, y1, y2, y3, y4⟩ := hy'
  obtain ⟨xs, hxs⟩ : ∃ xs, xs = a.segs := ⟨_, rfl⟩
  obtain ⟨ys, hys⟩ : ∃ ys, ys = b.segs := ⟨_, rfl⟩
  obtain ⟨S, hS⟩ : ∃ S, S = sameE a b := ⟨_, rfl⟩
  have HSE : Hid (S = ((a.shared == b.shared) && (((a.entry : Int) == (b.entry : Int)) && sgsEq xs ys))) := by
    have ee : (a.entry == b.entry) = ((a.entry : Int) == (b.entry : Int)) := by rw [Bool.eq_iff_iff]; simp only [beq_iff_eq]; omega
    show S = _
    rw [hS, hxs, hys, ← ee]
    rfl
  rw [← hS]
  rw [← hxs] at x1 x4 q2 hl hW0 ⊢
  rw [← hys] at y1 y4 p2 hW ⊢
  have HX : Hid (∀ i (h : i < xs.length), ∃ b o, ax = some ⟨b, o, none⟩ ∧ At7 W b (o + i * 7) xs[i]) := x4
  have HY : Hid (∀ i (h : i < ys.length), ∃ b o, ay = some ⟨b, o, none⟩ ∧ At7 W b (o + i * 7) ys[i]) := y4
  clear x4 y4 x3 y3 hb0 hb1 hz1 hxs hys hS hx hy
  unfold Ef.val
  cases h1 : (a.shared == b.shared) with
  | false =>
    rw [h1] at HSE
    have h1' : (a.shared != b.shared) = true := by rw [bne, h1]; rfl
    go_enter Try.func10, Try.ntmps10
    go_wp2
    go_ret
    exact ⟨by rw [HSE.out]; rfl, HB.out⟩
  | true =>
    have h1' : (a.shared != b.shared) = false := by rw [bne, h1]; rfl
    cases h2 : ((a.entry : Int) == (b.entry : Int)) with
    | false =>
      rw [h1, h2] at HSE
      have h2' : ((a.entry : Int) != (b.entry : Int)) = true := by rw [bne, h2]; rfl
      go_enter Try.func10, Try.ntmps10
      go_wp2
      go_ret
      exact ⟨by rw [HSE.out]; rfl, HB.out⟩
    | true =>
      rw [h1, h2] at HSE
      have h2' : ((a.entry : Int) != (b.entry : Int)) = false := by rw [bne, h2]; rfl
      by_cases hlen : xs.length = ys.length
      · have HL : Hid (xs.length = ys.length) := hlen
        have hle : (ys.length : Int) = (xs.length : Int) := by omega
        have HP2 : Hid (W.cell? ⟨w.heap.size + 1, 2, none⟩ = some (.slice ay ys.length cy)) := p2
        have HQ2 : Hid (W.cell? ⟨w.heap.size, 2, none⟩ = some (.slice ax xs.length cx)) := q2
        clear hlen
        go_enter Try.func10, Try.ntmps10
        go_wp2
        clear q0 q1 q2 p0 p1 p2 hW hW0
        go_loopw [5] (fun x wr => ∃ k : Nat, x = .int .i64 (k : Int) ∧ k ≤ xs.length ∧ xs.take k = ys.take k ∧ Below W.heap.size W wr) (fun x _ => xs.length - (intOf x).toNat)
        case atStart => exact ⟨0, rfl, Nat.zero_le _, rfl, Below.refl _ _⟩
        case round =>
          obtain ⟨k, rfl, hk, htk, hbr⟩ := hrel
          have HT : Hid (xs.take k = ys.take k) := htk
          clear htk
          by_cases hlt : k < xs.length
          · have hlt' : k < ys.length := by rw [← HL.out]; exact hlt
            obtain ⟨b, o, rfl, h7⟩ := HX.out k hlt
            obtain ⟨b', o', rfl, h7'⟩ := HY.out k hlt'
            have h7 := h7.keep hbr
            have h7' := h7'.keep hbr
            have hne := ne39 xs[k] ys[k]
            have HN : Hid ((sgEq xs[k] ys[k] = true → xs.take (k + 1) = ys.take (k + 1)) ∧ (sgEq xs[k] ys[k] = false → sgsEq xs ys = false)) := ⟨sgs_take HL.out hlt hlt' HT.out, sgs_no hlt hlt'⟩
            have hlti : (k : Int) < (xs.length : Int) := by omega
            obtain ⟨g, hg⟩ : ∃ g, g = xs[k] := ⟨_, rfl⟩
            obtain ⟨h, hh⟩ : ∃ h, h = ys[k] := ⟨_, rfl⟩
            rw [← hg] at h7 hne HN
            rw [← hh] at h7' hne HN
            clear hg hh
            obtain ⟨r0, r1, r2, r3, r4, r5, r6⟩ := h7
            obtain ⟨t0, t1, t2, t3, t4, t5, t6⟩ := h7'
            unfold Sg.val at hne
            have qr := keep_cell hbr HQ2.out
            have pr := keep_cell hbr HP2.out
            cases hq : sgEq g h with
            | true =>
              rw [hq] at hne HN
              have HA : Hid (xs.take (k + 1) = ys.take (k + 1)) := HN.out.1 rfl
              clear hq HN
              go_wp2
              go_quiet (fail)
              go_wp2
              go_roundw
              case rel => exact ⟨k + 1, by go_num, by omega, HA.out, by first | exact hbr | exact below_drewN hbr _⟩
              case measure => simp [intOf]; omega
            | false =>
              rw [hq] at hne HN
              have HA : Hid (sgsEq xs ys = false) := HN.out.2 rfl
              clear hq HN
              go_wp2
              go_quiet (fail)
              go_wp2
              go_ret
              exact ⟨by rw [HSE.out, HA.out]; rfl, below_tr HB.out (by first | exact hbr | exact below_drewN hbr _)⟩
          · have HA : Hid (sgsEq xs ys = true) := by
              have h := HT.out
              rw [List.take_of_length_le (by omega), List.take_of_length_le (by rw [← HL.out]; omega)] at h
              exact (sgsEq_iff _ _).2 h
            have qr := keep_cell hbr HQ2.out
            have pr := keep_cell hbr HP2.out
            go_wp2
            go_ret
            exact ⟨by rw [HSE.out, HA.out]; rfl, below_tr HB.out hbr⟩
      · have e : sgsEq xs ys = false := sgs_len hlen
        rw [e] at HSE
        have hne : ¬ (xs.length : Int) = (ys.length : Int) := by omega
        go_enter Try.func10, Try.ntmps10
        go_wp2
        go_ret
        exact ⟨by rw [HSE.out]; rfl, HB.out⟩
end Go.Proofs.Ythhallhmolgpbaa
