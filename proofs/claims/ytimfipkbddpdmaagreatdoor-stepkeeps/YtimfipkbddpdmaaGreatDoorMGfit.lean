import Derived.Test.YtimfipkbddpdmaaGreatDoorMGdoc
import Derived.Test.YtimfipkbddpdmaaGreatDoorMPlain
import Derived.Test.YtimfipkbddpdmaaGreatDoorMSpan
import Derived.Test.YtimfipkbddpdmaaGreatDoorLast
set_option linter.unusedVariables false
set_option linter.unusedSimpArgs false
set_option maxRecDepth 100000
open Go Go.RowKit
namespace Go.Proofs.YtimfipkbddpdmaaGreatDoor.Gm
structure FitG (ms cs ps : List (Nat × Int)) (bs : Nat) : Prop where
 fq : FitQ ms cs
 al : bs % 16384 = 0
 le : bs <= 4611686018427387904
 lp : ps.length <= 256
 sp : Srt ps
 pg : ∀ x ∈ ps, x.1 < 1048576 /\ 0 <= x.2 /\ x.2 <= 7 /\ ∃ y ∈ ms, y.1 = hp bs (x.1 / 4)
 rm : ∀ y ∈ ms, inB bs (y.1 * 16384) = true -> y.2 = 3 /\ ps.any (fun x => hp bs (x.1 / 4) == y.1) = true
 rc : ∀ c ∈ cs, inB bs c.1 = true -> 0 <= protN ps ((c.1 - bs) / 4096)
open Classical in
noncomputable def fitGB (ms cs ps : List (Nat × Int)) (bs : Nat) : Bool := decide (FitG ms cs ps bs)
open Classical in
theorem fitGB_no {ms cs ps : List (Nat × Int)} {bs : Nat} (h : ¬ FitG ms cs ps bs) : fitGB ms cs ps bs = false := decide_eq_false h
open Classical in
theorem fitGB_yes {ms cs ps : List (Nat × Int)} {bs : Nat} (h : FitG ms cs ps bs) : fitGB ms cs ps bs = true := decide_eq_true h
set_option maxHeartbeats 8000000 in
theorem rfit11 (vm vc vp : Value) (ms cs ps : List (Nat × Int)) (bs : Nat) (w : World) (hsl : SlG w vm vc vp ms cs ps) (hrc : ∀ y ∈ cs, y.1 < 18446744073709551616) (hbs : bs < 18446744073709551616) :
  Calls Tryz.prog 16 #[.agg #[vm, vc, .int .u64 bs, vp]] w fun e w' => e = .returned (.bool (fitGB ms cs ps bs)) /\ Below w.heap.size w w' := by
 obtain ⟨W, hW, hb, hsz, c0, c1, c2, c3, _⟩ := box4 w vm vc (.int .u64 bs) vp 33
 obtain ⟨F, hF⟩ : ∃ b, b = fitGB ms cs ps bs := ⟨_, rfl⟩
 rw [<- hF]
 have HF : Hid (F = fitGB ms cs ps bs) := hF
 have hrc' : ∀ i, (cs.getD i (0, 0)).1 < 18446744073709551616 := fun i => by
  by_cases hi : i < cs.length
  ·rw [getD_at hi]; exact hrc _ (List.getElem_mem hi)
  ·rw [List.getD_eq_getElem?_getD, List.getElem?_eq_none (by omega)]; decide
 have K32 : Hid (∀ w', Below W.heap.size W w' -> Calls Tryz.prog 31 #[.agg #[vm, vc]] w' fun e w'' => e = .returned (.bool (fitB ms cs)) /\ Below w'.heap.size w' w'') := fun w' hb' => rfit10 _ _ ms cs w' (hsl.1.keep (below_tr hb hb')) (hsl.2.1.keep (below_tr hb hb')) hrc'
 have K27 : Hid (∀ pg w', Below W.heap.size W w' -> Calls Tryz.prog 32 #[.agg #[vm, vc], .int .u64 ((pg : Nat) : Int)] w' fun e w'' => e = .returned (.int .i64 (placeOf ms pg)) /\ Below w'.heap.size w' w'') := fun pg w' hb' => place33 vm vc ms pg w' (hsl.1.keep (below_tr hb hb')) (by obtain ⟨a, p, h, _⟩ := hsl.2.1; exact ⟨_, _, _, h⟩)
 have K15 : Hid (∀ n w', Below W.heap.size W w' -> Calls Tryz.prog 12 #[.agg #[vm, vc, .int .u64 bs, vp], .int .u32 ((n : Nat) : Int)] w' fun e w'' => e = .returned (.int .i64 (protN ps n)) /\ Below w'.heap.size w' w'') := fun n w' hb' => rprot15 vm vc vp bs n ps w' (by obtain ⟨a, p, h, _⟩ := hsl.1; exact ⟨_, _, _, h⟩) (by obtain ⟨a, p, h, _⟩ := hsl.2.1; exact ⟨_, _, _, h⟩) (hsl.2.2.keep (below_tr hb hb'))
 have K33 : Hid (∀ a w', a < 18446744073709551616 -> Calls Tryz.prog 33 #[.agg #[vm, vc, .int .u64 bs, vp], .int .u64 ((a : Nat) : Int)] w' fun e w'' => e = .returned (.tuple #[.int .u32 (if inB bs a then (((a - bs) / 4096 : Nat) : Int) else 0), .bool (inB bs a)]) /\ Below w'.heap.size w' w'') := fun a w' ha => rown33 vm vc vp bs a w' (by obtain ⟨a, p, h, _⟩ := hsl.1; exact ⟨_, _, _, h⟩) (by obtain ⟨a, p, h, _⟩ := hsl.2.1; exact ⟨_, _, _, h⟩) (by obtain ⟨a, p, h, _⟩ := hsl.2.2; exact ⟨_, _, _, h⟩) hbs ha
 have K34 : Hid (bs <= 4611686018427387904 -> bs % 16384 = 0 -> (∀ x ∈ ps, x.1 < 1048576) -> ∀ pg w', Below W.heap.size W w' -> Calls Tryz.prog 34 #[.agg #[vm, vc, .int .u64 bs, vp], .int .u64 ((pg : Nat) : Int)] w' fun e w'' => e = .returned (.bool (ps.any (fun x => hp bs (x.1 / 4) == pg))) /\ Below w'.heap.size w' w'') := fun h1 h2 h3 pg w' hb' => rused34 vm vc vp bs pg ps w' (by obtain ⟨a, p, h, _⟩ := hsl.1; exact ⟨_, _, _, h⟩) (by obtain ⟨a, p, h, _⟩ := hsl.2.1; exact ⟨_, _, _, h⟩) (hsl.2.2.keep (below_tr hb hb')) h1 h2 h3
 obtain ⟨hs1, hs2, hs3⟩ := hsl
 obtain ⟨am, pm, rfl, m1, m2, _, m4⟩ := hs1
 obtain ⟨ac, pc, rfl, d1, d2, _, d4⟩ := hs2
 obtain ⟨ap, pp, rfl, p1, p2, _, p4⟩ := hs3
 have HM : Hid (∀ i (h : i < ms.length), ∃ b o, am = some ⟨b, o, none⟩ /\ W.cell? ⟨b, o + i * 2, none⟩ = some (.int .u64 (ms[i].1 : Int)) /\ W.cell? ⟨b, o + i * 2 + 1, none⟩ = some (.int .i64 ms[i].2)) := fun i hi => by
  obtain ⟨b, o, e, x, y⟩ := m4 i hi
  exact ⟨b, o, e, keep_cell hb x, keep_cell hb y⟩
 have HC : Hid (∀ i (h : i < cs.length), ∃ b o, ac = some ⟨b, o, none⟩ /\ W.cell? ⟨b, o + i * 2, none⟩ = some (.int .u64 (cs[i].1 : Int))) := fun i hi => by
  obtain ⟨b, o, e, x, y⟩ := d4 i hi
  exact ⟨b, o, e, keep_cell hb x⟩
 have HP : Hid (∀ i (h : i < ps.length), ∃ b o, ap = some ⟨b, o, none⟩ /\ W.cell? ⟨b, o + i * 2, none⟩ = some (.int .u32 (ps[i].1 : Int)) /\ W.cell? ⟨b, o + i * 2 + 1, none⟩ = some (.int .i64 ps[i].2)) := fun i hi => by
  obtain ⟨b, o, e, x, y⟩ := p4 i hi
  exact ⟨b, o, e, keep_cell hb x, keep_cell hb y⟩
 have HRC : Hid (∀ y ∈ cs, y.1 < 18446744073709551616) := hrc
 clear m4 d4 p4 hrc hrc' hF
 cases hfq : fitB ms cs with
 | false =>
  have HR : Hid (F = false) := by show _ = _; rw [HF.out]; exact fitGB_no (fun g => by rw [fitB_q g.fq] at hfq; cases hfq)
  rw [hfq] at K32
  clear hfq
  go_enter Tryz.func16, Tryz.ntmps16
  go_wp2_with fail
  refine (K32.out W (Below.refl _ _)).mono ?_
  rintro e w1 ⟨rfl, hb1⟩
  go_wp2
  go_ret
  exact ⟨by rw [HR.out]; rfl, below_tr hb hb1⟩
 | true =>
 have HFQ : Hid (FitQ ms cs) := q_fitB hfq
 rw [hfq] at K32
 clear hfq
 obtain ⟨m16, hm16⟩ : ∃ x, x = bs % 16384 := ⟨_, rfl⟩
 have x16 : ((bs : Int)).tmod 16384 = (m16 : Int) := by rw [Int.tmod_eq_emod_of_nonneg (by omega)]; omega
 have x16' : (bs : Int) % 16384 = (m16 : Int) := by omega
 by_cases k1 : m16 = 0
 case neg =>
  have HR : Hid (F = false) := by show _ = _; rw [HF.out]; exact fitGB_no (fun g => k1 (by rw [hm16]; exact g.al))
  have y1 : ((m16 : Int) != 0) = true := by simp; omega
  clear hm16 k1
  go_enter Tryz.func16, Tryz.ntmps16
  go_wp2_with fail
  refine (K32.out W (Below.refl _ _)).mono ?_
  rintro e w1 ⟨rfl, hb1⟩
  have c2 := keep_cell hb1 c2
  go_wp2
  go_ret
  exact ⟨by rw [HR.out]; rfl, below_tr hb hb1⟩
 subst k1
 by_cases k2 : 4611686018427387904 < (bs : Int)
 ·have HR : Hid (F = false) := by show _ = _; rw [HF.out]; exact fitGB_no (fun g => by have := g.le; omega)
  clear hm16
  go_enter Tryz.func16, Tryz.ntmps16
  go_wp2_with fail
  refine (K32.out W (Below.refl _ _)).mono ?_
  rintro e w1 ⟨rfl, hb1⟩
  have c2 := keep_cell hb1 c2
  go_wp2
  go_ret
  exact ⟨by rw [HR.out]; rfl, below_tr hb hb1⟩
 by_cases k3 : 256 < (ps.length : Int)
 ·have HR : Hid (F = false) := by show _ = _; rw [HF.out]; exact fitGB_no (fun g => by have := g.lp; omega)
  clear hm16
  go_enter Tryz.func16, Tryz.ntmps16
  go_wp2_with fail
  refine (K32.out W (Below.refl _ _)).mono ?_
  rintro e w1 ⟨rfl, hb1⟩
  have c2 := keep_cell hb1 c2
  have c3 := keep_cell hb1 c3
  go_wp2
  go_ret
  exact ⟨by rw [HR.out]; rfl, below_tr hb hb1⟩
 have HB : Hid (bs <= 4611686018427387904 /\ bs % 16384 = 0 /\ ps.length <= 256) := ⟨by omega, by omega, by omega⟩
 clear hm16
 go_enter Tryz.func16, Tryz.ntmps16
 go_wp2_with fail
 refine (K32.out W (Below.refl _ _)).mono ?_
 rintro e w1 ⟨rfl, hb1⟩
 clear K32
 have C2 := keep_cell hb1 c2
 have C3 := keep_cell hb1 c3
 go_wp2
 clear C2 C3
 go_loopw [3] (fun i wr => ∃ k : Nat, k <= ps.length /\ i = .int .i64 k /\ (∀ j (h : j < ps.length), j < k -> ps[j].1 < 1048576 /\ 0 <= ps[j].2 /\ ps[j].2 <= 7 /\ (∃ y ∈ ms, y.1 = hp bs (ps[j].1 / 4)) /\ (0 < j -> (ps.getD (j - 1) (0, 0)).1 < ps[j].1)) /\ Below W.heap.size W wr) (fun i _ => ps.length - (intOf i).toNat)
 case atStart => exact ⟨0, Nat.zero_le _, rfl, fun j _ hj => by omega, hb1⟩
 case round =>
  obtain ⟨k, hk, rfl, hno, hbr⟩ := hrel
  have HN : Hid _ := hno
  clear hno hb1
  have e0 := keep_cell hbr c0
  have e1 := keep_cell hbr c1
  have e2 := keep_cell hbr c2
  have e3 := keep_cell hbr c3
  by_cases hkl : k < ps.length
  ·obtain ⟨b, o, rfl, D0, D1⟩ := HP.out k hkl
   have f0 := keep_cell hbr D0
   have f1 := keep_cell hbr D1
   obtain ⟨p, hpk⟩ : ∃ p, p = ps[k].1 := ⟨_, rfl⟩
   obtain ⟨r, hrk⟩ : ∃ r, r = ps[k].2 := ⟨_, rfl⟩
   have HX : Hid (p = ps[k].1 /\ r = ps[k].2) := ⟨hpk, hrk⟩
   rw [<- hpk] at f0
   rw [<- hrk] at f1
   obtain ⟨W2, hW2, hb2, _, q0, q1, _, _⟩ := box2 wr (.int .u32 p) (.int .i64 r) 45
   have hbr2 := below_tr hbr hb2
   have hbw2 := below_tr hb hbr2
   have e0 := keep_cell hb2 e0
   have e1 := keep_cell hb2 e1
   have e2 := keep_cell hb2 e2
   have e3 := keep_cell hb2 e3
   clear hpk hrk D1
   by_cases a1 : 1048576 <= (p : Int)
   ·have HR : Hid (F = false) := by show _ = _; rw [HF.out]; exact fitGB_no (fun g => by have := (g.pg _ (List.getElem_mem hkl)).1; rw [<- HX.out.1] at this; omega)
    have A1 : decide (1048576 <= (p : Int)) = true := decide_eq_true a1
    clear a1
    go_wp2
    haveI : Nonempty (Grew W2) := ⟨⟨W2, Below.refl _ _⟩⟩
    have z0 := grew_cell e3
    have z1 := grew_cell q0
    have z2 := grew_cell q1
    refine wp_region_quiet_grew (by kernel_rfl) (by kernel_rfl) ?_
    repeat (go_big_quiet_step (fail))
    refine wpQuiet_nil ?_
    rintro _ ⟨pq, rfl⟩
    have hbq := pq.bel
    obtain ⟨wq, hwq⟩ : ∃ x, x = pq.w := ⟨_, rfl⟩
    rw [<- hwq] at hbq |-
    clear hwq pq this z0 z1 z2
    go_wp2
    go_ret
    exact ⟨by rw [HR.out]; rfl, below_tr hbw2 hbq⟩
   have A1 : decide (1048576 <= (p : Int)) = false := decide_eq_false a1
   by_cases a2 : r < 0
   ·have HR : Hid (F = false) := by show _ = _; rw [HF.out]; exact fitGB_no (fun g => by have := (g.pg _ (List.getElem_mem hkl)).2.1; rw [<- HX.out.2] at this; omega)
    have A2 : decide (r < 0) = true := decide_eq_true a2
    clear a2
    go_wp2
    haveI : Nonempty (Grew W2) := ⟨⟨W2, Below.refl _ _⟩⟩
    have z0 := grew_cell e3
    have z1 := grew_cell q0
    have z2 := grew_cell q1
    refine wp_region_quiet_grew (by kernel_rfl) (by kernel_rfl) ?_
    repeat (go_big_quiet_step (fail))
    refine wpQuiet_nil ?_
    rintro _ ⟨pq, rfl⟩
    have hbq := pq.bel
    obtain ⟨wq, hwq⟩ : ∃ x, x = pq.w := ⟨_, rfl⟩
    rw [<- hwq] at hbq |-
    clear hwq pq this z0 z1 z2
    go_wp2
    go_ret
    exact ⟨by rw [HR.out]; rfl, below_tr hbw2 hbq⟩
   have A2 : decide (r < 0) = false := decide_eq_false a2
   by_cases a3 : 7 < r
   ·have HR : Hid (F = false) := by show _ = _; rw [HF.out]; exact fitGB_no (fun g => by have := (g.pg _ (List.getElem_mem hkl)).2.2.1; rw [<- HX.out.2] at this; omega)
    have A3 : decide (7 < r) = true := decide_eq_true a3
    clear a3
    go_wp2
    haveI : Nonempty (Grew W2) := ⟨⟨W2, Below.refl _ _⟩⟩
    have z0 := grew_cell e3
    have z1 := grew_cell q0
    have z2 := grew_cell q1
    refine wp_region_quiet_grew (by kernel_rfl) (by kernel_rfl) ?_
    repeat (go_big_quiet_step (fail))
    refine wpQuiet_nil ?_
    rintro _ ⟨pq, rfl⟩
    have hbq := pq.bel
    obtain ⟨wq, hwq⟩ : ∃ x, x = pq.w := ⟨_, rfl⟩
    rw [<- hwq] at hbq |-
    clear hwq pq this z0 z1 z2
    go_wp2
    go_ret
    exact ⟨by rw [HR.out]; rfl, below_tr hbw2 hbq⟩
   have A3 : decide (7 < r) = false := decide_eq_false a3
   obtain ⟨q, hq⟩ : ∃ q, q = p * 4096 := ⟨_, rfl⟩
   obtain ⟨s, hs⟩ : ∃ q, q = bs + p * 4096 := ⟨_, rfl⟩
   obtain ⟨t, ht⟩ : ∃ q, q = hp bs (p / 4) := ⟨_, rfl⟩
   obtain ⟨hB1, hB2, hB3⟩ := HB.out
   have y0 : IntKind.u64.wrap (p : Int) = (p : Int) := by rw [IntKind.wrap_u64]; omega
   have y1 : IntKind.u64.wrap ((p : Int) * 4096) = (q : Int) := by rw [IntKind.wrap_u64]; omega
   have y2 : IntKind.u64.wrap ((bs : Int) + (q : Int)) = (s : Int) := by rw [IntKind.wrap_u64]; omega
   have y3 : (s : Int) / 16384 = (t : Int) := by rw [ht, hp]; omega
   have y4 : IntKind.u64.wrap (t : Int) = (t : Int) := by rw [IntKind.wrap_u64, ht, hp]; omega
   have HT : Hid (t = hp bs (p / 4) /\ p < 1048576 /\ 0 <= r /\ r <= 7) := ⟨ht, by omega, by omega, by omega⟩
   have HPL : Hid (0 <= placeOf ms t ↔ ∃ y ∈ ms, y.1 = t) := place_ge
   clear hq hs ht a1 a2 a3 hB1 hB2 hB3
   cases k with
   | zero =>
    simp only [Nat.zero_mul, Nat.add_zero] at f0 f1 D0
    go_wp2
    haveI : Nonempty (Grew W2) := ⟨⟨W2, Below.refl _ _⟩⟩
    have z0 := grew_cell e3
    have z1 := grew_cell q0
    have z2 := grew_cell q1
    refine wp_region_quiet_grew (by kernel_rfl) (by kernel_rfl) ?_
    repeat (go_big_quiet_step (fail))
    refine wpQuiet_nil ?_
    rintro _ ⟨pq, rfl⟩
    have hbq := pq.bel
    obtain ⟨wq, hwq⟩ : ∃ x, x = pq.w := ⟨_, rfl⟩
    rw [<- hwq] at hbq |-
    clear hwq pq this z0 z1 z2
    have HK : Hid (0 <= placeOf ms t -> ∀ jj (h : jj < ps.length), jj < 0 + 1 -> ps[jj].1 < 1048576 /\ 0 <= ps[jj].2 /\ ps[jj].2 <= 7 /\ (∃ y ∈ ms, y.1 = hp bs (ps[jj].1 / 4)) /\ (0 < jj -> (ps.getD (jj - 1) (0, 0)).1 < ps[jj].1)) := fun hpl i hi hik => by
     by_cases e : i = 0
     ·subst e
      rw [<- HX.out.1, <- HX.out.2]
      obtain ⟨u1, u2, u3, u4⟩ := HT.out
      exact ⟨u2, u3, u4, by rw [<- u1]; exact HPL.out.1 hpl, fun h => by omega⟩
     ·exact HN.out i hi (by omega)
    have hbq2 := below_tr hbr2 hbq
    have r0 := keep_cell hbq e0
    have r1 := keep_cell hbq e1
    have r2 := keep_cell hbq e2
    have s0 := keep_cell hbq q0
    have HR : Hid (¬ 0 <= placeOf ms t -> F = false) := fun hn => by
     rw [HF.out]
     refine fitGB_no (fun g => hn (HPL.out.2 ?_))
     have := (g.pg _ (List.getElem_mem hkl)).2.2.2
     rw [<- HX.out.1, <- HT.out.1] at this
     exact this
    have K := K27.out t wq hbq2
    by_cases hpl : 0 <= placeOf ms t
    ·have HK2 : Hid (∀ jj (h : jj < ps.length), jj < 0 + 1 -> ps[jj].1 < 1048576 /\ 0 <= ps[jj].2 /\ ps[jj].2 <= 7 /\ (∃ y ∈ ms, y.1 = hp bs (ps[jj].1 / 4)) /\ (0 < jj -> (ps.getD (jj - 1) (0, 0)).1 < ps[jj].1)) := HK.out hpl
     have hn0 : ¬ placeOf ms t < 0 := by omega
     generalize placeOf ms t = pt at K hn0
     clear HR hpl HPL HN HK
     go_wp2_with fail
     refine K.mono ?_
     rintro e w5 ⟨rfl, hb5⟩
     have hbx := below_tr hbq2 hb5
     go_wp2
     go_roundw
     case rel => exact ⟨0 + 1, hkl, by go_num, HK2.out, hbx⟩
     case measure => simp [intOf]; omega
    ·have HR2 : Hid (F = false) := HR.out hpl
     have hn0 : placeOf ms t < 0 := by omega
     generalize placeOf ms t = pt at K hn0
     clear HK hpl HPL HN HR
     go_wp2_with fail
     refine K.mono ?_
     rintro e w5 ⟨rfl, hb5⟩
     have hbx := below_tr hb (below_tr hbq2 hb5)
     go_wp2
     go_ret
     exact ⟨by rw [HR2.out]; rfl, hbx⟩
   | succ j =>
    obtain ⟨b', o', eb, E0, _⟩ := HP.out j (by omega)
    simp only [Option.some.injEq, Addr.mk.injEq, and_true] at eb
    obtain ⟨rfl, rfl⟩ := eb
    have g0 := keep_cell hbr2 E0
    obtain ⟨p0, hp0⟩ : ∃ p, p = ps[j].1 := ⟨_, rfl⟩
    have HX0 : Hid (p0 = ps[j].1 /\ (ps.getD j (0, 0)).1 = p0) := ⟨hp0, by rw [getD_at (by omega), hp0]⟩
    rw [<- hp0] at g0
    have w1' : (j : Int) + 1 - 1 = (j : Int) := by omega
    have w2' : (0 : Int) < (j : Int) + 1 := by omega
    have w3' : (j : Int) < (ps.length : Int) := by omega
    have w4' : j < ps.length := by omega
    clear hp0 E0
    by_cases a4 : (p : Int) <= (p0 : Int)
    ·have HR : Hid (F = false) := by
      show _ = _; rw [HF.out]
      refine fitGB_no (fun g => ?_)
      have := List.pairwise_iff_getElem.1 g.sp j (j + 1) (by omega) hkl (by omega)
      rw [<- HX.out.1, <- HX0.out.1] at this
      omega
     have A4 : decide ((p : Int) <= (p0 : Int)) = true := decide_eq_true a4
     have A5 : p <= p0 := by omega
     go_wp2
     haveI : Nonempty (Grew W2) := ⟨⟨W2, Below.refl _ _⟩⟩
     have z0 := grew_cell e3
     have z1 := grew_cell q0
     have z2 := grew_cell q1
     have z3 := grew_cell g0
     refine wp_region_quiet_grew (by kernel_rfl) (by kernel_rfl) ?_
     repeat (go_big_quiet_step (fail))
     refine wpQuiet_nil ?_
     rintro _ ⟨pq, rfl⟩
     have hbq := pq.bel
     obtain ⟨wq, hwq⟩ : ∃ x, x = pq.w := ⟨_, rfl⟩
     rw [<- hwq] at hbq |-
     clear hwq pq this z0 z1 z2 z3
     go_wp2
     go_ret
     exact ⟨by rw [HR.out]; rfl, below_tr hbw2 hbq⟩
    have A4 : decide ((p : Int) <= (p0 : Int)) = false := decide_eq_false a4
    have A5 : ¬ p <= p0 := by omega
    go_wp2
    haveI : Nonempty (Grew W2) := ⟨⟨W2, Below.refl _ _⟩⟩
    have z0 := grew_cell e3
    have z1 := grew_cell q0
    have z2 := grew_cell q1
    have z3 := grew_cell g0
    refine wp_region_quiet_grew (by kernel_rfl) (by kernel_rfl) ?_
    repeat (go_big_quiet_step (fail))
    refine wpQuiet_nil ?_
    rintro _ ⟨pq, rfl⟩
    have hbq := pq.bel
    obtain ⟨wq, hwq⟩ : ∃ x, x = pq.w := ⟨_, rfl⟩
    rw [<- hwq] at hbq |-
    clear hwq pq this z0 z1 z2 z3
    have HK : Hid (0 <= placeOf ms t -> ∀ jj (h : jj < ps.length), jj < (j + 1) + 1 -> ps[jj].1 < 1048576 /\ 0 <= ps[jj].2 /\ ps[jj].2 <= 7 /\ (∃ y ∈ ms, y.1 = hp bs (ps[jj].1 / 4)) /\ (0 < jj -> (ps.getD (jj - 1) (0, 0)).1 < ps[jj].1)) := fun hpl i hi hik => by
     by_cases e : i = (j + 1)
     ·subst e
      rw [<- HX.out.1, <- HX.out.2]
      obtain ⟨u1, u2, u3, u4⟩ := HT.out
      exact ⟨u2, u3, u4, by rw [<- u1]; exact HPL.out.1 hpl, fun _ => by rw [Nat.add_sub_cancel, HX0.out.2]; omega⟩
     ·exact HN.out i hi (by omega)
    have hbq2 := below_tr hbr2 hbq
    have r0 := keep_cell hbq e0
    have r1 := keep_cell hbq e1
    have r2 := keep_cell hbq e2
    have s0 := keep_cell hbq q0
    have HR : Hid (¬ 0 <= placeOf ms t -> F = false) := fun hn => by
     rw [HF.out]
     refine fitGB_no (fun g => hn (HPL.out.2 ?_))
     have := (g.pg _ (List.getElem_mem hkl)).2.2.2
     rw [<- HX.out.1, <- HT.out.1] at this
     exact this
    have K := K27.out t wq hbq2
    by_cases hpl : 0 <= placeOf ms t
    ·have HK2 : Hid (∀ jj (h : jj < ps.length), jj < (j + 1) + 1 -> ps[jj].1 < 1048576 /\ 0 <= ps[jj].2 /\ ps[jj].2 <= 7 /\ (∃ y ∈ ms, y.1 = hp bs (ps[jj].1 / 4)) /\ (0 < jj -> (ps.getD (jj - 1) (0, 0)).1 < ps[jj].1)) := HK.out hpl
     have hn0 : ¬ placeOf ms t < 0 := by omega
     generalize placeOf ms t = pt at K hn0
     clear HR hpl HPL HN HK
     go_wp2_with fail
     refine K.mono ?_
     rintro e w5 ⟨rfl, hb5⟩
     have hbx := below_tr hbq2 hb5
     go_wp2
     go_roundw
     case rel => exact ⟨(j + 1) + 1, hkl, by go_num, HK2.out, hbx⟩
     case measure => simp [intOf]; omega
    ·have HR2 : Hid (F = false) := HR.out hpl
     have hn0 : placeOf ms t < 0 := by omega
     generalize placeOf ms t = pt at K hn0
     clear HK hpl HPL HN HR
     go_wp2_with fail
     refine K.mono ?_
     rintro e w5 ⟨rfl, hb5⟩
     have hbx := below_tr hb (below_tr hbq2 hb5)
     go_wp2
     go_ret
     exact ⟨by rw [HR2.out]; rfl, hbx⟩
  ·obtain rfl : k = ps.length := by omega
   have HPP : Hid (Srt ps /\ ∀ x ∈ ps, x.1 < 1048576 /\ 0 <= x.2 /\ x.2 <= 7 /\ ∃ y ∈ ms, y.1 = hp bs (x.1 / 4)) := ⟨srt_of (fun i hi h0 => by rw [getD_at hi]; exact (HN.out i hi hi).2.2.2.2 h0), fun x hx => by
    obtain ⟨i, hi, rfl⟩ := List.getElem_of_mem hx
    obtain ⟨u1, u2, u3, u4, _⟩ := HN.out i hi hi
    exact ⟨u1, u2, u3, u4⟩⟩
   obtain ⟨wa, hwa⟩ : ∃ x, x = wr := ⟨_, rfl⟩
   rw [<- hwa] at hbr e0 e1 e2 e3 |-
   clear hwa hk hkl HN
   have hbA := hbr
   clear hbr
   go_wp2
   go_loopw [5] (fun i wr => ∃ k : Nat, k <= ms.length /\ i = .int .i64 k /\ (∀ j (h : j < ms.length), j < k -> inB bs (ms[j].1 * 16384) = true -> ms[j].2 = 3 /\ ps.any (fun x => hp bs (x.1 / 4) == ms[j].1) = true) /\ Below W.heap.size W wr) (fun i _ => ms.length - (intOf i).toNat)
   case atStart => exact ⟨0, Nat.zero_le _, rfl, fun j _ hj => by omega, hbA⟩
   case round =>
    clear e0 e1 e2 e3 hbA
    obtain ⟨k, hk, rfl, hno, hbr⟩ := hrel
    have HN : Hid _ := hno
    clear hno
    have e0 := keep_cell hbr c0
    have e1 := keep_cell hbr c1
    have e2 := keep_cell hbr c2
    have e3 := keep_cell hbr c3
    by_cases hkl : k < ms.length
    ·obtain ⟨b, o, rfl, D0, D1⟩ := HM.out k hkl
     have f0 := keep_cell hbr D0
     have f1 := keep_cell hbr D1
     have hpm := (HFQ.out.2.2.2.2.1 _ (List.getElem_mem hkl)).1
     obtain ⟨p, hpk⟩ : ∃ p, p = ms[k].1 := ⟨_, rfl⟩
     obtain ⟨r, hrk⟩ : ∃ r, r = ms[k].2 := ⟨_, rfl⟩
     have HX : Hid (p = ms[k].1 /\ r = ms[k].2) := ⟨hpk, hrk⟩
     rw [<- hpk] at f0 hpm
     rw [<- hrk] at f1
     obtain ⟨W2, hW2, hb2, _, q0, q1, _, _⟩ := box2 wr (.int .u64 p) (.int .i64 r) 86
     have hbr2 := below_tr hbr hb2
     have e0 := keep_cell hb2 e0
     have e1 := keep_cell hb2 e1
     have e2 := keep_cell hb2 e2
     have e3 := keep_cell hb2 e3
     obtain ⟨q, hq⟩ : ∃ q, q = p * 16384 := ⟨_, rfl⟩
     have y1 : IntKind.u64.wrap ((p : Int) * 16384) = (q : Int) := by rw [IntKind.wrap_u64]; omega
     have KA := K33.out q W2 (by omega)
     have HIN : Hid (inB bs q = inB bs (p * 16384)) := by show _ = _; rw [hq]
     generalize (if inB bs q then (((q - bs) / 4096 : Nat) : Int) else 0) = nn at KA
     clear hpk hrk D0 D1 hpm
     cases hin : inB bs q with
     | false =>
      rw [hin] at KA
      have HK : Hid (∀ jj (h : jj < ms.length), jj < k + 1 -> inB bs (ms[jj].1 * 16384) = true -> ms[jj].2 = 3 /\ ps.any (fun x => hp bs (x.1 / 4) == ms[jj].1) = true) := fun i hi hik hii => by
       by_cases e : i = k
       ·subst e
        rw [<- HX.out.1, <- HIN.out, hin] at hii
        cases hii
       ·exact HN.out i hi (by omega) hii
      clear hin hq HN HIN
      go_wp2_with fail
      refine KA.mono ?_
      rintro e w5 ⟨rfl, hb5⟩
      have hbx := below_tr hbr2 hb5
      go_wp2
      go_roundw
      case rel => exact ⟨k + 1, hkl, by go_num, HK.out, hbx⟩
      case measure => simp [intOf]; omega
     | true =>
      rw [hin] at KA
      by_cases a3 : r = 3
      case neg =>
       have HR : Hid (F = false) := by
        show _ = _; rw [HF.out]
        refine fitGB_no (fun g => a3 ?_)
        have := (g.rm _ (List.getElem_mem hkl) (by rw [<- HX.out.1, <- HIN.out]; exact hin)).1
        rw [<- HX.out.2] at this
        exact this
       have A3 : (r != 3) = true := by simp; exact a3
       clear hin hq HN HIN a3
       go_wp2_with fail
       refine KA.mono ?_
       rintro e w5 ⟨rfl, hb5⟩
       have q1 := keep_cell hb5 q1
       have hbx := below_tr hb (below_tr hbr2 hb5)
       go_wp2
       go_ret
       exact ⟨by rw [HR.out]; rfl, hbx⟩
      subst a3
      have HU : Hid (ps.any (fun x => hp bs (x.1 / 4) == p) = false -> F = false) := fun hn => by
       rw [HF.out]
       refine fitGB_no (fun g => ?_)
       have := (g.rm _ (List.getElem_mem hkl) (by rw [<- HX.out.1, <- HIN.out]; exact hin)).2
       rw [<- HX.out.1, hn] at this
       cases this
      have HK : Hid (ps.any (fun x => hp bs (x.1 / 4) == p) = true -> ∀ jj (h : jj < ms.length), jj < k + 1 -> inB bs (ms[jj].1 * 16384) = true -> ms[jj].2 = 3 /\ ps.any (fun x => hp bs (x.1 / 4) == ms[jj].1) = true) := fun hn i hi hik hii => by
       by_cases e : i = k
       ·subst e
        rw [<- HX.out.1, <- HX.out.2]
        exact ⟨rfl, hn⟩
       ·exact HN.out i hi (by omega) hii
      have KB := fun w' => K34.out HB.out.1 HB.out.2.1 (fun x hx => (HPP.out.2 x hx).1) p w'
      have KB : Hid (∀ w', Below W.heap.size W w' -> Calls Tryz.prog 34 _ w' _) := KB
      cases hus : ps.any (fun x => hp bs (x.1 / 4) == p) with
      | false =>
       rw [hus] at KB
       have HR2 : Hid (F = false) := HU.out hus
       clear hin hq HN HIN hus HU HK
       go_wp2_with fail
       refine KA.mono ?_
       rintro e w5 ⟨rfl, hb5⟩
       have q0 := keep_cell hb5 q0
       have q1 := keep_cell hb5 q1
       have e0 := keep_cell hb5 e0
       have e1 := keep_cell hb5 e1
       have e2 := keep_cell hb5 e2
       have e3 := keep_cell hb5 e3
       have hbx := below_tr hbr2 hb5
       go_wp2_with fail
       refine (KB.out w5 hbx).mono ?_
       rintro e w6 ⟨rfl, hb6⟩
       have hby := below_tr hb (below_tr hbx hb6)
       go_wp2
       go_ret
       exact ⟨by rw [HR2.out]; rfl, hby⟩
      | true =>
       rw [hus] at KB
       have HK2 : Hid (∀ jj (h : jj < ms.length), jj < k + 1 -> inB bs (ms[jj].1 * 16384) = true -> ms[jj].2 = 3 /\ ps.any (fun x => hp bs (x.1 / 4) == ms[jj].1) = true) := HK.out hus
       clear hin hq HN HIN hus HU HK
       go_wp2_with fail
       refine KA.mono ?_
       rintro e w5 ⟨rfl, hb5⟩
       have q0 := keep_cell hb5 q0
       have q1 := keep_cell hb5 q1
       have e0 := keep_cell hb5 e0
       have e1 := keep_cell hb5 e1
       have e2 := keep_cell hb5 e2
       have e3 := keep_cell hb5 e3
       have hbx := below_tr hbr2 hb5
       go_wp2_with fail
       refine (KB.out w5 hbx).mono ?_
       rintro e w6 ⟨rfl, hb6⟩
       have hby := below_tr hbx hb6
       go_wp2
       go_roundw
       case rel => exact ⟨k + 1, hkl, by go_num, HK2.out, hby⟩
       case measure => simp [intOf]; omega
    ·obtain rfl : k = ms.length := by omega
     have HMM : Hid (∀ y ∈ ms, inB bs (y.1 * 16384) = true -> y.2 = 3 /\ ps.any (fun x => hp bs (x.1 / 4) == y.1) = true) := fun y hy hi => by
      obtain ⟨i, hil, rfl⟩ := List.getElem_of_mem hy
      exact HN.out i hil hil hi
     obtain ⟨wa, hwa⟩ : ∃ x, x = wr := ⟨_, rfl⟩
     rw [<- hwa] at hbr e0 e1 e2 e3 |-
     clear hwa hk hkl HN
     have hbA := hbr
     clear hbr
     go_wp2
     go_loopw [9] (fun i wr => ∃ k : Nat, k <= cs.length /\ i = .int .i64 k /\ (∀ j (h : j < cs.length), j < k -> inB bs cs[j].1 = true -> 0 <= protN ps ((cs[j].1 - bs) / 4096)) /\ Below W.heap.size W wr) (fun i _ => cs.length - (intOf i).toNat)
     case atStart => exact ⟨0, Nat.zero_le _, rfl, fun j _ hj => by omega, hbA⟩
     case round =>
      clear e0 e1 e2 e3 hbA
      obtain ⟨k, hk, rfl, hno, hbr⟩ := hrel
      have HN : Hid _ := hno
      clear hno
      have e0 := keep_cell hbr c0
      have e1 := keep_cell hbr c1
      have e2 := keep_cell hbr c2
      have e3 := keep_cell hbr c3
      by_cases hkl : k < cs.length
      ·obtain ⟨b, o, rfl, D0⟩ := HC.out k hkl
       have f0 := keep_cell hbr D0
       have hpc := HRC.out _ (List.getElem_mem hkl)
       obtain ⟨q, hpk⟩ : ∃ p, p = cs[k].1 := ⟨_, rfl⟩
       have HX : Hid (q = cs[k].1) := hpk
       rw [<- hpk] at f0 hpc
       have w3' : (k : Int) < (cs.length : Int) := by omega
       obtain ⟨d, hd⟩ : ∃ d, d = (q - bs) / 4096 := ⟨_, rfl⟩
       have KQ : Hid (∀ p : Grew wr, Calls Tryz.prog 33 #[.agg #[.slice am ms.length pm, .slice (some ⟨b, o, none⟩) cs.length pc, .int .u64 bs, .slice ap ps.length pp], .int .u64 q] p.w fun e w'' => e = .returned (.tuple #[.int .u32 (if inB bs q then (((q - bs) / 4096 : Nat) : Int) else 0), .bool (inB bs q)]) /\ ∃ r : Grew wr, w'' = r.w) := fun p => Calls.grew (K33.out q p.w hpc)
       rw [<- hd] at KQ
       have HD : Hid (d = (cs[k].1 - bs) / 4096) := by show _ = _; rw [hd, HX.out]
       clear hpk D0 hd
       cases hin : inB bs q with
       | false =>
        rw [hin] at KQ
        have HK : Hid (∀ jj (h : jj < cs.length), jj < k + 1 -> inB bs cs[jj].1 = true -> 0 <= protN ps ((cs[jj].1 - bs) / 4096)) := fun i hi hik hii => by
         by_cases e : i = k
         ·subst e
          rw [<- HX.out, hin] at hii
          cases hii
         ·exact HN.out i hi (by omega) hii
        simp only [Bool.false_eq_true, if_false] at KQ
        clear hin HN
        go_wp2
        haveI : Nonempty (Grew wr) := ⟨⟨wr, Below.refl _ _⟩⟩
        have z0 := grew_cell e0
        have z1 := grew_cell e1
        have z2 := grew_cell e2
        have z3 := grew_cell e3
        have z4 := grew_cell f0
        refine wp_region_quiet_grew (by kernel_rfl) (by kernel_rfl) ?_
        repeat (go_big_quiet_step (with_reducible exact KQ.out _))
        refine wpQuiet_nil ?_
        rintro _ ⟨pq, rfl⟩
        have hbq := pq.bel
        obtain ⟨wq, hwq⟩ : ∃ x, x = pq.w := ⟨_, rfl⟩
        rw [<- hwq] at hbq |-
        clear hwq pq this z0 z1 z2 z3 z4
        have hbx := below_tr hbr hbq
        go_wp2
        go_roundw
        case rel => exact ⟨k + 1, hkl, by go_num, HK.out, hbx⟩
        case measure => simp [intOf]; omega
       | true =>
        rw [hin] at KQ
        simp only [if_true] at KQ
        have HU : Hid (¬ 0 <= protN ps d -> F = false) := fun hn => by
         rw [HF.out]
         refine fitGB_no (fun g => hn ?_)
         have := g.rc _ (List.getElem_mem hkl) (by rw [<- HX.out]; exact hin)
         rw [<- HD.out] at this
         exact this
        have HK : Hid (0 <= protN ps d -> ∀ jj (h : jj < cs.length), jj < k + 1 -> inB bs cs[jj].1 = true -> 0 <= protN ps ((cs[jj].1 - bs) / 4096)) := fun hn i hi hik hii => by
         by_cases e : i = k
         ·subst e
          rw [<- HD.out]
          exact hn
         ·exact HN.out i hi (by omega) hii
        have KB : Hid (∀ w', Below W.heap.size W w' -> Calls Tryz.prog 12 #[.agg #[.slice am ms.length pm, .slice (some ⟨b, o, none⟩) cs.length pc, .int .u64 bs, .slice ap ps.length pp], .int .u32 d] w' fun e w'' => e = .returned (.int .i64 (protN ps d)) /\ Below w'.heap.size w' w'') := fun w' h => K15.out d w' h
        by_cases hpn : 0 <= protN ps d
        ·have HK2 : Hid (∀ jj (h : jj < cs.length), jj < k + 1 -> inB bs cs[jj].1 = true -> 0 <= protN ps ((cs[jj].1 - bs) / 4096)) := HK.out hpn
         have hn0 : ¬ protN ps d < 0 := by omega
         generalize protN ps d = pn at KB hn0
         clear hin HN HU HK hpn
         go_wp2
         haveI : Nonempty (Grew wr) := ⟨⟨wr, Below.refl _ _⟩⟩
         have z0 := grew_cell e0
         have z1 := grew_cell e1
         have z2 := grew_cell e2
         have z3 := grew_cell e3
         have z4 := grew_cell f0
         refine wp_region_quiet_grew (by kernel_rfl) (by kernel_rfl) ?_
         repeat (go_big_quiet_step (with_reducible exact KQ.out _))
         refine wpQuiet_nil ?_
         rintro _ ⟨pq, rfl⟩
         have hbq := pq.bel
         obtain ⟨wq, hwq⟩ : ∃ x, x = pq.w := ⟨_, rfl⟩
         rw [<- hwq] at hbq |-
         clear hwq pq this z0 z1 z2 z3 z4
         have hbx := below_tr hbr hbq
         have e0 := keep_cell hbq e0
         have e1 := keep_cell hbq e1
         have e2 := keep_cell hbq e2
         have e3 := keep_cell hbq e3
         go_wp2_with fail
         refine (KB.out wq hbx).mono ?_
         rintro e w6 ⟨rfl, hb6⟩
         have hby := below_tr hbx hb6
         go_wp2
         go_roundw
         case rel => exact ⟨k + 1, hkl, by go_num, HK2.out, hby⟩
         case measure => simp [intOf]; omega
        ·have HR2 : Hid (F = false) := HU.out hpn
         have hn0 : protN ps d < 0 := by omega
         generalize protN ps d = pn at KB hn0
         clear hin HN HU HK hpn
         go_wp2
         haveI : Nonempty (Grew wr) := ⟨⟨wr, Below.refl _ _⟩⟩
         have z0 := grew_cell e0
         have z1 := grew_cell e1
         have z2 := grew_cell e2
         have z3 := grew_cell e3
         have z4 := grew_cell f0
         refine wp_region_quiet_grew (by kernel_rfl) (by kernel_rfl) ?_
         repeat (go_big_quiet_step (with_reducible exact KQ.out _))
         refine wpQuiet_nil ?_
         rintro _ ⟨pq, rfl⟩
         have hbq := pq.bel
         obtain ⟨wq, hwq⟩ : ∃ x, x = pq.w := ⟨_, rfl⟩
         rw [<- hwq] at hbq |-
         clear hwq pq this z0 z1 z2 z3 z4
         have hbx := below_tr hbr hbq
         have e0 := keep_cell hbq e0
         have e1 := keep_cell hbq e1
         have e2 := keep_cell hbq e2
         have e3 := keep_cell hbq e3
         go_wp2_with fail
         refine (KB.out wq hbx).mono ?_
         rintro e w6 ⟨rfl, hb6⟩
         have hby := below_tr hb (below_tr hbx hb6)
         go_wp2
         go_ret
         exact ⟨by rw [HR2.out]; rfl, hby⟩
      ·obtain rfl : k = cs.length := by omega
       have HR : Hid (F = true) := by
        show _ = _
        rw [HF.out]
        refine fitGB_yes ⟨HFQ.out, HB.out.2.1, HB.out.1, HB.out.2.2, HPP.out.1, HPP.out.2, HMM.out, fun c hc hi => ?_⟩
        obtain ⟨i, hil, rfl⟩ := List.getElem_of_mem hc
        exact HN.out i hil hil hi
       have hby := below_tr hb hbr
       clear HN
       go_wp2
       go_ret
       exact ⟨by rw [HR.out]; rfl, hby⟩
end Go.Proofs.YtimfipkbddpdmaaGreatDoor.Gm
