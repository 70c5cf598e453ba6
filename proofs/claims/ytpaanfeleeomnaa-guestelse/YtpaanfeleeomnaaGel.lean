/- What is proved here: the law GuestElse, walked. -/
import Derived.Test.YtpaanfeleeomnaaGelp
import Derived.Test.YtpaanfeleeomnaaRsame
import Derived.Test.YtpaanfeleeomnaaEach
import Derived.Deep.RegionHeld3
import Derived.LoopTactic
namespace Go.Proofs.Ytpaanfeleeomnaa
open Go.RowKit
set_option linter.unusedVariables false
set_option linter.unusedSimpArgs false
set_option maxRecDepth 100000
set_option maxHeartbeats 16000000 in
theorem else_walk (vm vc vp : Value) (ms cs ps : List (Nat × Int)) (bs : Nat) (w : World) (hsl : SlG w vm vc vp ms cs ps) (hrc : ∀ y ∈ cs, y.1 < 18446744073709551616) (hw : Words cs) (hbs : bs < 18446744073709551616) (hpn : ∀ y ∈ ps, y.1 < 4294967296) (first n : Nat) (prot : Int) (kind : Nat) (h1 : first < 4294967296) (h2 : n < 4294967296) (hkd : kind < 256) :
    Calls Try.prog 6 #[.agg #[vm, vc, .int .u64 (bs : Int), vp], .int .u32 (first : Int), .int .u32 (n : Int), .int .i64 prot, .int .u8 (kind : Int)] w fun e w' => e = .returned (.bool true) ∧ Below w.heap.size w w' := by
  obtain ⟨W, hW, hb, hsz, c0, c1, c2, c3, _⟩ := box4 w vm vc (.int .u64 (bs : Int)) vp 29
  obtain ⟨am, pm, rfl, lpm1, lpm2⟩ : ∃ a p, vm = .slice a ms.length p ∧ ms.length ≤ p ∧ p ≤ 9223372036854775807 := by obtain ⟨a, p, h, h1, h2, _⟩ := id hsl.1; exact ⟨_, _, h, h1, h2⟩
  obtain ⟨ac, pc, rfl, lpc1, lpc2⟩ : ∃ a p, vc = .slice a cs.length p ∧ cs.length ≤ p ∧ p ≤ 9223372036854775807 := by obtain ⟨a, p, h, h1, h2, _⟩ := id hsl.2.1; exact ⟨_, _, h, h1, h2⟩
  obtain ⟨ap, pp, rfl, lpp1, lpp2⟩ : ∃ a p, vp = .slice a ps.length p ∧ ps.length ≤ p ∧ p ≤ 9223372036854775807 := by obtain ⟨a, p, h, h1, h2, _⟩ := id hsl.2.2; exact ⟨_, _, h, h1, h2⟩
  have K8 := gfew8 am ac ap ms.length pm cs.length pc ps.length pp bs W (by omega) (by omega) (by omega)
  have K11 : Hid (∀ w', Below W.heap.size W w' → Calls Try.prog 11 #[.agg #[.slice am ms.length pm, .slice ac cs.length pc, .int .u64 (bs : Int), .slice ap ps.length pp]] w' fun e w'' => e = .returned (.bool (fitGB ms cs ps bs)) ∧ Below w'.heap.size w' w'') := fun w' hb' =>
    rfit11 _ _ _ ms cs ps bs w' (hsl.keep (below_tr hb hb')) hrc hbs
  have HSL : Hid (SlG W (.slice am ms.length pm) (.slice ac cs.length pc) (.slice ap ps.length pp) ms cs ps) := hsl.keep hb
  have HSL0 : Hid (SlG w (.slice am ms.length pm) (.slice ac cs.length pc) (.slice ap ps.length pp) ms cs ps) := hsl
  have HRC : Hid (∀ y ∈ cs, y.1 < 18446744073709551616) := hrc
  have HPN : Hid (∀ y ∈ ps, y.1 < 4294967296) := hpn
  have HWO : Hid (Words cs) := hw
  clear lpm1 lpm2 lpc1 lpc2 lpp1 hsl hrc hw hpn
  by_cases hfew : ms.length ≤ 70 ∧ cs.length ≤ 100 ∧ ps.length ≤ 60
  case neg =>
    rw [decide_eq_false hfew] at K8
    clear hfew
    go_enter Try.func6, Try.ntmps6
    go_wp2_with fail
    refine K8.mono ?_
    rintro e w1 ⟨rfl, hb1⟩
    go_wp2_with fail
    refine (awake9 w1).mono ?_
    rintro e wz ⟨rfl, hbz⟩
    go_wp2
    go_ret
    exact ⟨rfl, (by (repeat (first | with_reducible assumption | with_reducible exact Below.refl _ _ | with_reducible refine Below.drew ?_ | with_reducible refine below_alloc ?_ _ | (with_reducible refine below_set ?_ ?_ _; rotate_left; focus (first | (simp; done) | (simp; omega))) | with_reducible refine below_tr ?_ (by with_reducible assumption))))⟩
  rw [decide_eq_true hfew] at K8
  cases hfit : fitGB ms cs ps bs with
  | false =>
    rw [hfit] at K11
    clear hfew hfit
    go_enter Try.func6, Try.ntmps6
    go_wp2_with fail
    refine K8.mono ?_
    rintro e w1 ⟨rfl, hb1⟩
    have e0 := keep_cell hb1 c0
    have e1 := keep_cell hb1 c1
    have e2 := keep_cell hb1 c2
    have e3 := keep_cell hb1 c3
    clear K8
    go_wp2_with fail
    refine (K11.out w1 hb1).mono ?_
    rintro e w2 ⟨rfl, hb2⟩
    go_wp2_with fail
    refine (awake9 w2).mono ?_
    rintro e wz ⟨rfl, hbz⟩
    go_wp2
    go_ret
    exact ⟨rfl, (by (repeat (first | with_reducible assumption | with_reducible exact Below.refl _ _ | with_reducible refine Below.drew ?_ | with_reducible refine below_alloc ?_ _ | (with_reducible refine below_set ?_ ?_ _; rotate_left; focus (first | (simp; done) | (simp; omega))) | with_reducible refine below_tr ?_ (by with_reducible assumption))))⟩
  | true =>
  rw [hfit] at K11
  have HQ : Hid (FitG ms cs ps bs) := of_fitGB hfit
  have HFE : Hid (ms.length ≤ 70 ∧ cs.length ≤ 100 ∧ ps.length ≤ 60) := hfew
  have lps : ps.length ≤ 60 := hfew.2.2
  clear hfit hfew
  go_enter Try.func6, Try.ntmps6
  go_wp2_with fail
  refine K8.mono ?_
  rintro e w1 ⟨rfl, hb1⟩
  have e0 := keep_cell hb1 c0
  have e1 := keep_cell hb1 c1
  have e2 := keep_cell hb1 c2
  have e3 := keep_cell hb1 c3
  clear K8
  go_wp2_with fail
  refine (K11.out w1 hb1).mono ?_
  rintro e w2 ⟨rfl, hb2⟩
  clear K11 hW hsz c0 c1 c2 c3
  have e0 := keep_cell hb2 e0
  have e1 := keep_cell hb2 e1
  have e2 := keep_cell hb2 e2
  have e3 := keep_cell hb2 e3
  have HSL : Hid (SlG w2 (.slice am ms.length pm) (.slice ac cs.length pc) (.slice ap ps.length pp) ms cs ps) := (HSL.out.keep hb1).keep hb2
  have hb := below_tr (below_tr hb hb1) hb2
  clear hb1 hb2
  have c9 := e0
  obtain ⟨W5, hW5, hb5, hsz5, x0, x1, x2, x3, f0, f1, f2, f3⟩ := box4 w2 (.slice none 0 0) (.slice none 0 0) (.int .u64 0) (.slice none 0 0) 29
  have e0 := keep_cell hb5 e0
  have e1 := keep_cell hb5 e1
  have e2 := keep_cell hb5 e2
  have e3 := keep_cell hb5 e3
  have HS5 : Hid (SlG W5 (.slice am ms.length pm) (.slice ac cs.length pc) (.slice ap ps.length pp) ms cs ps) := HSL.out.keep hb5
  have hn5' : w.heap.size + 1 ≤ w2.heap.size := World.block_lt_of_cell? w2 _ (show w2.cell? ⟨w.heap.size, 0, none⟩ = _ from c9)
  have hn5 : w.heap.size ≤ w2.heap.size := by omega
  have hlt5 : w2.heap.size < W5.heap.size := by omega
  have hbw := below_tr hb hb5
  clear HSL hb hb5
  rcases (show kind % 3 = 0 ∨ kind % 3 = 1 ∨ kind % 3 = 2 by omega) with hk | hk | hk
  · have z1 : (kind : Int) % 3 = 0 := by omega
    have z2 : (kind : Int).tmod 3 = 0 := by rw [Int.tmod_eq_emod_of_nonneg (by omega)]; omega
    clear hk
    go_wp2_with fail
    refine (else18 _ _ _ ms cs ps bs first n prot W5 HS5.out HRC.out HWO.out h1 h2 HQ.out).mono ?_
    rintro e w6 ⟨am', nm', pm', ac', nc', pc', ap', np', pp', code, ms', cs', ps', rfl, ho6, hb6, hel⟩
    have HEL : Hid _ := hel
    clear hel
    have f0 := f0.keep hb6
    have q0 := f0.frozen
    have f1 := f1.keep hb6
    have q1 := f1.frozen
    have f2 := f2.keep hb6
    have q2 := f2.frozen
    have f3 := f3.keep hb6
    have q3 := f3.frozen
    have e0 := keep_cell hb6 e0
    have e1 := keep_cell hb6 e1
    have e2 := keep_cell hb6 e2
    have e3 := keep_cell hb6 e3
    have x0 := keep_cell hb6 x0
    have x1 := keep_cell hb6 x1
    have x2 := keep_cell hb6 x2
    have x3 := keep_cell hb6 x3
    have hbw := below_tr hbw hb6
    have hs6 := HS5.out.keep hb6
    obtain ⟨W9, hW9, hK9, ho9, ⟨y0, y1, y2, y3⟩, _⟩ := set4 w6 w2.heap.size _ (.slice am' nm' pm') (.slice ac' nc' pc') (.int .u64 (bs : Int)) (.slice ap' np' pp') _ _ _ ho6 hlt5 f0 f1 f2 f3
    have hbw := hK9 _ _ hn5 hbw
    have hfar : Below (w.heap.size + 1) w6 W9 := hK9 _ _ hn5' (Below.refl _ _)
    have e0 := (hfar.cell (p := ⟨w.heap.size, 0, none⟩) (by simp)).trans e0
    have e1 := (hfar.cell (p := ⟨w.heap.size, 1, none⟩) (by simp)).trans e1
    have e2 := (hfar.cell (p := ⟨w.heap.size, 2, none⟩) (by simp)).trans e2
    have e3 := (hfar.cell (p := ⟨w.heap.size, 3, none⟩) (by simp)).trans e3
    have hsw : Hid (SlG W9 (.slice am ms.length pm) (.slice ac cs.length pc) (.slice ap ps.length pp) ms cs ps) := HSL0.out.keep hbw
    have KG : Hid (∀ w', Below W9.heap.size W9 w' → Calls Try.prog 26 #[.agg #[.slice am ms.length pm, .slice ac cs.length pc, .int .u64 (bs : Int), .slice ap ps.length pp]] w' fun e w'' => ∃ am nm pm ac nc pc, e = .returned (.agg #[.slice am nm pm, .slice ac nc pc]) ∧ OwnH w'.heap.size w'' (.slice am nm pm) (.slice ac nc pc) (by_ (farP bs) ms) (by_ (farC bs) cs) ∧ Below w'.heap.size w' w'') := fun w' hb' =>
      far26 _ _ _ ms cs ps bs w' (hsw.out.keep hb') HQ.out.fq.1 HQ.out.fq.2.1 (fun x hx => (HQ.out.fq.2.2.2.2.1 x hx).1) HRC.out hbs
    have KU : Hid (∀ w', Below W9.heap.size W9 w' → Calls Try.prog 26 #[.agg #[.slice am' nm' pm', .slice ac' nc' pc', .int .u64 (bs : Int), .slice ap' np' pp']] w' fun e w'' => ∃ am nm pm ac nc pc, e = .returned (.agg #[.slice am nm pm, .slice ac nc pc]) ∧ OwnH w'.heap.size w'' (.slice am nm pm) (.slice ac nc pc) (by_ (farP bs) ms) (by_ (farC bs) cs) ∧ Below w'.heap.size w' w'') := fun w' hb' => by
      have k := far26 _ _ _ ms' cs' ps' bs w' (ho9.sl.keep hb') HEL.out.1 HEL.out.2.1 HEL.out.2.2.1 HEL.out.2.2.2.1 hbs
      rw [HEL.out.2.2.2.2.1, HEL.out.2.2.2.2.2] at k
      exact k
    have KS : Hid (∀ (B1 B2 : Nat) (a1 a2 : Option Addr) (n1 n2 p1 p2 : Nat) (a3 a4 : Option Addr) (n3 n4 p3 p4 : Nat) (w' : World), OwnH B1 w' (.slice a1 n1 p1) (.slice a2 n2 p2) (by_ (farP bs) ms) (by_ (farC bs) cs) → OwnH B2 w' (.slice a3 n3 p3) (.slice a4 n4 p4) (by_ (farP bs) ms) (by_ (farC bs) cs) → Calls Try.prog 25 #[.agg #[.slice a1 n1 p1, .slice a2 n2 p2], .agg #[.slice a3 n3 p3, .slice a4 n4 p4]] w' fun e w'' => e = .returned (.bool true) ∧ Below w'.heap.size w' w'') := fun B1 B2 a1 a2 n1 n2 p1 p2 a3 a4 n3 n4 p3 p4 w' h1 h2 => by
      have k := rsame12 _ _ _ _ _ _ _ _ w' h1.m h1.c h2.m h2.c
      rw [decide_eq_true ⟨rfl, rfl⟩] at k
      exact k
    clear ho6 ho9 hs6 hfar hb6 hK9 f0 f1 f2 f3 HS5 HSL0 hsw
    go_wp2
    refine wp_region_slots (R := Ext) [⟨50, fun v _ => v = .agg #[.slice am ms.length pm, .slice ac cs.length pc, .int .u64 (bs : Int), .slice ap ps.length pp], fun _ _ _ _ h => h⟩, ⟨51, fun v w => ∃ a1 n1 p1 a2 n2 p2 B, v = .agg #[.slice a1 n1 p1, .slice a2 n2 p2] ∧ OwnH B w (.slice a1 n1 p1) (.slice a2 n2 p2) (by_ (farP bs) ms) (by_ (farC bs) cs), fun v w w' hb ⟨a1, n1, p1, a2, n2, p2, B, e, h⟩ => ⟨a1, n1, p1, a2, n2, p2, B, e, h.keep hb⟩⟩, ⟨52, fun v _ => v = .agg #[.slice am' nm' pm', .slice ac' nc' pc', .int .u64 (bs : Int), .slice ap' np' pp'], fun _ _ _ _ h => h⟩, ⟨53, fun v w => ∃ a1 n1 p1 a2 n2 p2 B, v = .agg #[.slice a1 n1 p1, .slice a2 n2 p2] ∧ OwnH B w (.slice a1 n1 p1) (.slice a2 n2 p2) (by_ (farP bs) ms) (by_ (farC bs) cs), fun v w w' hb ⟨a1, n1, p1, a2, n2, p2, B, e, h⟩ => ⟨a1, n1, p1, a2, n2, p2, B, e, h.keep hb⟩⟩, ⟨54, fun v _ => v = .bool true, fun _ _ _ _ h => h⟩, ⟨55, fun v _ => v = .bool true, fun _ _ _ _ h => h⟩, ⟨56, fun v _ => v = .pointer (some ⟨w2.heap.size, 2, none⟩), fun _ _ _ _ h => h⟩, ⟨57, fun v _ => v = .int .u64 (bs : Int), fun _ _ _ _ h => h⟩, ⟨58, fun v _ => v = .pointer (some ⟨w.heap.size, 2, none⟩), fun _ _ _ _ h => h⟩, ⟨59, fun v _ => v = .int .u64 (bs : Int), fun _ _ _ _ h => h⟩, ⟨60, fun v _ => v = .bool true, fun _ _ _ _ h => h⟩, ⟨61, fun v _ => v = .bool true, fun _ _ _ _ h => h⟩, ⟨62, fun v _ => v = .bool true, fun _ _ _ _ h => h⟩, ⟨63, fun v _ => v = .bool true, fun _ _ _ _ h => h⟩, ⟨64, fun v _ => v = .bool true, fun _ _ _ _ h => h⟩, ⟨10, fun v _ => v = .bool true, fun _ _ _ _ h => h⟩] _ (by kernel_rfl) rfl (by kernel_rfl) (Below.drew (Below.refl _ _)) (fun _ _ _ h1 h2 => below_tr h1 h2) (fun QQ => ⟨?_, ?_, ?_, ?_, ?_, ?_, ?_, ?_, ?_, ?_, ?_, ?_, ?_, ?_, ?_, ?_, trivial⟩) (fun f wy hR hf => ?_)
    · intro A wx hR hout hdep K hK
      have h5 : A.tmps[5]?.getD undef = .pointer (some ⟨w.heap.size, 0, none⟩) := hout 5 (by kernel_rfl)
      refine if_yes (by kernel_rfl) ?_
      have e0 := keep_cell hR e0
      have e1 := keep_cell hR e1
      have e2 := keep_cell hR e2
      have e3 := keep_cell hR e3
      have y0 := keep_cell hR y0
      have y1 := keep_cell hR y1
      have y2 := keep_cell hR y2
      have y3 := keep_cell hR y3
      simp [go_sem, h5, e0, e1, e2, e3, y0, y1, y2, y3]
      exact hK.out _ _ (Below.refl _ _) rfl
    · intro A wx hR hout hdep K hK
      have h50 : A.tmps[50]?.getD undef = .agg #[.slice am ms.length pm, .slice ac cs.length pc, .int .u64 (bs : Int), .slice ap ps.length pp] := hdep 50 (by kernel_rfl)
      refine if_yes (by kernel_rfl) ?_
      simp [go_sem, h50]
      refine (KG.out _ hR).mono ?_
      rintro e wG ⟨g1, g2, g3, g4, g5, g6, rfl, hoG, hbG⟩
      exact hK.out _ _ hbG ⟨g1, g2, g3, g4, g5, g6, _, rfl, hoG⟩
    · intro A wx hR hout hdep K hK
      have h11 : A.tmps[11]?.getD undef = .pointer (some ⟨w2.heap.size, 0, none⟩) := hout 11 (by kernel_rfl)
      refine if_yes (by kernel_rfl) ?_
      have e0 := keep_cell hR e0
      have e1 := keep_cell hR e1
      have e2 := keep_cell hR e2
      have e3 := keep_cell hR e3
      have y0 := keep_cell hR y0
      have y1 := keep_cell hR y1
      have y2 := keep_cell hR y2
      have y3 := keep_cell hR y3
      simp [go_sem, h11, e0, e1, e2, e3, y0, y1, y2, y3]
      exact hK.out _ _ (Below.refl _ _) rfl
    · intro A wx hR hout hdep K hK
      have h52 : A.tmps[52]?.getD undef = .agg #[.slice am' nm' pm', .slice ac' nc' pc', .int .u64 (bs : Int), .slice ap' np' pp'] := hdep 52 (by kernel_rfl)
      refine if_yes (by kernel_rfl) ?_
      simp [go_sem, h52]
      refine (KU.out _ hR).mono ?_
      rintro e wG ⟨g1, g2, g3, g4, g5, g6, rfl, hoG, hbG⟩
      exact hK.out _ _ hbG ⟨g1, g2, g3, g4, g5, g6, _, rfl, hoG⟩
    · intro A wx hR hout hdep K hK
      have h51 := hdep 51 (by kernel_rfl)
      have h53 := hdep 53 (by kernel_rfl)
      refine if_yes (by kernel_rfl) ?_
      obtain ⟨a1, n1, p1, a2, n2, p2, B1, e1', o1⟩ := h51
      obtain ⟨a3, n3, p3, a4, n4, p4, B2, e2', o2⟩ := h53
      simp [go_sem, e1', e2']
      refine (KS.out _ _ _ _ _ _ _ _ _ _ _ _ _ _ _ o1 o2).mono ?_
      rintro e wG ⟨rfl, hbG⟩
      exact hK.out _ _ hbG rfl
    · intro A wx hR hout hdep K hK
      have h54 : A.tmps[54]?.getD undef = .bool true := hdep 54 (by kernel_rfl)
      refine if_yes (by kernel_rfl) ?_
      simp [go_sem, h54]
      exact hK.out _ _ (Below.refl _ _) rfl
    · intro A wx hR hout hdep K hK
      have h11 : A.tmps[11]?.getD undef = .pointer (some ⟨w2.heap.size, 0, none⟩) := hout 11 (by kernel_rfl)
      have h55 : A.tmps[55]?.getD undef = .bool true := hdep 55 (by kernel_rfl)
      refine if_yes ((wanted_is (j := 5) (b := true) (by kernel_rfl) (by kernel_rfl) h55).trans rfl) ?_
      simp [go_sem, h11]
      exact hK.out _ _ (Below.refl _ _) rfl
    · intro A wx hR hout hdep K hK
      have h56 : A.tmps[56]?.getD undef = .pointer (some ⟨w2.heap.size, 2, none⟩) := hdep 56 (by kernel_rfl)
      have h55 : A.tmps[55]?.getD undef = .bool true := hdep 55 (by kernel_rfl)
      refine if_yes ((wanted_is (j := 5) (b := true) (by kernel_rfl) (by kernel_rfl) h55).trans rfl) ?_
      have e0 := keep_cell hR e0
      have e1 := keep_cell hR e1
      have e2 := keep_cell hR e2
      have e3 := keep_cell hR e3
      have y0 := keep_cell hR y0
      have y1 := keep_cell hR y1
      have y2 := keep_cell hR y2
      have y3 := keep_cell hR y3
      simp [go_sem, h56, e0, e1, e2, e3, y0, y1, y2, y3]
      exact hK.out _ _ (Below.refl _ _) rfl
    · intro A wx hR hout hdep K hK
      have h5 : A.tmps[5]?.getD undef = .pointer (some ⟨w.heap.size, 0, none⟩) := hout 5 (by kernel_rfl)
      have h55 : A.tmps[55]?.getD undef = .bool true := hdep 55 (by kernel_rfl)
      refine if_yes ((wanted_is (j := 5) (b := true) (by kernel_rfl) (by kernel_rfl) h55).trans rfl) ?_
      simp [go_sem, h5]
      exact hK.out _ _ (Below.refl _ _) rfl
    · intro A wx hR hout hdep K hK
      have h58 : A.tmps[58]?.getD undef = .pointer (some ⟨w.heap.size, 2, none⟩) := hdep 58 (by kernel_rfl)
      have h55 : A.tmps[55]?.getD undef = .bool true := hdep 55 (by kernel_rfl)
      refine if_yes ((wanted_is (j := 5) (b := true) (by kernel_rfl) (by kernel_rfl) h55).trans rfl) ?_
      have e0 := keep_cell hR e0
      have e1 := keep_cell hR e1
      have e2 := keep_cell hR e2
      have e3 := keep_cell hR e3
      have y0 := keep_cell hR y0
      have y1 := keep_cell hR y1
      have y2 := keep_cell hR y2
      have y3 := keep_cell hR y3
      simp [go_sem, h58, e0, e1, e2, e3, y0, y1, y2, y3]
      exact hK.out _ _ (Below.refl _ _) rfl
    · intro A wx hR hout hdep K hK
      have h57 : A.tmps[57]?.getD undef = .int .u64 (bs : Int) := hdep 57 (by kernel_rfl)
      have h59 : A.tmps[59]?.getD undef = .int .u64 (bs : Int) := hdep 59 (by kernel_rfl)
      have h55 : A.tmps[55]?.getD undef = .bool true := hdep 55 (by kernel_rfl)
      refine if_yes ((wanted_is (j := 5) (b := true) (by kernel_rfl) (by kernel_rfl) h55).trans rfl) ?_
      simp [go_sem, h57, h59]
      exact hK.out _ _ (Below.refl _ _) rfl
    · intro A wx hR hout hdep K hK
      have h55 : A.tmps[55]?.getD undef = .bool true := hdep 55 (by kernel_rfl)
      have h60 : A.tmps[60]?.getD undef = .bool true := hdep 60 (by kernel_rfl)
      refine if_yes (by kernel_rfl) ?_
      simp [go_sem, h55, h60]
      exact hK.out _ _ (Below.refl _ _) rfl
    · intro A wx hR hout hdep K hK
      have h61 : A.tmps[61]?.getD undef = .bool true := hdep 61 (by kernel_rfl)
      refine if_yes (by kernel_rfl) ?_
      simp [go_sem, h61]
      exact hK.out _ _ (Below.refl _ _) rfl
    · intro A wx hR hout hdep K hK
      have h62 : A.tmps[62]?.getD undef = .bool true := hdep 62 (by kernel_rfl)
      refine if_yes ((wanted_is (j := 12) (b := true) (by kernel_rfl) (by kernel_rfl) h62).trans rfl) ?_
      simp [go_sem, ]
      refine (awake9 _).mono ?_
      rintro e wG ⟨rfl, hbG⟩
      exact hK.out _ _ hbG rfl
    · intro A wx hR hout hdep K hK
      have h62 : A.tmps[62]?.getD undef = .bool true := hdep 62 (by kernel_rfl)
      have h63 : A.tmps[63]?.getD undef = .bool true := hdep 63 (by kernel_rfl)
      refine if_yes (by kernel_rfl) ?_
      simp [go_sem, h62, h63]
      exact hK.out _ _ (Below.refl _ _) rfl
    · intro A wx hR hout hdep K hK
      have h64 : A.tmps[64]?.getD undef = .bool true := hdep 64 (by kernel_rfl)
      refine if_yes (by kernel_rfl) ?_
      simp [go_sem, h64]
      exact hK.out _ _ (Below.refl _ _) rfl
    simp only [putSl, Act.put, List.setIfInBounds_toArray, List.set_cons_zero, List.set_cons_succ]
    have hz : f 10 = .bool true := hf 10 (by kernel_rfl)
    rw [hz]
    go_wp2
    go_ret
    exact ⟨rfl, below_tr hbw hR⟩
  · have z1 : (kind : Int) % 3 = 1 := by omega
    have z2 : (kind : Int).tmod 3 = 1 := by rw [Int.tmod_eq_emod_of_nonneg (by omega)]; omega
    clear hk
    go_wp2_with fail
    refine (else20 _ _ _ ms cs ps bs first n prot W5 HS5.out HRC.out HWO.out h1 h2 HQ.out).mono ?_
    rintro e w6 ⟨am', nm', pm', ac', nc', pc', ap', np', pp', code, ms', cs', ps', rfl, ho6, hb6, hel⟩
    have HEL : Hid _ := hel
    clear hel
    have f0 := f0.keep hb6
    have q0 := f0.frozen
    have f1 := f1.keep hb6
    have q1 := f1.frozen
    have f2 := f2.keep hb6
    have q2 := f2.frozen
    have f3 := f3.keep hb6
    have q3 := f3.frozen
    have e0 := keep_cell hb6 e0
    have e1 := keep_cell hb6 e1
    have e2 := keep_cell hb6 e2
    have e3 := keep_cell hb6 e3
    have x0 := keep_cell hb6 x0
    have x1 := keep_cell hb6 x1
    have x2 := keep_cell hb6 x2
    have x3 := keep_cell hb6 x3
    have hbw := below_tr hbw hb6
    have hs6 := HS5.out.keep hb6
    obtain ⟨W9, hW9, hK9, ho9, ⟨y0, y1, y2, y3⟩, _⟩ := set4 w6 w2.heap.size _ (.slice am' nm' pm') (.slice ac' nc' pc') (.int .u64 (bs : Int)) (.slice ap' np' pp') _ _ _ ho6 hlt5 f0 f1 f2 f3
    have hbw := hK9 _ _ hn5 hbw
    have hfar : Below (w.heap.size + 1) w6 W9 := hK9 _ _ hn5' (Below.refl _ _)
    have e0 := (hfar.cell (p := ⟨w.heap.size, 0, none⟩) (by simp)).trans e0
    have e1 := (hfar.cell (p := ⟨w.heap.size, 1, none⟩) (by simp)).trans e1
    have e2 := (hfar.cell (p := ⟨w.heap.size, 2, none⟩) (by simp)).trans e2
    have e3 := (hfar.cell (p := ⟨w.heap.size, 3, none⟩) (by simp)).trans e3
    have hsw : Hid (SlG W9 (.slice am ms.length pm) (.slice ac cs.length pc) (.slice ap ps.length pp) ms cs ps) := HSL0.out.keep hbw
    have KG : Hid (∀ w', Below W9.heap.size W9 w' → Calls Try.prog 26 #[.agg #[.slice am ms.length pm, .slice ac cs.length pc, .int .u64 (bs : Int), .slice ap ps.length pp]] w' fun e w'' => ∃ am nm pm ac nc pc, e = .returned (.agg #[.slice am nm pm, .slice ac nc pc]) ∧ OwnH w'.heap.size w'' (.slice am nm pm) (.slice ac nc pc) (by_ (farP bs) ms) (by_ (farC bs) cs) ∧ Below w'.heap.size w' w'') := fun w' hb' =>
      far26 _ _ _ ms cs ps bs w' (hsw.out.keep hb') HQ.out.fq.1 HQ.out.fq.2.1 (fun x hx => (HQ.out.fq.2.2.2.2.1 x hx).1) HRC.out hbs
    have KU : Hid (∀ w', Below W9.heap.size W9 w' → Calls Try.prog 26 #[.agg #[.slice am' nm' pm', .slice ac' nc' pc', .int .u64 (bs : Int), .slice ap' np' pp']] w' fun e w'' => ∃ am nm pm ac nc pc, e = .returned (.agg #[.slice am nm pm, .slice ac nc pc]) ∧ OwnH w'.heap.size w'' (.slice am nm pm) (.slice ac nc pc) (by_ (farP bs) ms) (by_ (farC bs) cs) ∧ Below w'.heap.size w' w'') := fun w' hb' => by
      have k := far26 _ _ _ ms' cs' ps' bs w' (ho9.sl.keep hb') HEL.out.1 HEL.out.2.1 HEL.out.2.2.1 HEL.out.2.2.2.1 hbs
      rw [HEL.out.2.2.2.2.1, HEL.out.2.2.2.2.2] at k
      exact k
    have KS : Hid (∀ (B1 B2 : Nat) (a1 a2 : Option Addr) (n1 n2 p1 p2 : Nat) (a3 a4 : Option Addr) (n3 n4 p3 p4 : Nat) (w' : World), OwnH B1 w' (.slice a1 n1 p1) (.slice a2 n2 p2) (by_ (farP bs) ms) (by_ (farC bs) cs) → OwnH B2 w' (.slice a3 n3 p3) (.slice a4 n4 p4) (by_ (farP bs) ms) (by_ (farC bs) cs) → Calls Try.prog 25 #[.agg #[.slice a1 n1 p1, .slice a2 n2 p2], .agg #[.slice a3 n3 p3, .slice a4 n4 p4]] w' fun e w'' => e = .returned (.bool true) ∧ Below w'.heap.size w' w'') := fun B1 B2 a1 a2 n1 n2 p1 p2 a3 a4 n3 n4 p3 p4 w' h1 h2 => by
      have k := rsame12 _ _ _ _ _ _ _ _ w' h1.m h1.c h2.m h2.c
      rw [decide_eq_true ⟨rfl, rfl⟩] at k
      exact k
    clear ho6 ho9 hs6 hfar hb6 hK9 f0 f1 f2 f3 HS5 HSL0 hsw
    go_wp2
    refine wp_region_slots (R := Ext) [⟨50, fun v _ => v = .agg #[.slice am ms.length pm, .slice ac cs.length pc, .int .u64 (bs : Int), .slice ap ps.length pp], fun _ _ _ _ h => h⟩, ⟨51, fun v w => ∃ a1 n1 p1 a2 n2 p2 B, v = .agg #[.slice a1 n1 p1, .slice a2 n2 p2] ∧ OwnH B w (.slice a1 n1 p1) (.slice a2 n2 p2) (by_ (farP bs) ms) (by_ (farC bs) cs), fun v w w' hb ⟨a1, n1, p1, a2, n2, p2, B, e, h⟩ => ⟨a1, n1, p1, a2, n2, p2, B, e, h.keep hb⟩⟩, ⟨52, fun v _ => v = .agg #[.slice am' nm' pm', .slice ac' nc' pc', .int .u64 (bs : Int), .slice ap' np' pp'], fun _ _ _ _ h => h⟩, ⟨53, fun v w => ∃ a1 n1 p1 a2 n2 p2 B, v = .agg #[.slice a1 n1 p1, .slice a2 n2 p2] ∧ OwnH B w (.slice a1 n1 p1) (.slice a2 n2 p2) (by_ (farP bs) ms) (by_ (farC bs) cs), fun v w w' hb ⟨a1, n1, p1, a2, n2, p2, B, e, h⟩ => ⟨a1, n1, p1, a2, n2, p2, B, e, h.keep hb⟩⟩, ⟨54, fun v _ => v = .bool true, fun _ _ _ _ h => h⟩, ⟨55, fun v _ => v = .bool true, fun _ _ _ _ h => h⟩, ⟨56, fun v _ => v = .pointer (some ⟨w2.heap.size, 2, none⟩), fun _ _ _ _ h => h⟩, ⟨57, fun v _ => v = .int .u64 (bs : Int), fun _ _ _ _ h => h⟩, ⟨58, fun v _ => v = .pointer (some ⟨w.heap.size, 2, none⟩), fun _ _ _ _ h => h⟩, ⟨59, fun v _ => v = .int .u64 (bs : Int), fun _ _ _ _ h => h⟩, ⟨60, fun v _ => v = .bool true, fun _ _ _ _ h => h⟩, ⟨61, fun v _ => v = .bool true, fun _ _ _ _ h => h⟩, ⟨62, fun v _ => v = .bool true, fun _ _ _ _ h => h⟩, ⟨63, fun v _ => v = .bool true, fun _ _ _ _ h => h⟩, ⟨64, fun v _ => v = .bool true, fun _ _ _ _ h => h⟩, ⟨10, fun v _ => v = .bool true, fun _ _ _ _ h => h⟩] _ (by kernel_rfl) rfl (by kernel_rfl) (Below.drew (Below.refl _ _)) (fun _ _ _ h1 h2 => below_tr h1 h2) (fun QQ => ⟨?_, ?_, ?_, ?_, ?_, ?_, ?_, ?_, ?_, ?_, ?_, ?_, ?_, ?_, ?_, ?_, trivial⟩) (fun f wy hR hf => ?_)
    · intro A wx hR hout hdep K hK
      have h5 : A.tmps[5]?.getD undef = .pointer (some ⟨w.heap.size, 0, none⟩) := hout 5 (by kernel_rfl)
      refine if_yes (by kernel_rfl) ?_
      have e0 := keep_cell hR e0
      have e1 := keep_cell hR e1
      have e2 := keep_cell hR e2
      have e3 := keep_cell hR e3
      have y0 := keep_cell hR y0
      have y1 := keep_cell hR y1
      have y2 := keep_cell hR y2
      have y3 := keep_cell hR y3
      simp [go_sem, h5, e0, e1, e2, e3, y0, y1, y2, y3]
      exact hK.out _ _ (Below.refl _ _) rfl
    · intro A wx hR hout hdep K hK
      have h50 : A.tmps[50]?.getD undef = .agg #[.slice am ms.length pm, .slice ac cs.length pc, .int .u64 (bs : Int), .slice ap ps.length pp] := hdep 50 (by kernel_rfl)
      refine if_yes (by kernel_rfl) ?_
      simp [go_sem, h50]
      refine (KG.out _ hR).mono ?_
      rintro e wG ⟨g1, g2, g3, g4, g5, g6, rfl, hoG, hbG⟩
      exact hK.out _ _ hbG ⟨g1, g2, g3, g4, g5, g6, _, rfl, hoG⟩
    · intro A wx hR hout hdep K hK
      have h11 : A.tmps[11]?.getD undef = .pointer (some ⟨w2.heap.size, 0, none⟩) := hout 11 (by kernel_rfl)
      refine if_yes (by kernel_rfl) ?_
      have e0 := keep_cell hR e0
      have e1 := keep_cell hR e1
      have e2 := keep_cell hR e2
      have e3 := keep_cell hR e3
      have y0 := keep_cell hR y0
      have y1 := keep_cell hR y1
      have y2 := keep_cell hR y2
      have y3 := keep_cell hR y3
      simp [go_sem, h11, e0, e1, e2, e3, y0, y1, y2, y3]
      exact hK.out _ _ (Below.refl _ _) rfl
    · intro A wx hR hout hdep K hK
      have h52 : A.tmps[52]?.getD undef = .agg #[.slice am' nm' pm', .slice ac' nc' pc', .int .u64 (bs : Int), .slice ap' np' pp'] := hdep 52 (by kernel_rfl)
      refine if_yes (by kernel_rfl) ?_
      simp [go_sem, h52]
      refine (KU.out _ hR).mono ?_
      rintro e wG ⟨g1, g2, g3, g4, g5, g6, rfl, hoG, hbG⟩
      exact hK.out _ _ hbG ⟨g1, g2, g3, g4, g5, g6, _, rfl, hoG⟩
    · intro A wx hR hout hdep K hK
      have h51 := hdep 51 (by kernel_rfl)
      have h53 := hdep 53 (by kernel_rfl)
      refine if_yes (by kernel_rfl) ?_
      obtain ⟨a1, n1, p1, a2, n2, p2, B1, e1', o1⟩ := h51
      obtain ⟨a3, n3, p3, a4, n4, p4, B2, e2', o2⟩ := h53
      simp [go_sem, e1', e2']
      refine (KS.out _ _ _ _ _ _ _ _ _ _ _ _ _ _ _ o1 o2).mono ?_
      rintro e wG ⟨rfl, hbG⟩
      exact hK.out _ _ hbG rfl
    · intro A wx hR hout hdep K hK
      have h54 : A.tmps[54]?.getD undef = .bool true := hdep 54 (by kernel_rfl)
      refine if_yes (by kernel_rfl) ?_
      simp [go_sem, h54]
      exact hK.out _ _ (Below.refl _ _) rfl
    · intro A wx hR hout hdep K hK
      have h11 : A.tmps[11]?.getD undef = .pointer (some ⟨w2.heap.size, 0, none⟩) := hout 11 (by kernel_rfl)
      have h55 : A.tmps[55]?.getD undef = .bool true := hdep 55 (by kernel_rfl)
      refine if_yes ((wanted_is (j := 5) (b := true) (by kernel_rfl) (by kernel_rfl) h55).trans rfl) ?_
      simp [go_sem, h11]
      exact hK.out _ _ (Below.refl _ _) rfl
    · intro A wx hR hout hdep K hK
      have h56 : A.tmps[56]?.getD undef = .pointer (some ⟨w2.heap.size, 2, none⟩) := hdep 56 (by kernel_rfl)
      have h55 : A.tmps[55]?.getD undef = .bool true := hdep 55 (by kernel_rfl)
      refine if_yes ((wanted_is (j := 5) (b := true) (by kernel_rfl) (by kernel_rfl) h55).trans rfl) ?_
      have e0 := keep_cell hR e0
      have e1 := keep_cell hR e1
      have e2 := keep_cell hR e2
      have e3 := keep_cell hR e3
      have y0 := keep_cell hR y0
      have y1 := keep_cell hR y1
      have y2 := keep_cell hR y2
      have y3 := keep_cell hR y3
      simp [go_sem, h56, e0, e1, e2, e3, y0, y1, y2, y3]
      exact hK.out _ _ (Below.refl _ _) rfl
    · intro A wx hR hout hdep K hK
      have h5 : A.tmps[5]?.getD undef = .pointer (some ⟨w.heap.size, 0, none⟩) := hout 5 (by kernel_rfl)
      have h55 : A.tmps[55]?.getD undef = .bool true := hdep 55 (by kernel_rfl)
      refine if_yes ((wanted_is (j := 5) (b := true) (by kernel_rfl) (by kernel_rfl) h55).trans rfl) ?_
      simp [go_sem, h5]
      exact hK.out _ _ (Below.refl _ _) rfl
    · intro A wx hR hout hdep K hK
      have h58 : A.tmps[58]?.getD undef = .pointer (some ⟨w.heap.size, 2, none⟩) := hdep 58 (by kernel_rfl)
      have h55 : A.tmps[55]?.getD undef = .bool true := hdep 55 (by kernel_rfl)
      refine if_yes ((wanted_is (j := 5) (b := true) (by kernel_rfl) (by kernel_rfl) h55).trans rfl) ?_
      have e0 := keep_cell hR e0
      have e1 := keep_cell hR e1
      have e2 := keep_cell hR e2
      have e3 := keep_cell hR e3
      have y0 := keep_cell hR y0
      have y1 := keep_cell hR y1
      have y2 := keep_cell hR y2
      have y3 := keep_cell hR y3
      simp [go_sem, h58, e0, e1, e2, e3, y0, y1, y2, y3]
      exact hK.out _ _ (Below.refl _ _) rfl
    · intro A wx hR hout hdep K hK
      have h57 : A.tmps[57]?.getD undef = .int .u64 (bs : Int) := hdep 57 (by kernel_rfl)
      have h59 : A.tmps[59]?.getD undef = .int .u64 (bs : Int) := hdep 59 (by kernel_rfl)
      have h55 : A.tmps[55]?.getD undef = .bool true := hdep 55 (by kernel_rfl)
      refine if_yes ((wanted_is (j := 5) (b := true) (by kernel_rfl) (by kernel_rfl) h55).trans rfl) ?_
      simp [go_sem, h57, h59]
      exact hK.out _ _ (Below.refl _ _) rfl
    · intro A wx hR hout hdep K hK
      have h55 : A.tmps[55]?.getD undef = .bool true := hdep 55 (by kernel_rfl)
      have h60 : A.tmps[60]?.getD undef = .bool true := hdep 60 (by kernel_rfl)
      refine if_yes (by kernel_rfl) ?_
      simp [go_sem, h55, h60]
      exact hK.out _ _ (Below.refl _ _) rfl
    · intro A wx hR hout hdep K hK
      have h61 : A.tmps[61]?.getD undef = .bool true := hdep 61 (by kernel_rfl)
      refine if_yes (by kernel_rfl) ?_
      simp [go_sem, h61]
      exact hK.out _ _ (Below.refl _ _) rfl
    · intro A wx hR hout hdep K hK
      have h62 : A.tmps[62]?.getD undef = .bool true := hdep 62 (by kernel_rfl)
      refine if_yes ((wanted_is (j := 12) (b := true) (by kernel_rfl) (by kernel_rfl) h62).trans rfl) ?_
      simp [go_sem, ]
      refine (awake9 _).mono ?_
      rintro e wG ⟨rfl, hbG⟩
      exact hK.out _ _ hbG rfl
    · intro A wx hR hout hdep K hK
      have h62 : A.tmps[62]?.getD undef = .bool true := hdep 62 (by kernel_rfl)
      have h63 : A.tmps[63]?.getD undef = .bool true := hdep 63 (by kernel_rfl)
      refine if_yes (by kernel_rfl) ?_
      simp [go_sem, h62, h63]
      exact hK.out _ _ (Below.refl _ _) rfl
    · intro A wx hR hout hdep K hK
      have h64 : A.tmps[64]?.getD undef = .bool true := hdep 64 (by kernel_rfl)
      refine if_yes (by kernel_rfl) ?_
      simp [go_sem, h64]
      exact hK.out _ _ (Below.refl _ _) rfl
    simp only [putSl, Act.put, List.setIfInBounds_toArray, List.set_cons_zero, List.set_cons_succ]
    have hz : f 10 = .bool true := hf 10 (by kernel_rfl)
    rw [hz]
    go_wp2
    go_ret
    exact ⟨rfl, below_tr hbw hR⟩
  · have z1 : (kind : Int) % 3 = 2 := by omega
    have z2 : (kind : Int).tmod 3 = 2 := by rw [Int.tmod_eq_emod_of_nonneg (by omega)]; omega
    clear hk
    go_wp2_with fail
    refine (else22 _ _ _ ms cs ps bs first n prot W5 HS5.out HRC.out HWO.out h1 h2 HQ.out).mono ?_
    rintro e w6 ⟨am', nm', pm', ac', nc', pc', ap', np', pp', code, ms', cs', ps', rfl, ho6, hb6, hel⟩
    have HEL : Hid _ := hel
    clear hel
    have f0 := f0.keep hb6
    have q0 := f0.frozen
    have f1 := f1.keep hb6
    have q1 := f1.frozen
    have f2 := f2.keep hb6
    have q2 := f2.frozen
    have f3 := f3.keep hb6
    have q3 := f3.frozen
    have e0 := keep_cell hb6 e0
    have e1 := keep_cell hb6 e1
    have e2 := keep_cell hb6 e2
    have e3 := keep_cell hb6 e3
    have x0 := keep_cell hb6 x0
    have x1 := keep_cell hb6 x1
    have x2 := keep_cell hb6 x2
    have x3 := keep_cell hb6 x3
    have hbw := below_tr hbw hb6
    have hs6 := HS5.out.keep hb6
    obtain ⟨W9, hW9, hK9, ho9, ⟨y0, y1, y2, y3⟩, _⟩ := set4 w6 w2.heap.size _ (.slice am' nm' pm') (.slice ac' nc' pc') (.int .u64 (bs : Int)) (.slice ap' np' pp') _ _ _ ho6 hlt5 f0 f1 f2 f3
    have hbw := hK9 _ _ hn5 hbw
    have hfar : Below (w.heap.size + 1) w6 W9 := hK9 _ _ hn5' (Below.refl _ _)
    have e0 := (hfar.cell (p := ⟨w.heap.size, 0, none⟩) (by simp)).trans e0
    have e1 := (hfar.cell (p := ⟨w.heap.size, 1, none⟩) (by simp)).trans e1
    have e2 := (hfar.cell (p := ⟨w.heap.size, 2, none⟩) (by simp)).trans e2
    have e3 := (hfar.cell (p := ⟨w.heap.size, 3, none⟩) (by simp)).trans e3
    have hsw : Hid (SlG W9 (.slice am ms.length pm) (.slice ac cs.length pc) (.slice ap ps.length pp) ms cs ps) := HSL0.out.keep hbw
    have KG : Hid (∀ w', Below W9.heap.size W9 w' → Calls Try.prog 26 #[.agg #[.slice am ms.length pm, .slice ac cs.length pc, .int .u64 (bs : Int), .slice ap ps.length pp]] w' fun e w'' => ∃ am nm pm ac nc pc, e = .returned (.agg #[.slice am nm pm, .slice ac nc pc]) ∧ OwnH w'.heap.size w'' (.slice am nm pm) (.slice ac nc pc) (by_ (farP bs) ms) (by_ (farC bs) cs) ∧ Below w'.heap.size w' w'') := fun w' hb' =>
      far26 _ _ _ ms cs ps bs w' (hsw.out.keep hb') HQ.out.fq.1 HQ.out.fq.2.1 (fun x hx => (HQ.out.fq.2.2.2.2.1 x hx).1) HRC.out hbs
    have KU : Hid (∀ w', Below W9.heap.size W9 w' → Calls Try.prog 26 #[.agg #[.slice am' nm' pm', .slice ac' nc' pc', .int .u64 (bs : Int), .slice ap' np' pp']] w' fun e w'' => ∃ am nm pm ac nc pc, e = .returned (.agg #[.slice am nm pm, .slice ac nc pc]) ∧ OwnH w'.heap.size w'' (.slice am nm pm) (.slice ac nc pc) (by_ (farP bs) ms) (by_ (farC bs) cs) ∧ Below w'.heap.size w' w'') := fun w' hb' => by
      have k := far26 _ _ _ ms' cs' ps' bs w' (ho9.sl.keep hb') HEL.out.1 HEL.out.2.1 HEL.out.2.2.1 HEL.out.2.2.2.1 hbs
      rw [HEL.out.2.2.2.2.1, HEL.out.2.2.2.2.2] at k
      exact k
    have KS : Hid (∀ (B1 B2 : Nat) (a1 a2 : Option Addr) (n1 n2 p1 p2 : Nat) (a3 a4 : Option Addr) (n3 n4 p3 p4 : Nat) (w' : World), OwnH B1 w' (.slice a1 n1 p1) (.slice a2 n2 p2) (by_ (farP bs) ms) (by_ (farC bs) cs) → OwnH B2 w' (.slice a3 n3 p3) (.slice a4 n4 p4) (by_ (farP bs) ms) (by_ (farC bs) cs) → Calls Try.prog 25 #[.agg #[.slice a1 n1 p1, .slice a2 n2 p2], .agg #[.slice a3 n3 p3, .slice a4 n4 p4]] w' fun e w'' => e = .returned (.bool true) ∧ Below w'.heap.size w' w'') := fun B1 B2 a1 a2 n1 n2 p1 p2 a3 a4 n3 n4 p3 p4 w' h1 h2 => by
      have k := rsame12 _ _ _ _ _ _ _ _ w' h1.m h1.c h2.m h2.c
      rw [decide_eq_true ⟨rfl, rfl⟩] at k
      exact k
    clear ho6 ho9 hs6 hfar hb6 hK9 f0 f1 f2 f3 HS5 HSL0 hsw
    go_wp2
    refine wp_region_slots (R := Ext) [⟨50, fun v _ => v = .agg #[.slice am ms.length pm, .slice ac cs.length pc, .int .u64 (bs : Int), .slice ap ps.length pp], fun _ _ _ _ h => h⟩, ⟨51, fun v w => ∃ a1 n1 p1 a2 n2 p2 B, v = .agg #[.slice a1 n1 p1, .slice a2 n2 p2] ∧ OwnH B w (.slice a1 n1 p1) (.slice a2 n2 p2) (by_ (farP bs) ms) (by_ (farC bs) cs), fun v w w' hb ⟨a1, n1, p1, a2, n2, p2, B, e, h⟩ => ⟨a1, n1, p1, a2, n2, p2, B, e, h.keep hb⟩⟩, ⟨52, fun v _ => v = .agg #[.slice am' nm' pm', .slice ac' nc' pc', .int .u64 (bs : Int), .slice ap' np' pp'], fun _ _ _ _ h => h⟩, ⟨53, fun v w => ∃ a1 n1 p1 a2 n2 p2 B, v = .agg #[.slice a1 n1 p1, .slice a2 n2 p2] ∧ OwnH B w (.slice a1 n1 p1) (.slice a2 n2 p2) (by_ (farP bs) ms) (by_ (farC bs) cs), fun v w w' hb ⟨a1, n1, p1, a2, n2, p2, B, e, h⟩ => ⟨a1, n1, p1, a2, n2, p2, B, e, h.keep hb⟩⟩, ⟨54, fun v _ => v = .bool true, fun _ _ _ _ h => h⟩, ⟨55, fun v _ => v = .bool true, fun _ _ _ _ h => h⟩, ⟨56, fun v _ => v = .pointer (some ⟨w2.heap.size, 2, none⟩), fun _ _ _ _ h => h⟩, ⟨57, fun v _ => v = .int .u64 (bs : Int), fun _ _ _ _ h => h⟩, ⟨58, fun v _ => v = .pointer (some ⟨w.heap.size, 2, none⟩), fun _ _ _ _ h => h⟩, ⟨59, fun v _ => v = .int .u64 (bs : Int), fun _ _ _ _ h => h⟩, ⟨60, fun v _ => v = .bool true, fun _ _ _ _ h => h⟩, ⟨61, fun v _ => v = .bool true, fun _ _ _ _ h => h⟩, ⟨62, fun v _ => v = .bool true, fun _ _ _ _ h => h⟩, ⟨63, fun v _ => v = .bool true, fun _ _ _ _ h => h⟩, ⟨64, fun v _ => v = .bool true, fun _ _ _ _ h => h⟩, ⟨10, fun v _ => v = .bool true, fun _ _ _ _ h => h⟩] _ (by kernel_rfl) rfl (by kernel_rfl) (Below.drew (Below.refl _ _)) (fun _ _ _ h1 h2 => below_tr h1 h2) (fun QQ => ⟨?_, ?_, ?_, ?_, ?_, ?_, ?_, ?_, ?_, ?_, ?_, ?_, ?_, ?_, ?_, ?_, trivial⟩) (fun f wy hR hf => ?_)
    · intro A wx hR hout hdep K hK
      have h5 : A.tmps[5]?.getD undef = .pointer (some ⟨w.heap.size, 0, none⟩) := hout 5 (by kernel_rfl)
      refine if_yes (by kernel_rfl) ?_
      have e0 := keep_cell hR e0
      have e1 := keep_cell hR e1
      have e2 := keep_cell hR e2
      have e3 := keep_cell hR e3
      have y0 := keep_cell hR y0
      have y1 := keep_cell hR y1
      have y2 := keep_cell hR y2
      have y3 := keep_cell hR y3
      simp [go_sem, h5, e0, e1, e2, e3, y0, y1, y2, y3]
      exact hK.out _ _ (Below.refl _ _) rfl
    · intro A wx hR hout hdep K hK
      have h50 : A.tmps[50]?.getD undef = .agg #[.slice am ms.length pm, .slice ac cs.length pc, .int .u64 (bs : Int), .slice ap ps.length pp] := hdep 50 (by kernel_rfl)
      refine if_yes (by kernel_rfl) ?_
      simp [go_sem, h50]
      refine (KG.out _ hR).mono ?_
      rintro e wG ⟨g1, g2, g3, g4, g5, g6, rfl, hoG, hbG⟩
      exact hK.out _ _ hbG ⟨g1, g2, g3, g4, g5, g6, _, rfl, hoG⟩
    · intro A wx hR hout hdep K hK
      have h11 : A.tmps[11]?.getD undef = .pointer (some ⟨w2.heap.size, 0, none⟩) := hout 11 (by kernel_rfl)
      refine if_yes (by kernel_rfl) ?_
      have e0 := keep_cell hR e0
      have e1 := keep_cell hR e1
      have e2 := keep_cell hR e2
      have e3 := keep_cell hR e3
      have y0 := keep_cell hR y0
      have y1 := keep_cell hR y1
      have y2 := keep_cell hR y2
      have y3 := keep_cell hR y3
      simp [go_sem, h11, e0, e1, e2, e3, y0, y1, y2, y3]
      exact hK.out _ _ (Below.refl _ _) rfl
    · intro A wx hR hout hdep K hK
      have h52 : A.tmps[52]?.getD undef = .agg #[.slice am' nm' pm', .slice ac' nc' pc', .int .u64 (bs : Int), .slice ap' np' pp'] := hdep 52 (by kernel_rfl)
      refine if_yes (by kernel_rfl) ?_
      simp [go_sem, h52]
      refine (KU.out _ hR).mono ?_
      rintro e wG ⟨g1, g2, g3, g4, g5, g6, rfl, hoG, hbG⟩
      exact hK.out _ _ hbG ⟨g1, g2, g3, g4, g5, g6, _, rfl, hoG⟩
    · intro A wx hR hout hdep K hK
      have h51 := hdep 51 (by kernel_rfl)
      have h53 := hdep 53 (by kernel_rfl)
      refine if_yes (by kernel_rfl) ?_
      obtain ⟨a1, n1, p1, a2, n2, p2, B1, e1', o1⟩ := h51
      obtain ⟨a3, n3, p3, a4, n4, p4, B2, e2', o2⟩ := h53
      simp [go_sem, e1', e2']
      refine (KS.out _ _ _ _ _ _ _ _ _ _ _ _ _ _ _ o1 o2).mono ?_
      rintro e wG ⟨rfl, hbG⟩
      exact hK.out _ _ hbG rfl
    · intro A wx hR hout hdep K hK
      have h54 : A.tmps[54]?.getD undef = .bool true := hdep 54 (by kernel_rfl)
      refine if_yes (by kernel_rfl) ?_
      simp [go_sem, h54]
      exact hK.out _ _ (Below.refl _ _) rfl
    · intro A wx hR hout hdep K hK
      have h11 : A.tmps[11]?.getD undef = .pointer (some ⟨w2.heap.size, 0, none⟩) := hout 11 (by kernel_rfl)
      have h55 : A.tmps[55]?.getD undef = .bool true := hdep 55 (by kernel_rfl)
      refine if_yes ((wanted_is (j := 5) (b := true) (by kernel_rfl) (by kernel_rfl) h55).trans rfl) ?_
      simp [go_sem, h11]
      exact hK.out _ _ (Below.refl _ _) rfl
    · intro A wx hR hout hdep K hK
      have h56 : A.tmps[56]?.getD undef = .pointer (some ⟨w2.heap.size, 2, none⟩) := hdep 56 (by kernel_rfl)
      have h55 : A.tmps[55]?.getD undef = .bool true := hdep 55 (by kernel_rfl)
      refine if_yes ((wanted_is (j := 5) (b := true) (by kernel_rfl) (by kernel_rfl) h55).trans rfl) ?_
      have e0 := keep_cell hR e0
      have e1 := keep_cell hR e1
      have e2 := keep_cell hR e2
      have e3 := keep_cell hR e3
      have y0 := keep_cell hR y0
      have y1 := keep_cell hR y1
      have y2 := keep_cell hR y2
      have y3 := keep_cell hR y3
      simp [go_sem, h56, e0, e1, e2, e3, y0, y1, y2, y3]
      exact hK.out _ _ (Below.refl _ _) rfl
    · intro A wx hR hout hdep K hK
      have h5 : A.tmps[5]?.getD undef = .pointer (some ⟨w.heap.size, 0, none⟩) := hout 5 (by kernel_rfl)
      have h55 : A.tmps[55]?.getD undef = .bool true := hdep 55 (by kernel_rfl)
      refine if_yes ((wanted_is (j := 5) (b := true) (by kernel_rfl) (by kernel_rfl) h55).trans rfl) ?_
      simp [go_sem, h5]
      exact hK.out _ _ (Below.refl _ _) rfl
    · intro A wx hR hout hdep K hK
      have h58 : A.tmps[58]?.getD undef = .pointer (some ⟨w.heap.size, 2, none⟩) := hdep 58 (by kernel_rfl)
      have h55 : A.tmps[55]?.getD undef = .bool true := hdep 55 (by kernel_rfl)
      refine if_yes ((wanted_is (j := 5) (b := true) (by kernel_rfl) (by kernel_rfl) h55).trans rfl) ?_
      have e0 := keep_cell hR e0
      have e1 := keep_cell hR e1
      have e2 := keep_cell hR e2
      have e3 := keep_cell hR e3
      have y0 := keep_cell hR y0
      have y1 := keep_cell hR y1
      have y2 := keep_cell hR y2
      have y3 := keep_cell hR y3
      simp [go_sem, h58, e0, e1, e2, e3, y0, y1, y2, y3]
      exact hK.out _ _ (Below.refl _ _) rfl
    · intro A wx hR hout hdep K hK
      have h57 : A.tmps[57]?.getD undef = .int .u64 (bs : Int) := hdep 57 (by kernel_rfl)
      have h59 : A.tmps[59]?.getD undef = .int .u64 (bs : Int) := hdep 59 (by kernel_rfl)
      have h55 : A.tmps[55]?.getD undef = .bool true := hdep 55 (by kernel_rfl)
      refine if_yes ((wanted_is (j := 5) (b := true) (by kernel_rfl) (by kernel_rfl) h55).trans rfl) ?_
      simp [go_sem, h57, h59]
      exact hK.out _ _ (Below.refl _ _) rfl
    · intro A wx hR hout hdep K hK
      have h55 : A.tmps[55]?.getD undef = .bool true := hdep 55 (by kernel_rfl)
      have h60 : A.tmps[60]?.getD undef = .bool true := hdep 60 (by kernel_rfl)
      refine if_yes (by kernel_rfl) ?_
      simp [go_sem, h55, h60]
      exact hK.out _ _ (Below.refl _ _) rfl
    · intro A wx hR hout hdep K hK
      have h61 : A.tmps[61]?.getD undef = .bool true := hdep 61 (by kernel_rfl)
      refine if_yes (by kernel_rfl) ?_
      simp [go_sem, h61]
      exact hK.out _ _ (Below.refl _ _) rfl
    · intro A wx hR hout hdep K hK
      have h62 : A.tmps[62]?.getD undef = .bool true := hdep 62 (by kernel_rfl)
      refine if_yes ((wanted_is (j := 12) (b := true) (by kernel_rfl) (by kernel_rfl) h62).trans rfl) ?_
      simp [go_sem, ]
      refine (awake9 _).mono ?_
      rintro e wG ⟨rfl, hbG⟩
      exact hK.out _ _ hbG rfl
    · intro A wx hR hout hdep K hK
      have h62 : A.tmps[62]?.getD undef = .bool true := hdep 62 (by kernel_rfl)
      have h63 : A.tmps[63]?.getD undef = .bool true := hdep 63 (by kernel_rfl)
      refine if_yes (by kernel_rfl) ?_
      simp [go_sem, h62, h63]
      exact hK.out _ _ (Below.refl _ _) rfl
    · intro A wx hR hout hdep K hK
      have h64 : A.tmps[64]?.getD undef = .bool true := hdep 64 (by kernel_rfl)
      refine if_yes (by kernel_rfl) ?_
      simp [go_sem, h64]
      exact hK.out _ _ (Below.refl _ _) rfl
    simp only [putSl, Act.put, List.setIfInBounds_toArray, List.set_cons_zero, List.set_cons_succ]
    have hz : f 10 = .bool true := hf 10 (by kernel_rfl)
    rw [hz]
    go_wp2
    go_ret
    exact ⟨rfl, below_tr hbw hR⟩
end Go.Proofs.Ytpaanfeleeomnaa
