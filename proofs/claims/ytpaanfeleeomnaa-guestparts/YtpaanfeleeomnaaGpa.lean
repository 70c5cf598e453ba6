/- What is proved here: the law GuestParts, walked. -/
import Derived.Test.YtpaanfeleeomnaaGelp
import Derived.Test.YtpaanfeleeomnaaRsame
import Derived.Test.YtpaanfeleeomnaaRprot
import Derived.Test.YtpaanfeleeomnaaEach
import Derived.Deep.RegionHeld3
import Derived.LoopTactic
namespace Go.Proofs.Ytpaanfeleeomnaa
open Go.RowKit
set_option linter.unusedVariables false
set_option linter.unusedSimpArgs false
set_option maxRecDepth 100000
theorem same_refl (ms cs ps : List (Nat × Int)) (bs : Nat) : sameG ms cs ps bs ms cs ps bs = true := decide_eq_true ⟨rfl, rfl, rfl, rfl⟩
set_option maxHeartbeats 16000000 in
theorem parts_walk (vm vc vp : Value) (ms cs ps : List (Nat × Int)) (bs : Nat) (w : World) (hsl : SlG w vm vc vp ms cs ps) (hrc : ∀ y ∈ cs, y.1 < 18446744073709551616) (hw : Words cs) (hbs : bs < 18446744073709551616) (hpn : ∀ y ∈ ps, y.1 < 4294967296) (first n : Nat) (prot : Int) (away : Bool) (a : Nat) (h1 : first < 4294967296) (h2 : n < 4294967296) (ha : a < 4294967296) :
    Calls Try.prog 5 #[.agg #[vm, vc, .int .u64 (bs : Int), vp], .int .u32 (first : Int), .int .u32 (n : Int), .int .i64 prot, .bool away, .int .u32 (a : Int)] w fun e w' => e = .returned (.bool true) ∧ Below w.heap.size w w' := by
  obtain ⟨W, hW, hb, hsz, c0, c1, c2, c3, _⟩ := box4 w vm vc (.int .u64 (bs : Int)) vp 29
  obtain ⟨am, pm, rfl, lpm1, lpm2⟩ : ∃ a p, vm = .slice a ms.length p ∧ ms.length ≤ p ∧ p ≤ 9223372036854775807 := by obtain ⟨a, p, h, h1, h2, _⟩ := id hsl.1; exact ⟨_, _, h, h1, h2⟩
  obtain ⟨ac, pc, rfl, lpc1, lpc2⟩ : ∃ a p, vc = .slice a cs.length p ∧ cs.length ≤ p ∧ p ≤ 9223372036854775807 := by obtain ⟨a, p, h, h1, h2, _⟩ := id hsl.2.1; exact ⟨_, _, h, h1, h2⟩
  obtain ⟨ap, pp, rfl, lpp1, lpp2⟩ : ∃ a p, vp = .slice a ps.length p ∧ ps.length ≤ p ∧ p ≤ 9223372036854775807 := by obtain ⟨a, p, h, h1, h2, _⟩ := id hsl.2.2; exact ⟨_, _, h, h1, h2⟩
  have K8 := gfew8 am ac ap ms.length pm cs.length pc ps.length pp bs W (by omega) (by omega) (by omega)
  have K11 : Hid (∀ w', Below W.heap.size W w' → Calls Try.prog 11 #[.agg #[.slice am ms.length pm, .slice ac cs.length pc, .int .u64 (bs : Int), .slice ap ps.length pp]] w' fun e w'' => e = .returned (.bool (fitGB ms cs ps bs)) ∧ Below w'.heap.size w' w'') := fun w' hb' =>
    rfit11 _ _ _ ms cs ps bs w' (hsl.keep (below_tr hb hb')) hrc hbs
  have HSL : Hid (SlG W (.slice am ms.length pm) (.slice ac cs.length pc) (.slice ap ps.length pp) ms cs ps) := hsl.keep hb
  have HSL0 : Hid (SlG w (.slice am ms.length pm) (.slice ac cs.length pc) (.slice ap ps.length pp) ms cs ps) := hsl
  have HRC : Hid (∀ y ∈ cs, y.1 < 18446744073709551616) := hrc
  have HPN : Hid (∀ y ∈ ps, y.1 < 4294967296) := hpn
  have HWO : Hid (Words cs) := hw
  clear lpm1 lpm2 lpc1 lpc2 lpp1 hsl hrc hw hpn
  by_cases hfew : ms.length ≤ 70 ∧ cs.length ≤ 100 ∧ ps.length ≤ 60
  case neg =>
    rw [decide_eq_false hfew] at K8
    clear hfew
    go_enter Try.func5, Try.ntmps5
    go_wp2_with fail
    refine K8.mono ?_
    rintro e w1 ⟨rfl, hb1⟩
    go_wp2_with fail
    refine (awake9 w1).mono ?_
    rintro e wz ⟨rfl, hbz⟩
    go_wp2
    go_ret
    exact ⟨rfl, (by (repeat (first | with_reducible assumption | with_reducible exact Below.refl _ _ | with_reducible refine Below.drew ?_ | with_reducible refine below_alloc ?_ _ | (with_reducible refine below_set ?_ ?_ _; rotate_left; focus (first | (simp; done) | (simp; omega))) | with_reducible refine below_tr ?_ (by with_reducible assumption))))⟩
  rw [decide_eq_true hfew] at K8
  cases hfit : fitGB ms cs ps bs with
  | false =>
    rw [hfit] at K11
    clear hfew hfit
    go_enter Try.func5, Try.ntmps5
    go_wp2_with fail
    refine K8.mono ?_
    rintro e w1 ⟨rfl, hb1⟩
    have e0 := keep_cell hb1 c0
    have e1 := keep_cell hb1 c1
    have e2 := keep_cell hb1 c2
    have e3 := keep_cell hb1 c3
    clear K8
    go_wp2_with fail
    refine (K11.out w1 hb1).mono ?_
    rintro e w2 ⟨rfl, hb2⟩
    go_wp2_with fail
    refine (awake9 w2).mono ?_
    rintro e wz ⟨rfl, hbz⟩
    go_wp2
    go_ret
    exact ⟨rfl, (by (repeat (first | with_reducible assumption | with_reducible exact Below.refl _ _ | with_reducible refine Below.drew ?_ | with_reducible refine below_alloc ?_ _ | (with_reducible refine below_set ?_ ?_ _; rotate_left; focus (first | (simp; done) | (simp; omega))) | with_reducible refine below_tr ?_ (by with_reducible assumption))))⟩
  | true =>
  rw [hfit] at K11
  have HQ : Hid (FitG ms cs ps bs) := of_fitGB hfit
  have HFE : Hid (ms.length ≤ 70 ∧ cs.length ≤ 100 ∧ ps.length ≤ 60) := hfew
  have lps : ps.length ≤ 60 := hfew.2.2
  clear hfit hfew
  cases away with
  | true =>
  go_enter Try.func5, Try.ntmps5
  go_wp2_with fail
  refine K8.mono ?_
  rintro e w1 ⟨rfl, hb1⟩
  have e0 := keep_cell hb1 c0
  have e1 := keep_cell hb1 c1
  have e2 := keep_cell hb1 c2
  have e3 := keep_cell hb1 c3
  clear K8
  go_wp2_with fail
  refine (K11.out w1 hb1).mono ?_
  rintro e w2 ⟨rfl, hb2⟩
  clear K11 hW hsz c0 c1 c2 c3
  have e0 := keep_cell hb2 e0
  have e1 := keep_cell hb2 e1
  have e2 := keep_cell hb2 e2
  have e3 := keep_cell hb2 e3
  have HSL : Hid (SlG w2 (.slice am ms.length pm) (.slice ac cs.length pc) (.slice ap ps.length pp) ms cs ps) := (HSL.out.keep hb1).keep hb2
  have hb := below_tr (below_tr hb hb1) hb2
  clear hb1 hb2
  have c9 := e0
  obtain ⟨W5, hW5, hb5, hsz5, x0, x1, x2, x3, f0, f1, f2, f3⟩ := box4 w2 (.slice none 0 0) (.slice none 0 0) (.int .u64 0) (.slice none 0 0) 29
  have e0 := keep_cell hb5 e0
  have e1 := keep_cell hb5 e1
  have e2 := keep_cell hb5 e2
  have e3 := keep_cell hb5 e3
  have HS5 : Hid (SlG W5 (.slice am ms.length pm) (.slice ac cs.length pc) (.slice ap ps.length pp) ms cs ps) := HSL.out.keep hb5
  have hn5' : w.heap.size + 1 ≤ w2.heap.size := World.block_lt_of_cell? w2 _ (show w2.cell? ⟨w.heap.size, 0, none⟩ = _ from c9)
  have hn5 : w.heap.size ≤ w2.heap.size := by omega
  have hlt5 : w2.heap.size < W5.heap.size := by omega
  have hbw := below_tr hb hb5
  clear HSL hb hb5
  go_wp2_with fail
  refine (parts20 _ _ _ ms cs ps bs first n prot W5 HS5.out HRC.out HWO.out h1 h2 HQ.out).mono ?_
  rintro e w6 ⟨am', nm', pm', ac', nc', pc', ap', np', pp', code, ms', cs', ps', rfl, ho6, hb6, hpa⟩
  have f0 := f0.keep hb6
  have q0 := f0.frozen
  have f1 := f1.keep hb6
  have q1 := f1.frozen
  have f2 := f2.keep hb6
  have q2 := f2.frozen
  have f3 := f3.keep hb6
  have q3 := f3.frozen
  have e0 := keep_cell hb6 e0
  have e1 := keep_cell hb6 e1
  have e2 := keep_cell hb6 e2
  have e3 := keep_cell hb6 e3
  have x0 := keep_cell hb6 x0
  have x1 := keep_cell hb6 x1
  have x2 := keep_cell hb6 x2
  have x3 := keep_cell hb6 x3
  have hbw := below_tr hbw hb6
  obtain ⟨W9, hW9, hK9, ho9, ⟨y0, y1, y2, y3⟩, _⟩ := set4 w6 w2.heap.size _ (.slice am' nm' pm') (.slice ac' nc' pc') (.int .u64 (bs : Int)) (.slice ap' np' pp') _ _ _ ho6 hlt5 f0 f1 f2 f3
  have hbw := hK9 _ _ hn5 hbw
  have hfar : Below (w.heap.size + 1) w6 W9 := hK9 _ _ hn5' (Below.refl _ _)
  have e0 := (hfar.cell (p := ⟨w.heap.size, 0, none⟩) (by simp)).trans e0
  have e1 := (hfar.cell (p := ⟨w.heap.size, 1, none⟩) (by simp)).trans e1
  have e2 := (hfar.cell (p := ⟨w.heap.size, 2, none⟩) (by simp)).trans e2
  have e3 := (hfar.cell (p := ⟨w.heap.size, 3, none⟩) (by simp)).trans e3
  have hsw : Hid (SlG W9 (.slice am ms.length pm) (.slice ac cs.length pc) (.slice ap ps.length pp) ms cs ps) := HSL0.out.keep hbw
  have ho9 : Hid (OwnG W5.heap.size W9 (.slice am' nm' pm') (.slice ac' nc' pc') (.slice ap' np' pp') ms' cs' ps') := ho9
  clear ho6 hfar hb6 hK9 f0 f1 f2 f3 HS5 HSL0 hlt5 hn5 hn5'
  rcases hpa with ⟨hcode, rfl, rfl, rfl⟩ | ⟨rfl, hn0, hfn, hww, hpr0, hpk0⟩
  · have hcd : (code != 0) = true := by simpa using hcode
    have K13 := rsame13 _ _ _ _ _ _ ms' cs' ps' ms' cs' ps' bs bs W9 ho9.out.sl hsw.out
    rw [same_refl] at K13
    go_wp2_with fail
    refine K13.mono ?_
    rintro e w10 ⟨rfl, hb10⟩
    have hbw := below_tr hbw hb10
    clear K13 hW9
    go_wp2_with fail
    refine (awake9 w10).mono ?_
    rintro e wz ⟨rfl, hbz⟩
    go_wp2
    go_ret
    exact ⟨rfl, (by (repeat (first | with_reducible assumption | with_reducible exact Below.refl _ _ | with_reducible refine Below.drew ?_ | with_reducible refine below_alloc ?_ _ | (with_reducible refine below_set ?_ ?_ _; rotate_left; focus (first | (simp; done) | (simp; omega))) | with_reducible refine below_tr ?_ (by with_reducible assumption))))⟩
  · have HPR : Hid (∀ q, protN ps' q = if first ≤ q ∧ q < first + n then -1 else protN ps q) := hpr0
    have HPK : Hid (∀ a, a < 4294967296 → peekN cs' (bs + a) = if first ≤ a / 4096 ∧ a / 4096 < first + n then 0 else peekN cs (bs + a)) := hpk0
    have KP : Hid (∀ (q : Nat) w', Below W9.heap.size W9 w' → Calls Try.prog 15 #[.agg #[.slice am' nm' pm', .slice ac' nc' pc', .int .u64 (bs : Int), .slice ap' np' pp'], .int .u32 (q : Int)] w' fun e w'' => e = .returned (.int .i64 (protN ps' q)) ∧ Below w'.heap.size w' w'') := fun q w' hb' =>
      rprot15 _ _ _ bs q ps' w' ⟨_, _, _, rfl⟩ ⟨_, _, _, rfl⟩ (ho9.out.keep hb').p
    have KE : Hid (∀ (q : Nat) w', q < 18446744073709551616 → Below W9.heap.size W9 w' → Calls Try.prog 24 #[.agg #[.slice am' nm' pm', .slice ac' nc' pc'], .int .u64 (q : Int)] w' fun e w'' => e = .returned (.int .u8 ((peekN cs' q : Nat) : Int)) ∧ Below w'.heap.size w' w'') := fun q w' hq hb' =>
      peek26 _ _ cs' q w' ⟨_, _, _, rfl⟩ (ho9.out.keep hb').1.c hww hq
    clear hpr0 hpk0 hww ho9 hn0
    have HX : Hid (∀ i (h : i < ps.length), ∃ b o, ap = some ⟨b, o, none⟩ ∧ W9.cell? ⟨b, o + i * 2, none⟩ = some (.int .u32 (ps[i].1 : Int)) ∧ W9.cell? ⟨b, o + i * 2 + 1, none⟩ = some (.int .i64 ps[i].2)) := by
      obtain ⟨ao, cap, e, _, _, _, g⟩ := hsw.out.2.2
      cases e
      exact g
    go_wp2
    go_loopw [55] (fun i wr => ∃ k : Nat, k ≤ ps.length ∧ i = .int .i64 (k : Int) ∧ Below W9.heap.size W9 wr) (fun i _ => ps.length - (intOf i).toNat)
    case atStart => exact ⟨0, Nat.zero_le _, rfl, Below.refl _ _⟩
    case round =>
      obtain ⟨k, hk, rfl, hbr⟩ := hrel
      by_cases hkl : k < ps.length
      · obtain ⟨b, o, rfl, d0, d1⟩ := HX.out k hkl
        have e0' := keep_cell hbr d0
        have e1' := keep_cell hbr d1
        have hpk := HPN.out _ (List.getElem_mem hkl)
        have hpr : ¬ (first ≤ ps[k].1 ∧ ps[k].1 < first + n) → protN ps' ps[k].1 = ps[k].2 := fun ho => by rw [HPR.out, if_neg ho]; exact protN_in HQ.out.sp (List.getElem_mem hkl)
        generalize ps[k].1 = p at e0' hpk hpr
        generalize ps[k].2 = r at e1' hpr
        clear d0 d1
        have y0 := keep_cell hbr y0
        have y1 := keep_cell hbr y1
        have y2 := keep_cell hbr y2
        have y3 := keep_cell hbr y3
        obtain ⟨W5', hW5', hb5, hsz5, l0, l1, _, _⟩ := box2 wr (.int .u32 (p : Int)) (.int .i64 r) 46
        have y0 := keep_cell hb5 y0
        have y1 := keep_cell hb5 y1
        have y2 := keep_cell hb5 y2
        have y3 := keep_cell hb5 y3
        by_cases hpf : p < first
        · have hd1 : p < first := hpf
          have hpr := hpr (by omega)
          go_wp2
          refine wp_region_slots (R := Ext) [⟨59, fun v _ => v = .pointer (some ⟨wr.heap.size, 0, none⟩), fun _ _ _ _ h => h⟩, ⟨60, fun v _ => v = .int .u32 (p : Int), fun _ _ _ _ h => h⟩, ⟨61, fun v _ => v = .int .u32 (first : Int), fun _ _ _ _ h => h⟩, ⟨62, fun v _ => v = .bool true, fun _ _ _ _ h => h⟩, ⟨63, fun v _ => v = .bool true, fun _ _ _ _ h => h⟩, ⟨70, fun v _ => v = .bool true, fun _ _ _ _ h => h⟩, ⟨71, fun v _ => v = .bool true, fun _ _ _ _ h => h⟩, ⟨72, fun v _ => v = .agg #[.slice am' nm' pm', .slice ac' nc' pc', .int .u64 (bs : Int), .slice ap' np' pp'], fun _ _ _ _ h => h⟩, ⟨73, fun v _ => v = .pointer (some ⟨wr.heap.size, 0, none⟩), fun _ _ _ _ h => h⟩, ⟨74, fun v _ => v = .int .u32 (p : Int), fun _ _ _ _ h => h⟩, ⟨75, fun v _ => v = .int .i64 r, fun _ _ _ _ h => h⟩, ⟨76, fun v _ => v = .pointer (some ⟨wr.heap.size, 1, none⟩), fun _ _ _ _ h => h⟩, ⟨77, fun v _ => v = .int .i64 r, fun _ _ _ _ h => h⟩, ⟨78, fun v _ => v = .bool false, fun _ _ _ _ h => h⟩, ⟨79, fun v _ => v = .bool false, fun _ _ _ _ h => h⟩] _ (by kernel_rfl) rfl (by kernel_rfl) (Below.drew (Below.refl _ _)) (fun _ _ _ h1 h2 => below_tr h1 h2) (fun QQ => ⟨?_, ?_, ?_, ?_, ?_, ?_, ?_, ?_, ?_, ?_, ?_, ?_, ?_, ?_, ?_, ?_, ?_, ?_, ?_, ?_, ?_, trivial⟩) (fun f wy hR hf => ?_)
          · intro A wx hR hout hdep K hK
            have h16 : A.tmps[16]?.getD undef = .pointer (some ⟨wr.heap.size, 0, none⟩) := hout 16 (by kernel_rfl)
            refine if_yes (by kernel_rfl) ?_
            simp [go_sem, h16, hd1]
            exact hK.out _ _ (Below.refl _ _) rfl
          · intro A wx hR hout hdep K hK
            have h59 : A.tmps[59]?.getD undef = .pointer (some ⟨wr.heap.size, 0, none⟩) := hdep 59 (by kernel_rfl)
            refine if_yes (by kernel_rfl) ?_
            have l0 := keep_cell hR l0
            have l1 := keep_cell hR l1
            have y0 := keep_cell hR y0
            have y1 := keep_cell hR y1
            have y2 := keep_cell hR y2
            have y3 := keep_cell hR y3
            simp [go_sem, h59, l0, l1, y0, y1, y2, y3, hd1]
            exact hK.out _ _ (Below.refl _ _) rfl
          · intro A wx hR hout hdep K hK
            have h1 : A.tmps[1]?.getD undef = .int .u32 (first : Int) := hout 1 (by kernel_rfl)
            refine if_yes (by kernel_rfl) ?_
            simp [go_sem, h1, hd1]
            exact hK.out _ _ (Below.refl _ _) rfl
          · intro A wx hR hout hdep K hK
            have h60 : A.tmps[60]?.getD undef = .int .u32 (p : Int) := hdep 60 (by kernel_rfl)
            have h61 : A.tmps[61]?.getD undef = .int .u32 (first : Int) := hdep 61 (by kernel_rfl)
            refine if_yes (by kernel_rfl) ?_
            simp [go_sem, h60, h61, hd1]
            exact hK.out _ _ (Below.refl _ _) rfl
          · intro A wx hR hout hdep K hK
            have h62 : A.tmps[62]?.getD undef = .bool true := hdep 62 (by kernel_rfl)
            refine if_yes (by kernel_rfl) ?_
            simp [go_sem, h62, hd1]
            exact hK.out _ _ (Below.refl _ _) rfl
          · intro A wx hR hout hdep K hK
            have h16 : A.tmps[16]?.getD undef = .pointer (some ⟨wr.heap.size, 0, none⟩) := hout 16 (by kernel_rfl)
            have h63 : A.tmps[63]?.getD undef = .bool true := hdep 63 (by kernel_rfl)
            refine if_not (by rw [wanted_is (j := 4) (b := false) (by kernel_rfl) (by kernel_rfl) h63]; decide) ?_
            exact hK.out _ _ (Below.refl _ _) trivial
          · intro A wx hR hout hdep K hK
            have h63 : A.tmps[63]?.getD undef = .bool true := hdep 63 (by kernel_rfl)
            refine if_not (by rw [wanted_is (j := 4) (b := false) (by kernel_rfl) (by kernel_rfl) h63]; decide) ?_
            exact hK.out _ _ (Below.refl _ _) trivial
          · intro A wx hR hout hdep K hK
            have h1 : A.tmps[1]?.getD undef = .int .u32 (first : Int) := hout 1 (by kernel_rfl)
            have h63 : A.tmps[63]?.getD undef = .bool true := hdep 63 (by kernel_rfl)
            refine if_not (by rw [wanted_is (j := 4) (b := false) (by kernel_rfl) (by kernel_rfl) h63]; decide) ?_
            exact hK.out _ _ (Below.refl _ _) trivial
          · intro A wx hR hout hdep K hK
            have h63 : A.tmps[63]?.getD undef = .bool true := hdep 63 (by kernel_rfl)
            refine if_not (by rw [wanted_is (j := 4) (b := false) (by kernel_rfl) (by kernel_rfl) h63]; decide) ?_
            exact hK.out _ _ (Below.refl _ _) trivial
          · intro A wx hR hout hdep K hK
            have h2 : A.tmps[2]?.getD undef = .int .u32 (n : Int) := hout 2 (by kernel_rfl)
            have h63 : A.tmps[63]?.getD undef = .bool true := hdep 63 (by kernel_rfl)
            refine if_not (by rw [wanted_is (j := 4) (b := false) (by kernel_rfl) (by kernel_rfl) h63]; decide) ?_
            exact hK.out _ _ (Below.refl _ _) trivial
          · intro A wx hR hout hdep K hK
            have h63 : A.tmps[63]?.getD undef = .bool true := hdep 63 (by kernel_rfl)
            refine if_not (by rw [wanted_is (j := 4) (b := false) (by kernel_rfl) (by kernel_rfl) h63]; decide) ?_
            exact hK.out _ _ (Below.refl _ _) trivial
          · intro A wx hR hout hdep K hK
            have h63 : A.tmps[63]?.getD undef = .bool true := hdep 63 (by kernel_rfl)
            refine if_yes (by kernel_rfl) ?_
            simp [go_sem, h63, hd1]
            exact hK.out _ _ (Below.refl _ _) rfl
          · intro A wx hR hout hdep K hK
            have h70 : A.tmps[70]?.getD undef = .bool true := hdep 70 (by kernel_rfl)
            refine if_yes (by kernel_rfl) ?_
            simp [go_sem, h70, hd1]
            exact hK.out _ _ (Below.refl _ _) rfl
          · intro A wx hR hout hdep K hK
            have h13 : A.tmps[13]?.getD undef = .pointer (some ⟨w2.heap.size, 0, none⟩) := hout 13 (by kernel_rfl)
            have h71 : A.tmps[71]?.getD undef = .bool true := hdep 71 (by kernel_rfl)
            refine if_yes ((wanted_is (j := 12) (b := true) (by kernel_rfl) (by kernel_rfl) h71).trans rfl) ?_
            have l0 := keep_cell hR l0
            have l1 := keep_cell hR l1
            have y0 := keep_cell hR y0
            have y1 := keep_cell hR y1
            have y2 := keep_cell hR y2
            have y3 := keep_cell hR y3
            simp [go_sem, h13, l0, l1, y0, y1, y2, y3, hd1]
            exact hK.out _ _ (Below.refl _ _) rfl
          · intro A wx hR hout hdep K hK
            have h16 : A.tmps[16]?.getD undef = .pointer (some ⟨wr.heap.size, 0, none⟩) := hout 16 (by kernel_rfl)
            have h71 : A.tmps[71]?.getD undef = .bool true := hdep 71 (by kernel_rfl)
            refine if_yes ((wanted_is (j := 12) (b := true) (by kernel_rfl) (by kernel_rfl) h71).trans rfl) ?_
            simp [go_sem, h16, hd1]
            exact hK.out _ _ (Below.refl _ _) rfl
          · intro A wx hR hout hdep K hK
            have h73 : A.tmps[73]?.getD undef = .pointer (some ⟨wr.heap.size, 0, none⟩) := hdep 73 (by kernel_rfl)
            have h71 : A.tmps[71]?.getD undef = .bool true := hdep 71 (by kernel_rfl)
            refine if_yes ((wanted_is (j := 12) (b := true) (by kernel_rfl) (by kernel_rfl) h71).trans rfl) ?_
            have l0 := keep_cell hR l0
            have l1 := keep_cell hR l1
            have y0 := keep_cell hR y0
            have y1 := keep_cell hR y1
            have y2 := keep_cell hR y2
            have y3 := keep_cell hR y3
            simp [go_sem, h73, l0, l1, y0, y1, y2, y3, hd1]
            exact hK.out _ _ (Below.refl _ _) rfl
          · intro A wx hR hout hdep K hK
            have h72 : A.tmps[72]?.getD undef = .agg #[.slice am' nm' pm', .slice ac' nc' pc', .int .u64 (bs : Int), .slice ap' np' pp'] := hdep 72 (by kernel_rfl)
            have h74 : A.tmps[74]?.getD undef = .int .u32 (p : Int) := hdep 74 (by kernel_rfl)
            have h71 : A.tmps[71]?.getD undef = .bool true := hdep 71 (by kernel_rfl)
            refine if_yes ((wanted_is (j := 12) (b := true) (by kernel_rfl) (by kernel_rfl) h71).trans rfl) ?_
            simp [go_sem, h72, h74, hd1]
            refine (KP.out p _ (below_tr (below_tr hbr hb5) hR)).mono ?_
            rintro e wG ⟨rfl, hbG⟩
            rw [hpr]
            exact hK.out _ _ hbG rfl
          · intro A wx hR hout hdep K hK
            have h16 : A.tmps[16]?.getD undef = .pointer (some ⟨wr.heap.size, 0, none⟩) := hout 16 (by kernel_rfl)
            have h71 : A.tmps[71]?.getD undef = .bool true := hdep 71 (by kernel_rfl)
            refine if_yes ((wanted_is (j := 12) (b := true) (by kernel_rfl) (by kernel_rfl) h71).trans rfl) ?_
            simp [go_sem, h16, hd1]
            exact hK.out _ _ (Below.refl _ _) rfl
          · intro A wx hR hout hdep K hK
            have h76 : A.tmps[76]?.getD undef = .pointer (some ⟨wr.heap.size, 1, none⟩) := hdep 76 (by kernel_rfl)
            have h71 : A.tmps[71]?.getD undef = .bool true := hdep 71 (by kernel_rfl)
            refine if_yes ((wanted_is (j := 12) (b := true) (by kernel_rfl) (by kernel_rfl) h71).trans rfl) ?_
            have l0 := keep_cell hR l0
            have l1 := keep_cell hR l1
            have y0 := keep_cell hR y0
            have y1 := keep_cell hR y1
            have y2 := keep_cell hR y2
            have y3 := keep_cell hR y3
            simp [go_sem, h76, l0, l1, y0, y1, y2, y3, hd1]
            exact hK.out _ _ (Below.refl _ _) rfl
          · intro A wx hR hout hdep K hK
            have h75 : A.tmps[75]?.getD undef = .int .i64 r := hdep 75 (by kernel_rfl)
            have h77 : A.tmps[77]?.getD undef = .int .i64 r := hdep 77 (by kernel_rfl)
            have h71 : A.tmps[71]?.getD undef = .bool true := hdep 71 (by kernel_rfl)
            refine if_yes ((wanted_is (j := 12) (b := true) (by kernel_rfl) (by kernel_rfl) h71).trans rfl) ?_
            simp [go_sem, h75, h77, hd1]
            exact hK.out _ _ (Below.refl _ _) rfl
          · intro A wx hR hout hdep K hK
            have h71 : A.tmps[71]?.getD undef = .bool true := hdep 71 (by kernel_rfl)
            have h78 : A.tmps[78]?.getD undef = .bool false := hdep 78 (by kernel_rfl)
            refine if_yes (by kernel_rfl) ?_
            simp [go_sem, h71, h78, hd1]
            exact hK.out _ _ (Below.refl _ _) rfl

          simp only [putSl, Act.put, List.setIfInBounds_toArray, List.set_cons_zero, List.set_cons_succ]
          have hz : f 79 = .bool false := hf 79 (by kernel_rfl)
          rw [hz]
          have hbz := below_tr (below_tr hbr hb5) hR
          clear hf hz
          go_wp2
          go_roundw
          case rel => exact ⟨k + 1, by omega, by go_num, hbz⟩
          case measure => simp [intOf]; omega
        · obtain ⟨q, hq⟩ : ∃ q, q = p - first := ⟨_, rfl⟩
          have x1 : IntKind.u32.wrap ((p : Int) - (first : Int)) = (q : Int) := by rw [IntKind.wrap_u32]; omega
          have x2 : ((p : Int) - (first : Int)) % 4294967296 = (q : Int) := by omega
          have hd1 : ¬ p < first := by omega
          by_cases hnq : n ≤ q
          · have hd2 : n ≤ q := hnq
            have hpr := hpr (by omega)
            clear hpf hq
            go_wp2
            refine wp_region_slots (R := Ext) [⟨59, fun v _ => v = .pointer (some ⟨wr.heap.size, 0, none⟩), fun _ _ _ _ h => h⟩, ⟨60, fun v _ => v = .int .u32 (p : Int), fun _ _ _ _ h => h⟩, ⟨61, fun v _ => v = .int .u32 (first : Int), fun _ _ _ _ h => h⟩, ⟨62, fun v _ => v = .bool false, fun _ _ _ _ h => h⟩, ⟨63, fun v _ => v = .bool false, fun _ _ _ _ h => h⟩, ⟨64, fun v _ => v = .pointer (some ⟨wr.heap.size, 0, none⟩), fun _ _ _ _ h => h⟩, ⟨65, fun v _ => v = .int .u32 (p : Int), fun _ _ _ _ h => h⟩, ⟨66, fun v _ => v = .int .u32 (first : Int), fun _ _ _ _ h => h⟩, ⟨67, fun v _ => v = .int .u32 (q : Int), fun _ _ _ _ h => h⟩, ⟨68, fun v _ => v = .int .u32 (n : Int), fun _ _ _ _ h => h⟩, ⟨69, fun v _ => v = .bool true, fun _ _ _ _ h => h⟩, ⟨70, fun v _ => v = .bool true, fun _ _ _ _ h => h⟩, ⟨71, fun v _ => v = .bool true, fun _ _ _ _ h => h⟩, ⟨72, fun v _ => v = .agg #[.slice am' nm' pm', .slice ac' nc' pc', .int .u64 (bs : Int), .slice ap' np' pp'], fun _ _ _ _ h => h⟩, ⟨73, fun v _ => v = .pointer (some ⟨wr.heap.size, 0, none⟩), fun _ _ _ _ h => h⟩, ⟨74, fun v _ => v = .int .u32 (p : Int), fun _ _ _ _ h => h⟩, ⟨75, fun v _ => v = .int .i64 r, fun _ _ _ _ h => h⟩, ⟨76, fun v _ => v = .pointer (some ⟨wr.heap.size, 1, none⟩), fun _ _ _ _ h => h⟩, ⟨77, fun v _ => v = .int .i64 r, fun _ _ _ _ h => h⟩, ⟨78, fun v _ => v = .bool false, fun _ _ _ _ h => h⟩, ⟨79, fun v _ => v = .bool false, fun _ _ _ _ h => h⟩] _ (by kernel_rfl) rfl (by kernel_rfl) (Below.drew (Below.refl _ _)) (fun _ _ _ h1 h2 => below_tr h1 h2) (fun QQ => ⟨?_, ?_, ?_, ?_, ?_, ?_, ?_, ?_, ?_, ?_, ?_, ?_, ?_, ?_, ?_, ?_, ?_, ?_, ?_, ?_, ?_, trivial⟩) (fun f wy hR hf => ?_)
            · intro A wx hR hout hdep K hK
              have h16 : A.tmps[16]?.getD undef = .pointer (some ⟨wr.heap.size, 0, none⟩) := hout 16 (by kernel_rfl)
              refine if_yes (by kernel_rfl) ?_
              simp [go_sem, h16, hd1, hd2, x1, x2]
              exact hK.out _ _ (Below.refl _ _) rfl
            · intro A wx hR hout hdep K hK
              have h59 : A.tmps[59]?.getD undef = .pointer (some ⟨wr.heap.size, 0, none⟩) := hdep 59 (by kernel_rfl)
              refine if_yes (by kernel_rfl) ?_
              have l0 := keep_cell hR l0
              have l1 := keep_cell hR l1
              have y0 := keep_cell hR y0
              have y1 := keep_cell hR y1
              have y2 := keep_cell hR y2
              have y3 := keep_cell hR y3
              simp [go_sem, h59, l0, l1, y0, y1, y2, y3, hd1, hd2, x1, x2]
              exact hK.out _ _ (Below.refl _ _) rfl
            · intro A wx hR hout hdep K hK
              have h1 : A.tmps[1]?.getD undef = .int .u32 (first : Int) := hout 1 (by kernel_rfl)
              refine if_yes (by kernel_rfl) ?_
              simp [go_sem, h1, hd1, hd2, x1, x2]
              exact hK.out _ _ (Below.refl _ _) rfl
            · intro A wx hR hout hdep K hK
              have h60 : A.tmps[60]?.getD undef = .int .u32 (p : Int) := hdep 60 (by kernel_rfl)
              have h61 : A.tmps[61]?.getD undef = .int .u32 (first : Int) := hdep 61 (by kernel_rfl)
              refine if_yes (by kernel_rfl) ?_
              simp [go_sem, h60, h61, hd1, hd2, x1, x2]
              exact hK.out _ _ (Below.refl _ _) rfl
            · intro A wx hR hout hdep K hK
              have h62 : A.tmps[62]?.getD undef = .bool false := hdep 62 (by kernel_rfl)
              refine if_yes (by kernel_rfl) ?_
              simp [go_sem, h62, hd1, hd2, x1, x2]
              exact hK.out _ _ (Below.refl _ _) rfl
            · intro A wx hR hout hdep K hK
              have h16 : A.tmps[16]?.getD undef = .pointer (some ⟨wr.heap.size, 0, none⟩) := hout 16 (by kernel_rfl)
              have h63 : A.tmps[63]?.getD undef = .bool false := hdep 63 (by kernel_rfl)
              refine if_yes ((wanted_is (j := 4) (b := false) (by kernel_rfl) (by kernel_rfl) h63).trans rfl) ?_
              simp [go_sem, h16, hd1, hd2, x1, x2]
              exact hK.out _ _ (Below.refl _ _) rfl
            · intro A wx hR hout hdep K hK
              have h64 : A.tmps[64]?.getD undef = .pointer (some ⟨wr.heap.size, 0, none⟩) := hdep 64 (by kernel_rfl)
              have h63 : A.tmps[63]?.getD undef = .bool false := hdep 63 (by kernel_rfl)
              refine if_yes ((wanted_is (j := 4) (b := false) (by kernel_rfl) (by kernel_rfl) h63).trans rfl) ?_
              have l0 := keep_cell hR l0
              have l1 := keep_cell hR l1
              have y0 := keep_cell hR y0
              have y1 := keep_cell hR y1
              have y2 := keep_cell hR y2
              have y3 := keep_cell hR y3
              simp [go_sem, h64, l0, l1, y0, y1, y2, y3, hd1, hd2, x1, x2]
              exact hK.out _ _ (Below.refl _ _) rfl
            · intro A wx hR hout hdep K hK
              have h1 : A.tmps[1]?.getD undef = .int .u32 (first : Int) := hout 1 (by kernel_rfl)
              have h63 : A.tmps[63]?.getD undef = .bool false := hdep 63 (by kernel_rfl)
              refine if_yes ((wanted_is (j := 4) (b := false) (by kernel_rfl) (by kernel_rfl) h63).trans rfl) ?_
              simp [go_sem, h1, hd1, hd2, x1, x2]
              exact hK.out _ _ (Below.refl _ _) rfl
            · intro A wx hR hout hdep K hK
              have h65 : A.tmps[65]?.getD undef = .int .u32 (p : Int) := hdep 65 (by kernel_rfl)
              have h66 : A.tmps[66]?.getD undef = .int .u32 (first : Int) := hdep 66 (by kernel_rfl)
              have h63 : A.tmps[63]?.getD undef = .bool false := hdep 63 (by kernel_rfl)
              refine if_yes ((wanted_is (j := 4) (b := false) (by kernel_rfl) (by kernel_rfl) h63).trans rfl) ?_
              simp [go_sem, h65, h66, hd1, hd2, x1, x2]
              exact hK.out _ _ (Below.refl _ _) rfl
            · intro A wx hR hout hdep K hK
              have h2 : A.tmps[2]?.getD undef = .int .u32 (n : Int) := hout 2 (by kernel_rfl)
              have h63 : A.tmps[63]?.getD undef = .bool false := hdep 63 (by kernel_rfl)
              refine if_yes ((wanted_is (j := 4) (b := false) (by kernel_rfl) (by kernel_rfl) h63).trans rfl) ?_
              simp [go_sem, h2, hd1, hd2, x1, x2]
              exact hK.out _ _ (Below.refl _ _) rfl
            · intro A wx hR hout hdep K hK
              have h67 : A.tmps[67]?.getD undef = .int .u32 (q : Int) := hdep 67 (by kernel_rfl)
              have h68 : A.tmps[68]?.getD undef = .int .u32 (n : Int) := hdep 68 (by kernel_rfl)
              have h63 : A.tmps[63]?.getD undef = .bool false := hdep 63 (by kernel_rfl)
              refine if_yes ((wanted_is (j := 4) (b := false) (by kernel_rfl) (by kernel_rfl) h63).trans rfl) ?_
              simp [go_sem, h67, h68, hd1, hd2, x1, x2]
              exact hK.out _ _ (Below.refl _ _) rfl
            · intro A wx hR hout hdep K hK
              have h63 : A.tmps[63]?.getD undef = .bool false := hdep 63 (by kernel_rfl)
              have h69 : A.tmps[69]?.getD undef = .bool true := hdep 69 (by kernel_rfl)
              refine if_yes (by kernel_rfl) ?_
              simp [go_sem, h63, h69, hd1, hd2, x1, x2]
              exact hK.out _ _ (Below.refl _ _) rfl
            · intro A wx hR hout hdep K hK
              have h70 : A.tmps[70]?.getD undef = .bool true := hdep 70 (by kernel_rfl)
              refine if_yes (by kernel_rfl) ?_
              simp [go_sem, h70, hd1, hd2, x1, x2]
              exact hK.out _ _ (Below.refl _ _) rfl
            · intro A wx hR hout hdep K hK
              have h13 : A.tmps[13]?.getD undef = .pointer (some ⟨w2.heap.size, 0, none⟩) := hout 13 (by kernel_rfl)
              have h71 : A.tmps[71]?.getD undef = .bool true := hdep 71 (by kernel_rfl)
              refine if_yes ((wanted_is (j := 12) (b := true) (by kernel_rfl) (by kernel_rfl) h71).trans rfl) ?_
              have l0 := keep_cell hR l0
              have l1 := keep_cell hR l1
              have y0 := keep_cell hR y0
              have y1 := keep_cell hR y1
              have y2 := keep_cell hR y2
              have y3 := keep_cell hR y3
              simp [go_sem, h13, l0, l1, y0, y1, y2, y3, hd1, hd2, x1, x2]
              exact hK.out _ _ (Below.refl _ _) rfl
            · intro A wx hR hout hdep K hK
              have h16 : A.tmps[16]?.getD undef = .pointer (some ⟨wr.heap.size, 0, none⟩) := hout 16 (by kernel_rfl)
              have h71 : A.tmps[71]?.getD undef = .bool true := hdep 71 (by kernel_rfl)
              refine if_yes ((wanted_is (j := 12) (b := true) (by kernel_rfl) (by kernel_rfl) h71).trans rfl) ?_
              simp [go_sem, h16, hd1, hd2, x1, x2]
              exact hK.out _ _ (Below.refl _ _) rfl
            · intro A wx hR hout hdep K hK
              have h73 : A.tmps[73]?.getD undef = .pointer (some ⟨wr.heap.size, 0, none⟩) := hdep 73 (by kernel_rfl)
              have h71 : A.tmps[71]?.getD undef = .bool true := hdep 71 (by kernel_rfl)
              refine if_yes ((wanted_is (j := 12) (b := true) (by kernel_rfl) (by kernel_rfl) h71).trans rfl) ?_
              have l0 := keep_cell hR l0
              have l1 := keep_cell hR l1
              have y0 := keep_cell hR y0
              have y1 := keep_cell hR y1
              have y2 := keep_cell hR y2
              have y3 := keep_cell hR y3
              simp [go_sem, h73, l0, l1, y0, y1, y2, y3, hd1, hd2, x1, x2]
              exact hK.out _ _ (Below.refl _ _) rfl
            · intro A wx hR hout hdep K hK
              have h72 : A.tmps[72]?.getD undef = .agg #[.slice am' nm' pm', .slice ac' nc' pc', .int .u64 (bs : Int), .slice ap' np' pp'] := hdep 72 (by kernel_rfl)
              have h74 : A.tmps[74]?.getD undef = .int .u32 (p : Int) := hdep 74 (by kernel_rfl)
              have h71 : A.tmps[71]?.getD undef = .bool true := hdep 71 (by kernel_rfl)
              refine if_yes ((wanted_is (j := 12) (b := true) (by kernel_rfl) (by kernel_rfl) h71).trans rfl) ?_
              simp [go_sem, h72, h74, hd1, hd2, x1, x2]
              refine (KP.out p _ (below_tr (below_tr hbr hb5) hR)).mono ?_
              rintro e wG ⟨rfl, hbG⟩
              rw [hpr]
              exact hK.out _ _ hbG rfl
            · intro A wx hR hout hdep K hK
              have h16 : A.tmps[16]?.getD undef = .pointer (some ⟨wr.heap.size, 0, none⟩) := hout 16 (by kernel_rfl)
              have h71 : A.tmps[71]?.getD undef = .bool true := hdep 71 (by kernel_rfl)
              refine if_yes ((wanted_is (j := 12) (b := true) (by kernel_rfl) (by kernel_rfl) h71).trans rfl) ?_
              simp [go_sem, h16, hd1, hd2, x1, x2]
              exact hK.out _ _ (Below.refl _ _) rfl
            · intro A wx hR hout hdep K hK
              have h76 : A.tmps[76]?.getD undef = .pointer (some ⟨wr.heap.size, 1, none⟩) := hdep 76 (by kernel_rfl)
              have h71 : A.tmps[71]?.getD undef = .bool true := hdep 71 (by kernel_rfl)
              refine if_yes ((wanted_is (j := 12) (b := true) (by kernel_rfl) (by kernel_rfl) h71).trans rfl) ?_
              have l0 := keep_cell hR l0
              have l1 := keep_cell hR l1
              have y0 := keep_cell hR y0
              have y1 := keep_cell hR y1
              have y2 := keep_cell hR y2
              have y3 := keep_cell hR y3
              simp [go_sem, h76, l0, l1, y0, y1, y2, y3, hd1, hd2, x1, x2]
              exact hK.out _ _ (Below.refl _ _) rfl
            · intro A wx hR hout hdep K hK
              have h75 : A.tmps[75]?.getD undef = .int .i64 r := hdep 75 (by kernel_rfl)
              have h77 : A.tmps[77]?.getD undef = .int .i64 r := hdep 77 (by kernel_rfl)
              have h71 : A.tmps[71]?.getD undef = .bool true := hdep 71 (by kernel_rfl)
              refine if_yes ((wanted_is (j := 12) (b := true) (by kernel_rfl) (by kernel_rfl) h71).trans rfl) ?_
              simp [go_sem, h75, h77, hd1, hd2, x1, x2]
              exact hK.out _ _ (Below.refl _ _) rfl
            · intro A wx hR hout hdep K hK
              have h71 : A.tmps[71]?.getD undef = .bool true := hdep 71 (by kernel_rfl)
              have h78 : A.tmps[78]?.getD undef = .bool false := hdep 78 (by kernel_rfl)
              refine if_yes (by kernel_rfl) ?_
              simp [go_sem, h71, h78, hd1, hd2, x1, x2]
              exact hK.out _ _ (Below.refl _ _) rfl

            simp only [putSl, Act.put, List.setIfInBounds_toArray, List.set_cons_zero, List.set_cons_succ]
            have hz : f 79 = .bool false := hf 79 (by kernel_rfl)
            rw [hz]
            have hbz := below_tr (below_tr hbr hb5) hR
            clear hf hz
            go_wp2
            go_roundw
            case rel => exact ⟨k + 1, by omega, by go_num, hbz⟩
            case measure => simp [intOf]; omega
          · have hd2 : ¬ n ≤ q := hnq
            clear hpf hq hpr
            go_wp2
            refine wp_region_slots (R := Ext) [⟨59, fun v _ => v = .pointer (some ⟨wr.heap.size, 0, none⟩), fun _ _ _ _ h => h⟩, ⟨60, fun v _ => v = .int .u32 (p : Int), fun _ _ _ _ h => h⟩, ⟨61, fun v _ => v = .int .u32 (first : Int), fun _ _ _ _ h => h⟩, ⟨62, fun v _ => v = .bool false, fun _ _ _ _ h => h⟩, ⟨63, fun v _ => v = .bool false, fun _ _ _ _ h => h⟩, ⟨64, fun v _ => v = .pointer (some ⟨wr.heap.size, 0, none⟩), fun _ _ _ _ h => h⟩, ⟨65, fun v _ => v = .int .u32 (p : Int), fun _ _ _ _ h => h⟩, ⟨66, fun v _ => v = .int .u32 (first : Int), fun _ _ _ _ h => h⟩, ⟨67, fun v _ => v = .int .u32 (q : Int), fun _ _ _ _ h => h⟩, ⟨68, fun v _ => v = .int .u32 (n : Int), fun _ _ _ _ h => h⟩, ⟨69, fun v _ => v = .bool false, fun _ _ _ _ h => h⟩, ⟨70, fun v _ => v = .bool false, fun _ _ _ _ h => h⟩, ⟨71, fun v _ => v = .bool false, fun _ _ _ _ h => h⟩, ⟨79, fun v _ => v = .bool false, fun _ _ _ _ h => h⟩] _ (by kernel_rfl) rfl (by kernel_rfl) (Below.drew (Below.refl _ _)) (fun _ _ _ h1 h2 => below_tr h1 h2) (fun QQ => ⟨?_, ?_, ?_, ?_, ?_, ?_, ?_, ?_, ?_, ?_, ?_, ?_, ?_, ?_, ?_, ?_, ?_, ?_, ?_, ?_, ?_, trivial⟩) (fun f wy hR hf => ?_)
            · intro A wx hR hout hdep K hK
              have h16 : A.tmps[16]?.getD undef = .pointer (some ⟨wr.heap.size, 0, none⟩) := hout 16 (by kernel_rfl)
              refine if_yes (by kernel_rfl) ?_
              simp [go_sem, h16, hd1, hd2, x1, x2]
              exact hK.out _ _ (Below.refl _ _) rfl
            · intro A wx hR hout hdep K hK
              have h59 : A.tmps[59]?.getD undef = .pointer (some ⟨wr.heap.size, 0, none⟩) := hdep 59 (by kernel_rfl)
              refine if_yes (by kernel_rfl) ?_
              have l0 := keep_cell hR l0
              have l1 := keep_cell hR l1
              have y0 := keep_cell hR y0
              have y1 := keep_cell hR y1
              have y2 := keep_cell hR y2
              have y3 := keep_cell hR y3
              simp [go_sem, h59, l0, l1, y0, y1, y2, y3, hd1, hd2, x1, x2]
              exact hK.out _ _ (Below.refl _ _) rfl
            · intro A wx hR hout hdep K hK
              have h1 : A.tmps[1]?.getD undef = .int .u32 (first : Int) := hout 1 (by kernel_rfl)
              refine if_yes (by kernel_rfl) ?_
              simp [go_sem, h1, hd1, hd2, x1, x2]
              exact hK.out _ _ (Below.refl _ _) rfl
            · intro A wx hR hout hdep K hK
              have h60 : A.tmps[60]?.getD undef = .int .u32 (p : Int) := hdep 60 (by kernel_rfl)
              have h61 : A.tmps[61]?.getD undef = .int .u32 (first : Int) := hdep 61 (by kernel_rfl)
              refine if_yes (by kernel_rfl) ?_
              simp [go_sem, h60, h61, hd1, hd2, x1, x2]
              exact hK.out _ _ (Below.refl _ _) rfl
            · intro A wx hR hout hdep K hK
              have h62 : A.tmps[62]?.getD undef = .bool false := hdep 62 (by kernel_rfl)
              refine if_yes (by kernel_rfl) ?_
              simp [go_sem, h62, hd1, hd2, x1, x2]
              exact hK.out _ _ (Below.refl _ _) rfl
            · intro A wx hR hout hdep K hK
              have h16 : A.tmps[16]?.getD undef = .pointer (some ⟨wr.heap.size, 0, none⟩) := hout 16 (by kernel_rfl)
              have h63 : A.tmps[63]?.getD undef = .bool false := hdep 63 (by kernel_rfl)
              refine if_yes ((wanted_is (j := 4) (b := false) (by kernel_rfl) (by kernel_rfl) h63).trans rfl) ?_
              simp [go_sem, h16, hd1, hd2, x1, x2]
              exact hK.out _ _ (Below.refl _ _) rfl
            · intro A wx hR hout hdep K hK
              have h64 : A.tmps[64]?.getD undef = .pointer (some ⟨wr.heap.size, 0, none⟩) := hdep 64 (by kernel_rfl)
              have h63 : A.tmps[63]?.getD undef = .bool false := hdep 63 (by kernel_rfl)
              refine if_yes ((wanted_is (j := 4) (b := false) (by kernel_rfl) (by kernel_rfl) h63).trans rfl) ?_
              have l0 := keep_cell hR l0
              have l1 := keep_cell hR l1
              have y0 := keep_cell hR y0
              have y1 := keep_cell hR y1
              have y2 := keep_cell hR y2
              have y3 := keep_cell hR y3
              simp [go_sem, h64, l0, l1, y0, y1, y2, y3, hd1, hd2, x1, x2]
              exact hK.out _ _ (Below.refl _ _) rfl
            · intro A wx hR hout hdep K hK
              have h1 : A.tmps[1]?.getD undef = .int .u32 (first : Int) := hout 1 (by kernel_rfl)
              have h63 : A.tmps[63]?.getD undef = .bool false := hdep 63 (by kernel_rfl)
              refine if_yes ((wanted_is (j := 4) (b := false) (by kernel_rfl) (by kernel_rfl) h63).trans rfl) ?_
              simp [go_sem, h1, hd1, hd2, x1, x2]
              exact hK.out _ _ (Below.refl _ _) rfl
            · intro A wx hR hout hdep K hK
              have h65 : A.tmps[65]?.getD undef = .int .u32 (p : Int) := hdep 65 (by kernel_rfl)
              have h66 : A.tmps[66]?.getD undef = .int .u32 (first : Int) := hdep 66 (by kernel_rfl)
              have h63 : A.tmps[63]?.getD undef = .bool false := hdep 63 (by kernel_rfl)
              refine if_yes ((wanted_is (j := 4) (b := false) (by kernel_rfl) (by kernel_rfl) h63).trans rfl) ?_
              simp [go_sem, h65, h66, hd1, hd2, x1, x2]
              exact hK.out _ _ (Below.refl _ _) rfl
            · intro A wx hR hout hdep K hK
              have h2 : A.tmps[2]?.getD undef = .int .u32 (n : Int) := hout 2 (by kernel_rfl)
              have h63 : A.tmps[63]?.getD undef = .bool false := hdep 63 (by kernel_rfl)
              refine if_yes ((wanted_is (j := 4) (b := false) (by kernel_rfl) (by kernel_rfl) h63).trans rfl) ?_
              simp [go_sem, h2, hd1, hd2, x1, x2]
              exact hK.out _ _ (Below.refl _ _) rfl
            · intro A wx hR hout hdep K hK
              have h67 : A.tmps[67]?.getD undef = .int .u32 (q : Int) := hdep 67 (by kernel_rfl)
              have h68 : A.tmps[68]?.getD undef = .int .u32 (n : Int) := hdep 68 (by kernel_rfl)
              have h63 : A.tmps[63]?.getD undef = .bool false := hdep 63 (by kernel_rfl)
              refine if_yes ((wanted_is (j := 4) (b := false) (by kernel_rfl) (by kernel_rfl) h63).trans rfl) ?_
              simp [go_sem, h67, h68, hd1, hd2, x1, x2]
              exact hK.out _ _ (Below.refl _ _) rfl
            · intro A wx hR hout hdep K hK
              have h63 : A.tmps[63]?.getD undef = .bool false := hdep 63 (by kernel_rfl)
              have h69 : A.tmps[69]?.getD undef = .bool false := hdep 69 (by kernel_rfl)
              refine if_yes (by kernel_rfl) ?_
              simp [go_sem, h63, h69, hd1, hd2, x1, x2]
              exact hK.out _ _ (Below.refl _ _) rfl
            · intro A wx hR hout hdep K hK
              have h70 : A.tmps[70]?.getD undef = .bool false := hdep 70 (by kernel_rfl)
              refine if_yes (by kernel_rfl) ?_
              simp [go_sem, h70, hd1, hd2, x1, x2]
              exact hK.out _ _ (Below.refl _ _) rfl
            · intro A wx hR hout hdep K hK
              have h13 : A.tmps[13]?.getD undef = .pointer (some ⟨w2.heap.size, 0, none⟩) := hout 13 (by kernel_rfl)
              have h71 : A.tmps[71]?.getD undef = .bool false := hdep 71 (by kernel_rfl)
              refine if_not (by rw [wanted_is (j := 12) (b := true) (by kernel_rfl) (by kernel_rfl) h71]; decide) ?_
              exact hK.out _ _ (Below.refl _ _) trivial
            · intro A wx hR hout hdep K hK
              have h16 : A.tmps[16]?.getD undef = .pointer (some ⟨wr.heap.size, 0, none⟩) := hout 16 (by kernel_rfl)
              have h71 : A.tmps[71]?.getD undef = .bool false := hdep 71 (by kernel_rfl)
              refine if_not (by rw [wanted_is (j := 12) (b := true) (by kernel_rfl) (by kernel_rfl) h71]; decide) ?_
              exact hK.out _ _ (Below.refl _ _) trivial
            · intro A wx hR hout hdep K hK
              have h71 : A.tmps[71]?.getD undef = .bool false := hdep 71 (by kernel_rfl)
              refine if_not (by rw [wanted_is (j := 12) (b := true) (by kernel_rfl) (by kernel_rfl) h71]; decide) ?_
              exact hK.out _ _ (Below.refl _ _) trivial
            · intro A wx hR hout hdep K hK
              have h71 : A.tmps[71]?.getD undef = .bool false := hdep 71 (by kernel_rfl)
              refine if_not (by rw [wanted_is (j := 12) (b := true) (by kernel_rfl) (by kernel_rfl) h71]; decide) ?_
              exact hK.out _ _ (Below.refl _ _) trivial
            · intro A wx hR hout hdep K hK
              have h16 : A.tmps[16]?.getD undef = .pointer (some ⟨wr.heap.size, 0, none⟩) := hout 16 (by kernel_rfl)
              have h71 : A.tmps[71]?.getD undef = .bool false := hdep 71 (by kernel_rfl)
              refine if_not (by rw [wanted_is (j := 12) (b := true) (by kernel_rfl) (by kernel_rfl) h71]; decide) ?_
              exact hK.out _ _ (Below.refl _ _) trivial
            · intro A wx hR hout hdep K hK
              have h71 : A.tmps[71]?.getD undef = .bool false := hdep 71 (by kernel_rfl)
              refine if_not (by rw [wanted_is (j := 12) (b := true) (by kernel_rfl) (by kernel_rfl) h71]; decide) ?_
              exact hK.out _ _ (Below.refl _ _) trivial
            · intro A wx hR hout hdep K hK
              have h71 : A.tmps[71]?.getD undef = .bool false := hdep 71 (by kernel_rfl)
              refine if_not (by rw [wanted_is (j := 12) (b := true) (by kernel_rfl) (by kernel_rfl) h71]; decide) ?_
              exact hK.out _ _ (Below.refl _ _) trivial
            · intro A wx hR hout hdep K hK
              have h71 : A.tmps[71]?.getD undef = .bool false := hdep 71 (by kernel_rfl)
              refine if_yes (by kernel_rfl) ?_
              simp [go_sem, h71, hd1, hd2, x1, x2]
              exact hK.out _ _ (Below.refl _ _) rfl

            simp only [putSl, Act.put, List.setIfInBounds_toArray, List.set_cons_zero, List.set_cons_succ]
            have hz : f 79 = .bool false := hf 79 (by kernel_rfl)
            rw [hz]
            have hbz := below_tr (below_tr hbr hb5) hR
            clear hf hz
            go_wp2
            go_roundw
            case rel => exact ⟨k + 1, by omega, by go_num, hbz⟩
            case measure => simp [intOf]; omega
      · obtain rfl : k = ps.length := by omega
        have e0 := keep_cell hbr e0
        have e1 := keep_cell hbr e1
        have e2 := keep_cell hbr e2
        have e3 := keep_cell hbr e3
        have y0 := keep_cell hbr y0
        have y1 := keep_cell hbr y1
        have y2 := keep_cell hbr y2
        have y3 := keep_cell hbr y3
        have hbw := below_tr hbw hbr
        have hs1 : Hid (SlG wr (.slice am ms.length pm) (.slice ac cs.length pc) (.slice ap ps.length pp) ms cs ps) := hsw.out.keep hbr
        have hbR : Hid (Below W9.heap.size W9 wr) := hbr
        obtain ⟨pg, hpg⟩ : ∃ pg, pg = a / 4096 := ⟨_, rfl⟩
        have z1 : IntKind.u32.wrap ((a : Int) / 4096) = (pg : Int) := by rw [IntKind.wrap_u32]; omega
        have z2 : (a : Int) / 4096 = (pg : Int) := by omega
        have z3 : IntKind.u32.wrap (pg : Int) = (pg : Int) := by rw [IntKind.wrap_u32]; omega
        have hPR := HPR.out pg
        have hPK := HPK.out a ha
        rw [← hpg] at hPK
        have hle := HQ.out.le
        clear hbr HX HPR HPK hkl hpg
        go_wp2_with fail
        refine (rplace17 _ _ _ bs a hle ha wr ⟨_, _, _, rfl⟩ ⟨_, _, _, rfl⟩ ⟨_, _, _, rfl⟩).mono ?_
        rintro e wp ⟨rfl, hbp⟩
        have e0 := keep_cell hbp e0
        have e1 := keep_cell hbp e1
        have e2 := keep_cell hbp e2
        have e3 := keep_cell hbp e3
        have y0 := keep_cell hbp y0
        have y1 := keep_cell hbp y1
        have y2 := keep_cell hbp y2
        have y3 := keep_cell hbp y3
        have hs1 : Hid (SlG wp (.slice am ms.length pm) (.slice ac cs.length pc) (.slice ap ps.length pp) ms cs ps) := hs1.out.keep hbp
        have hbW := below_tr hbR.out hbp
        have hbw := below_tr hbw hbp
        have hbsa : bs + a < 18446744073709551616 := by omega
        clear hbR hbp
        obtain ⟨at_, hat⟩ : ∃ t, t = bs + a := ⟨_, rfl⟩
        rw [← hat] at hPK hbsa ⊢
        clear hat
        by_cases hin : first ≤ pg ∧ pg < first + n
        · rw [if_pos hin] at hPR hPK
          obtain ⟨q, hq⟩ : ∃ q, q = pg - first := ⟨_, rfl⟩
          have x1 : IntKind.u32.wrap ((pg : Int) - (first : Int)) = (q : Int) := by rw [IntKind.wrap_u32]; omega
          have x2 : ((pg : Int) - (first : Int)) % 4294967296 = (q : Int) := by omega
          have hd1 : first ≤ pg := by omega
          have hd2 : q < n := by omega
          clear hin hq
          go_wp2_with fail
          refine (KP.out pg _ hbW).mono ?_
          rintro e w11 ⟨rfl, hb11⟩
          rw [hPR]
          have y0 := keep_cell hb11 y0
          have y1 := keep_cell hb11 y1
          have y2 := keep_cell hb11 y2
          have y3 := keep_cell hb11 y3
          have hbW := below_tr hbW hb11
          have hbw := below_tr hbw hb11
          go_wp2_with fail
          refine (KE.out at_ _ hbsa hbW).mono ?_
          rintro e w12 ⟨rfl, hb12⟩
          rw [hPK]
          have hbw := below_tr hbw hb12
          go_wp2_with fail
          refine (awake9 w12).mono ?_
          rintro e wz ⟨rfl, hbz⟩
          go_wp2
          go_ret
          exact ⟨rfl, (by (repeat (first | with_reducible assumption | with_reducible exact Below.refl _ _ | with_reducible refine Below.drew ?_ | with_reducible refine below_alloc ?_ _ | (with_reducible refine below_set ?_ ?_ _; rotate_left; focus (first | (simp; done) | (simp; omega))) | with_reducible refine below_tr ?_ (by with_reducible assumption))))⟩
        · rw [if_neg hin] at hPR hPK
          have hskip : True := trivial
          by_cases hpf : pg < first
          · have hd1 : ¬ first ≤ pg := by omega
            clear hin
            go_wp2
            refine wp_region_slots (R := Ext) [⟨124, fun v _ => v = .agg #[.slice am' nm' pm', .slice ac' nc' pc', .int .u64 (bs : Int), .slice ap' np' pp'], fun _ _ _ _ h => h⟩, ⟨125, fun v _ => v = .int .u32 (pg : Int), fun _ _ _ _ h => h⟩, ⟨126, fun v _ => v = .int .i64 (protN ps pg), fun _ _ _ _ h => h⟩, ⟨127, fun v _ => v = .agg #[.slice am ms.length pm, .slice ac cs.length pc, .int .u64 (bs : Int), .slice ap ps.length pp], fun _ _ _ _ h => h⟩, ⟨128, fun v _ => v = .int .u32 (pg : Int), fun _ _ _ _ h => h⟩, ⟨129, fun v _ => v = .int .i64 (protN ps pg), fun _ _ _ _ h => h⟩, ⟨130, fun v _ => v = .bool true, fun _ _ _ _ h => h⟩, ⟨131, fun v _ => v = .bool true, fun _ _ _ _ h => h⟩, ⟨132, fun v _ => v = .pointer (some ⟨w2.heap.size, 0, none⟩), fun _ _ _ _ h => h⟩, ⟨133, fun v _ => v = .agg #[.slice am' nm' pm', .slice ac' nc' pc'], fun _ _ _ _ h => h⟩, ⟨134, fun v _ => v = .int .u64 (at_ : Int), fun _ _ _ _ h => h⟩, ⟨135, fun v _ => v = .int .u8 ((peekN cs at_ : Nat) : Int), fun _ _ _ _ h => h⟩, ⟨136, fun v _ => v = .pointer (some ⟨w.heap.size, 0, none⟩), fun _ _ _ _ h => h⟩, ⟨137, fun v _ => v = .agg #[.slice am ms.length pm, .slice ac cs.length pc], fun _ _ _ _ h => h⟩, ⟨138, fun v _ => v = .int .u64 (at_ : Int), fun _ _ _ _ h => h⟩, ⟨139, fun v _ => v = .int .u8 ((peekN cs at_ : Nat) : Int), fun _ _ _ _ h => h⟩, ⟨140, fun v _ => v = .bool true, fun _ _ _ _ h => h⟩, ⟨141, fun v _ => v = .bool true, fun _ _ _ _ h => h⟩, ⟨142, fun v _ => v = .bool true, fun _ _ _ _ h => h⟩, ⟨143, fun v _ => v = .bool true, fun _ _ _ _ h => h⟩, ⟨144, fun v _ => v = .bool true, fun _ _ _ _ h => h⟩, ⟨12, fun v _ => v = .bool true, fun _ _ _ _ h => h⟩] _ (by kernel_rfl) rfl (by kernel_rfl) (Below.drew (Below.refl _ _)) (fun _ _ _ h1 h2 => below_tr h1 h2) (fun QQ => ⟨?_, ?_, ?_, ?_, ?_, ?_, ?_, ?_, ?_, ?_, ?_, ?_, ?_, ?_, ?_, ?_, ?_, ?_, ?_, ?_, ?_, ?_, trivial⟩) (fun f wy hR hf => ?_)
            · intro A wx hR hout hdep K hK
              have h13 : A.tmps[13]?.getD undef = .pointer (some ⟨w2.heap.size, 0, none⟩) := hout 13 (by kernel_rfl)
              refine if_yes (by kernel_rfl) ?_
              have e0 := keep_cell hR e0
              have e1 := keep_cell hR e1
              have e2 := keep_cell hR e2
              have e3 := keep_cell hR e3
              have y0 := keep_cell hR y0
              have y1 := keep_cell hR y1
              have y2 := keep_cell hR y2
              have y3 := keep_cell hR y3
              simp [go_sem, h13, e0, e1, e2, e3, y0, y1, y2, y3]
              exact hK.out _ _ (Below.refl _ _) rfl
            · intro A wx hR hout hdep K hK
              have h17 : A.tmps[17]?.getD undef = .int .u32 (pg : Int) := hout 17 (by kernel_rfl)
              refine if_yes (by kernel_rfl) ?_
              simp [go_sem, h17]
              exact hK.out _ _ (Below.refl _ _) rfl
            · intro A wx hR hout hdep K hK
              have h124 : A.tmps[124]?.getD undef = .agg #[.slice am' nm' pm', .slice ac' nc' pc', .int .u64 (bs : Int), .slice ap' np' pp'] := hdep 124 (by kernel_rfl)
              have h125 : A.tmps[125]?.getD undef = .int .u32 (pg : Int) := hdep 125 (by kernel_rfl)
              refine if_yes (by kernel_rfl) ?_
              simp [go_sem, h124, h125]
              refine (KP.out pg _ (below_tr hbW hR)).mono ?_
              rintro e wG ⟨rfl, hbG⟩
              rw [hPR]
              exact hK.out _ _ hbG rfl
            · intro A wx hR hout hdep K hK
              have h6 : A.tmps[6]?.getD undef = .pointer (some ⟨w.heap.size, 0, none⟩) := hout 6 (by kernel_rfl)
              refine if_yes (by kernel_rfl) ?_
              have e0 := keep_cell hR e0
              have e1 := keep_cell hR e1
              have e2 := keep_cell hR e2
              have e3 := keep_cell hR e3
              have y0 := keep_cell hR y0
              have y1 := keep_cell hR y1
              have y2 := keep_cell hR y2
              have y3 := keep_cell hR y3
              simp [go_sem, h6, e0, e1, e2, e3, y0, y1, y2, y3]
              exact hK.out _ _ (Below.refl _ _) rfl
            · intro A wx hR hout hdep K hK
              have h17 : A.tmps[17]?.getD undef = .int .u32 (pg : Int) := hout 17 (by kernel_rfl)
              refine if_yes (by kernel_rfl) ?_
              simp [go_sem, h17]
              exact hK.out _ _ (Below.refl _ _) rfl
            · intro A wx hR hout hdep K hK
              have h127 : A.tmps[127]?.getD undef = .agg #[.slice am ms.length pm, .slice ac cs.length pc, .int .u64 (bs : Int), .slice ap ps.length pp] := hdep 127 (by kernel_rfl)
              have h128 : A.tmps[128]?.getD undef = .int .u32 (pg : Int) := hdep 128 (by kernel_rfl)
              refine if_yes (by kernel_rfl) ?_
              simp [go_sem, h127, h128]
              refine (rprot15 _ _ _ bs pg ps _ ⟨_, _, _, rfl⟩ ⟨_, _, _, rfl⟩ (hs1.out.keep hR).2.2).mono ?_
              rintro e wG ⟨rfl, hbG⟩
              exact hK.out _ _ hbG rfl
            · intro A wx hR hout hdep K hK
              have h126 : A.tmps[126]?.getD undef = .int .i64 (protN ps pg) := hdep 126 (by kernel_rfl)
              have h129 : A.tmps[129]?.getD undef = .int .i64 (protN ps pg) := hdep 129 (by kernel_rfl)
              refine if_yes (by kernel_rfl) ?_
              simp [go_sem, h126, h129]
              exact hK.out _ _ (Below.refl _ _) rfl
            · intro A wx hR hout hdep K hK
              have h130 : A.tmps[130]?.getD undef = .bool true := hdep 130 (by kernel_rfl)
              refine if_yes (by kernel_rfl) ?_
              simp [go_sem, h130]
              exact hK.out _ _ (Below.refl _ _) rfl
            · intro A wx hR hout hdep K hK
              have h13 : A.tmps[13]?.getD undef = .pointer (some ⟨w2.heap.size, 0, none⟩) := hout 13 (by kernel_rfl)
              have h131 : A.tmps[131]?.getD undef = .bool true := hdep 131 (by kernel_rfl)
              refine if_yes ((wanted_is (j := 7) (b := true) (by kernel_rfl) (by kernel_rfl) h131).trans rfl) ?_
              simp [go_sem, h13]
              exact hK.out _ _ (Below.refl _ _) rfl
            · intro A wx hR hout hdep K hK
              have h132 : A.tmps[132]?.getD undef = .pointer (some ⟨w2.heap.size, 0, none⟩) := hdep 132 (by kernel_rfl)
              have h131 : A.tmps[131]?.getD undef = .bool true := hdep 131 (by kernel_rfl)
              refine if_yes ((wanted_is (j := 7) (b := true) (by kernel_rfl) (by kernel_rfl) h131).trans rfl) ?_
              have e0 := keep_cell hR e0
              have e1 := keep_cell hR e1
              have e2 := keep_cell hR e2
              have e3 := keep_cell hR e3
              have y0 := keep_cell hR y0
              have y1 := keep_cell hR y1
              have y2 := keep_cell hR y2
              have y3 := keep_cell hR y3
              simp [go_sem, h132, e0, e1, e2, e3, y0, y1, y2, y3]
              exact hK.out _ _ (Below.refl _ _) rfl
            · intro A wx hR hout hdep K hK
              have h18 : A.tmps[18]?.getD undef = .int .u64 (at_ : Int) := hout 18 (by kernel_rfl)
              have h131 : A.tmps[131]?.getD undef = .bool true := hdep 131 (by kernel_rfl)
              refine if_yes ((wanted_is (j := 7) (b := true) (by kernel_rfl) (by kernel_rfl) h131).trans rfl) ?_
              simp [go_sem, h18]
              exact hK.out _ _ (Below.refl _ _) rfl
            · intro A wx hR hout hdep K hK
              have h133 : A.tmps[133]?.getD undef = .agg #[.slice am' nm' pm', .slice ac' nc' pc'] := hdep 133 (by kernel_rfl)
              have h134 : A.tmps[134]?.getD undef = .int .u64 (at_ : Int) := hdep 134 (by kernel_rfl)
              have h131 : A.tmps[131]?.getD undef = .bool true := hdep 131 (by kernel_rfl)
              refine if_yes ((wanted_is (j := 7) (b := true) (by kernel_rfl) (by kernel_rfl) h131).trans rfl) ?_
              simp [go_sem, h133, h134]
              refine (KE.out at_ _ hbsa (below_tr hbW hR)).mono ?_
              rintro e wG ⟨rfl, hbG⟩
              rw [hPK]
              exact hK.out _ _ hbG rfl
            · intro A wx hR hout hdep K hK
              have h6 : A.tmps[6]?.getD undef = .pointer (some ⟨w.heap.size, 0, none⟩) := hout 6 (by kernel_rfl)
              have h131 : A.tmps[131]?.getD undef = .bool true := hdep 131 (by kernel_rfl)
              refine if_yes ((wanted_is (j := 7) (b := true) (by kernel_rfl) (by kernel_rfl) h131).trans rfl) ?_
              simp [go_sem, h6]
              exact hK.out _ _ (Below.refl _ _) rfl
            · intro A wx hR hout hdep K hK
              have h136 : A.tmps[136]?.getD undef = .pointer (some ⟨w.heap.size, 0, none⟩) := hdep 136 (by kernel_rfl)
              have h131 : A.tmps[131]?.getD undef = .bool true := hdep 131 (by kernel_rfl)
              refine if_yes ((wanted_is (j := 7) (b := true) (by kernel_rfl) (by kernel_rfl) h131).trans rfl) ?_
              have e0 := keep_cell hR e0
              have e1 := keep_cell hR e1
              have e2 := keep_cell hR e2
              have e3 := keep_cell hR e3
              have y0 := keep_cell hR y0
              have y1 := keep_cell hR y1
              have y2 := keep_cell hR y2
              have y3 := keep_cell hR y3
              simp [go_sem, h136, e0, e1, e2, e3, y0, y1, y2, y3]
              exact hK.out _ _ (Below.refl _ _) rfl
            · intro A wx hR hout hdep K hK
              have h18 : A.tmps[18]?.getD undef = .int .u64 (at_ : Int) := hout 18 (by kernel_rfl)
              have h131 : A.tmps[131]?.getD undef = .bool true := hdep 131 (by kernel_rfl)
              refine if_yes ((wanted_is (j := 7) (b := true) (by kernel_rfl) (by kernel_rfl) h131).trans rfl) ?_
              simp [go_sem, h18]
              exact hK.out _ _ (Below.refl _ _) rfl
            · intro A wx hR hout hdep K hK
              have h137 : A.tmps[137]?.getD undef = .agg #[.slice am ms.length pm, .slice ac cs.length pc] := hdep 137 (by kernel_rfl)
              have h138 : A.tmps[138]?.getD undef = .int .u64 (at_ : Int) := hdep 138 (by kernel_rfl)
              have h131 : A.tmps[131]?.getD undef = .bool true := hdep 131 (by kernel_rfl)
              refine if_yes ((wanted_is (j := 7) (b := true) (by kernel_rfl) (by kernel_rfl) h131).trans rfl) ?_
              simp [go_sem, h137, h138]
              refine (peek26 _ _ cs at_ _ ⟨_, _, _, rfl⟩ (hs1.out.keep hR).2.1 HWO.out hbsa).mono ?_
              rintro e wG ⟨rfl, hbG⟩
              exact hK.out _ _ hbG rfl
            · intro A wx hR hout hdep K hK
              have h135 : A.tmps[135]?.getD undef = .int .u8 ((peekN cs at_ : Nat) : Int) := hdep 135 (by kernel_rfl)
              have h139 : A.tmps[139]?.getD undef = .int .u8 ((peekN cs at_ : Nat) : Int) := hdep 139 (by kernel_rfl)
              have h131 : A.tmps[131]?.getD undef = .bool true := hdep 131 (by kernel_rfl)
              refine if_yes ((wanted_is (j := 7) (b := true) (by kernel_rfl) (by kernel_rfl) h131).trans rfl) ?_
              simp [go_sem, h135, h139]
              exact hK.out _ _ (Below.refl _ _) rfl
            · intro A wx hR hout hdep K hK
              have h131 : A.tmps[131]?.getD undef = .bool true := hdep 131 (by kernel_rfl)
              have h140 : A.tmps[140]?.getD undef = .bool true := hdep 140 (by kernel_rfl)
              refine if_yes (by kernel_rfl) ?_
              simp [go_sem, h131, h140]
              exact hK.out _ _ (Below.refl _ _) rfl
            · intro A wx hR hout hdep K hK
              have h141 : A.tmps[141]?.getD undef = .bool true := hdep 141 (by kernel_rfl)
              refine if_yes (by kernel_rfl) ?_
              simp [go_sem, h141]
              exact hK.out _ _ (Below.refl _ _) rfl
            · intro A wx hR hout hdep K hK
              have h142 : A.tmps[142]?.getD undef = .bool true := hdep 142 (by kernel_rfl)
              refine if_yes ((wanted_is (j := 18) (b := true) (by kernel_rfl) (by kernel_rfl) h142).trans rfl) ?_
              simp [go_sem, ]
              refine (awake9 _).mono ?_
              rintro e wG ⟨rfl, hbG⟩
              exact hK.out _ _ hbG rfl
            · intro A wx hR hout hdep K hK
              have h142 : A.tmps[142]?.getD undef = .bool true := hdep 142 (by kernel_rfl)
              have h143 : A.tmps[143]?.getD undef = .bool true := hdep 143 (by kernel_rfl)
              refine if_yes (by kernel_rfl) ?_
              simp [go_sem, h142, h143]
              exact hK.out _ _ (Below.refl _ _) rfl
            · intro A wx hR hout hdep K hK
              have h144 : A.tmps[144]?.getD undef = .bool true := hdep 144 (by kernel_rfl)
              refine if_yes (by kernel_rfl) ?_
              simp [go_sem, h144]
              exact hK.out _ _ (Below.refl _ _) rfl

            simp only [putSl, Act.put, List.setIfInBounds_toArray, List.set_cons_zero, List.set_cons_succ]
            have hz : f 12 = .bool true := hf 12 (by kernel_rfl)
            rw [hz]
            go_wp2
            go_ret
            exact ⟨rfl, below_tr hbw hR⟩
          · obtain ⟨q, hq⟩ : ∃ q, q = pg - first := ⟨_, rfl⟩
            have x1 : IntKind.u32.wrap ((pg : Int) - (first : Int)) = (q : Int) := by rw [IntKind.wrap_u32]; omega
            have x2 : ((pg : Int) - (first : Int)) % 4294967296 = (q : Int) := by omega
            have hd1 : first ≤ pg := by omega
            have hd2 : ¬ q < n := by omega
            clear hin hq hpf
            go_wp2
            refine wp_region_slots (R := Ext) [⟨124, fun v _ => v = .agg #[.slice am' nm' pm', .slice ac' nc' pc', .int .u64 (bs : Int), .slice ap' np' pp'], fun _ _ _ _ h => h⟩, ⟨125, fun v _ => v = .int .u32 (pg : Int), fun _ _ _ _ h => h⟩, ⟨126, fun v _ => v = .int .i64 (protN ps pg), fun _ _ _ _ h => h⟩, ⟨127, fun v _ => v = .agg #[.slice am ms.length pm, .slice ac cs.length pc, .int .u64 (bs : Int), .slice ap ps.length pp], fun _ _ _ _ h => h⟩, ⟨128, fun v _ => v = .int .u32 (pg : Int), fun _ _ _ _ h => h⟩, ⟨129, fun v _ => v = .int .i64 (protN ps pg), fun _ _ _ _ h => h⟩, ⟨130, fun v _ => v = .bool true, fun _ _ _ _ h => h⟩, ⟨131, fun v _ => v = .bool true, fun _ _ _ _ h => h⟩, ⟨132, fun v _ => v = .pointer (some ⟨w2.heap.size, 0, none⟩), fun _ _ _ _ h => h⟩, ⟨133, fun v _ => v = .agg #[.slice am' nm' pm', .slice ac' nc' pc'], fun _ _ _ _ h => h⟩, ⟨134, fun v _ => v = .int .u64 (at_ : Int), fun _ _ _ _ h => h⟩, ⟨135, fun v _ => v = .int .u8 ((peekN cs at_ : Nat) : Int), fun _ _ _ _ h => h⟩, ⟨136, fun v _ => v = .pointer (some ⟨w.heap.size, 0, none⟩), fun _ _ _ _ h => h⟩, ⟨137, fun v _ => v = .agg #[.slice am ms.length pm, .slice ac cs.length pc], fun _ _ _ _ h => h⟩, ⟨138, fun v _ => v = .int .u64 (at_ : Int), fun _ _ _ _ h => h⟩, ⟨139, fun v _ => v = .int .u8 ((peekN cs at_ : Nat) : Int), fun _ _ _ _ h => h⟩, ⟨140, fun v _ => v = .bool true, fun _ _ _ _ h => h⟩, ⟨141, fun v _ => v = .bool true, fun _ _ _ _ h => h⟩, ⟨142, fun v _ => v = .bool true, fun _ _ _ _ h => h⟩, ⟨143, fun v _ => v = .bool true, fun _ _ _ _ h => h⟩, ⟨144, fun v _ => v = .bool true, fun _ _ _ _ h => h⟩, ⟨12, fun v _ => v = .bool true, fun _ _ _ _ h => h⟩] _ (by kernel_rfl) rfl (by kernel_rfl) (Below.drew (Below.refl _ _)) (fun _ _ _ h1 h2 => below_tr h1 h2) (fun QQ => ⟨?_, ?_, ?_, ?_, ?_, ?_, ?_, ?_, ?_, ?_, ?_, ?_, ?_, ?_, ?_, ?_, ?_, ?_, ?_, ?_, ?_, ?_, trivial⟩) (fun f wy hR hf => ?_)
            · intro A wx hR hout hdep K hK
              have h13 : A.tmps[13]?.getD undef = .pointer (some ⟨w2.heap.size, 0, none⟩) := hout 13 (by kernel_rfl)
              refine if_yes (by kernel_rfl) ?_
              have e0 := keep_cell hR e0
              have e1 := keep_cell hR e1
              have e2 := keep_cell hR e2
              have e3 := keep_cell hR e3
              have y0 := keep_cell hR y0
              have y1 := keep_cell hR y1
              have y2 := keep_cell hR y2
              have y3 := keep_cell hR y3
              simp [go_sem, h13, e0, e1, e2, e3, y0, y1, y2, y3]
              exact hK.out _ _ (Below.refl _ _) rfl
            · intro A wx hR hout hdep K hK
              have h17 : A.tmps[17]?.getD undef = .int .u32 (pg : Int) := hout 17 (by kernel_rfl)
              refine if_yes (by kernel_rfl) ?_
              simp [go_sem, h17]
              exact hK.out _ _ (Below.refl _ _) rfl
            · intro A wx hR hout hdep K hK
              have h124 : A.tmps[124]?.getD undef = .agg #[.slice am' nm' pm', .slice ac' nc' pc', .int .u64 (bs : Int), .slice ap' np' pp'] := hdep 124 (by kernel_rfl)
              have h125 : A.tmps[125]?.getD undef = .int .u32 (pg : Int) := hdep 125 (by kernel_rfl)
              refine if_yes (by kernel_rfl) ?_
              simp [go_sem, h124, h125]
              refine (KP.out pg _ (below_tr hbW hR)).mono ?_
              rintro e wG ⟨rfl, hbG⟩
              rw [hPR]
              exact hK.out _ _ hbG rfl
            · intro A wx hR hout hdep K hK
              have h6 : A.tmps[6]?.getD undef = .pointer (some ⟨w.heap.size, 0, none⟩) := hout 6 (by kernel_rfl)
              refine if_yes (by kernel_rfl) ?_
              have e0 := keep_cell hR e0
              have e1 := keep_cell hR e1
              have e2 := keep_cell hR e2
              have e3 := keep_cell hR e3
              have y0 := keep_cell hR y0
              have y1 := keep_cell hR y1
              have y2 := keep_cell hR y2
              have y3 := keep_cell hR y3
              simp [go_sem, h6, e0, e1, e2, e3, y0, y1, y2, y3]
              exact hK.out _ _ (Below.refl _ _) rfl
            · intro A wx hR hout hdep K hK
              have h17 : A.tmps[17]?.getD undef = .int .u32 (pg : Int) := hout 17 (by kernel_rfl)
              refine if_yes (by kernel_rfl) ?_
              simp [go_sem, h17]
              exact hK.out _ _ (Below.refl _ _) rfl
            · intro A wx hR hout hdep K hK
              have h127 : A.tmps[127]?.getD undef = .agg #[.slice am ms.length pm, .slice ac cs.length pc, .int .u64 (bs : Int), .slice ap ps.length pp] := hdep 127 (by kernel_rfl)
              have h128 : A.tmps[128]?.getD undef = .int .u32 (pg : Int) := hdep 128 (by kernel_rfl)
              refine if_yes (by kernel_rfl) ?_
              simp [go_sem, h127, h128]
              refine (rprot15 _ _ _ bs pg ps _ ⟨_, _, _, rfl⟩ ⟨_, _, _, rfl⟩ (hs1.out.keep hR).2.2).mono ?_
              rintro e wG ⟨rfl, hbG⟩
              exact hK.out _ _ hbG rfl
            · intro A wx hR hout hdep K hK
              have h126 : A.tmps[126]?.getD undef = .int .i64 (protN ps pg) := hdep 126 (by kernel_rfl)
              have h129 : A.tmps[129]?.getD undef = .int .i64 (protN ps pg) := hdep 129 (by kernel_rfl)
              refine if_yes (by kernel_rfl) ?_
              simp [go_sem, h126, h129]
              exact hK.out _ _ (Below.refl _ _) rfl
            · intro A wx hR hout hdep K hK
              have h130 : A.tmps[130]?.getD undef = .bool true := hdep 130 (by kernel_rfl)
              refine if_yes (by kernel_rfl) ?_
              simp [go_sem, h130]
              exact hK.out _ _ (Below.refl _ _) rfl
            · intro A wx hR hout hdep K hK
              have h13 : A.tmps[13]?.getD undef = .pointer (some ⟨w2.heap.size, 0, none⟩) := hout 13 (by kernel_rfl)
              have h131 : A.tmps[131]?.getD undef = .bool true := hdep 131 (by kernel_rfl)
              refine if_yes ((wanted_is (j := 7) (b := true) (by kernel_rfl) (by kernel_rfl) h131).trans rfl) ?_
              simp [go_sem, h13]
              exact hK.out _ _ (Below.refl _ _) rfl
            · intro A wx hR hout hdep K hK
              have h132 : A.tmps[132]?.getD undef = .pointer (some ⟨w2.heap.size, 0, none⟩) := hdep 132 (by kernel_rfl)
              have h131 : A.tmps[131]?.getD undef = .bool true := hdep 131 (by kernel_rfl)
              refine if_yes ((wanted_is (j := 7) (b := true) (by kernel_rfl) (by kernel_rfl) h131).trans rfl) ?_
              have e0 := keep_cell hR e0
              have e1 := keep_cell hR e1
              have e2 := keep_cell hR e2
              have e3 := keep_cell hR e3
              have y0 := keep_cell hR y0
              have y1 := keep_cell hR y1
              have y2 := keep_cell hR y2
              have y3 := keep_cell hR y3
              simp [go_sem, h132, e0, e1, e2, e3, y0, y1, y2, y3]
              exact hK.out _ _ (Below.refl _ _) rfl
            · intro A wx hR hout hdep K hK
              have h18 : A.tmps[18]?.getD undef = .int .u64 (at_ : Int) := hout 18 (by kernel_rfl)
              have h131 : A.tmps[131]?.getD undef = .bool true := hdep 131 (by kernel_rfl)
              refine if_yes ((wanted_is (j := 7) (b := true) (by kernel_rfl) (by kernel_rfl) h131).trans rfl) ?_
              simp [go_sem, h18]
              exact hK.out _ _ (Below.refl _ _) rfl
            · intro A wx hR hout hdep K hK
              have h133 : A.tmps[133]?.getD undef = .agg #[.slice am' nm' pm', .slice ac' nc' pc'] := hdep 133 (by kernel_rfl)
              have h134 : A.tmps[134]?.getD undef = .int .u64 (at_ : Int) := hdep 134 (by kernel_rfl)
              have h131 : A.tmps[131]?.getD undef = .bool true := hdep 131 (by kernel_rfl)
              refine if_yes ((wanted_is (j := 7) (b := true) (by kernel_rfl) (by kernel_rfl) h131).trans rfl) ?_
              simp [go_sem, h133, h134]
              refine (KE.out at_ _ hbsa (below_tr hbW hR)).mono ?_
              rintro e wG ⟨rfl, hbG⟩
              rw [hPK]
              exact hK.out _ _ hbG rfl
            · intro A wx hR hout hdep K hK
              have h6 : A.tmps[6]?.getD undef = .pointer (some ⟨w.heap.size, 0, none⟩) := hout 6 (by kernel_rfl)
              have h131 : A.tmps[131]?.getD undef = .bool true := hdep 131 (by kernel_rfl)
              refine if_yes ((wanted_is (j := 7) (b := true) (by kernel_rfl) (by kernel_rfl) h131).trans rfl) ?_
              simp [go_sem, h6]
              exact hK.out _ _ (Below.refl _ _) rfl
            · intro A wx hR hout hdep K hK
              have h136 : A.tmps[136]?.getD undef = .pointer (some ⟨w.heap.size, 0, none⟩) := hdep 136 (by kernel_rfl)
              have h131 : A.tmps[131]?.getD undef = .bool true := hdep 131 (by kernel_rfl)
              refine if_yes ((wanted_is (j := 7) (b := true) (by kernel_rfl) (by kernel_rfl) h131).trans rfl) ?_
              have e0 := keep_cell hR e0
              have e1 := keep_cell hR e1
              have e2 := keep_cell hR e2
              have e3 := keep_cell hR e3
              have y0 := keep_cell hR y0
              have y1 := keep_cell hR y1
              have y2 := keep_cell hR y2
              have y3 := keep_cell hR y3
              simp [go_sem, h136, e0, e1, e2, e3, y0, y1, y2, y3]
              exact hK.out _ _ (Below.refl _ _) rfl
            · intro A wx hR hout hdep K hK
              have h18 : A.tmps[18]?.getD undef = .int .u64 (at_ : Int) := hout 18 (by kernel_rfl)
              have h131 : A.tmps[131]?.getD undef = .bool true := hdep 131 (by kernel_rfl)
              refine if_yes ((wanted_is (j := 7) (b := true) (by kernel_rfl) (by kernel_rfl) h131).trans rfl) ?_
              simp [go_sem, h18]
              exact hK.out _ _ (Below.refl _ _) rfl
            · intro A wx hR hout hdep K hK
              have h137 : A.tmps[137]?.getD undef = .agg #[.slice am ms.length pm, .slice ac cs.length pc] := hdep 137 (by kernel_rfl)
              have h138 : A.tmps[138]?.getD undef = .int .u64 (at_ : Int) := hdep 138 (by kernel_rfl)
              have h131 : A.tmps[131]?.getD undef = .bool true := hdep 131 (by kernel_rfl)
              refine if_yes ((wanted_is (j := 7) (b := true) (by kernel_rfl) (by kernel_rfl) h131).trans rfl) ?_
              simp [go_sem, h137, h138]
              refine (peek26 _ _ cs at_ _ ⟨_, _, _, rfl⟩ (hs1.out.keep hR).2.1 HWO.out hbsa).mono ?_
              rintro e wG ⟨rfl, hbG⟩
              exact hK.out _ _ hbG rfl
            · intro A wx hR hout hdep K hK
              have h135 : A.tmps[135]?.getD undef = .int .u8 ((peekN cs at_ : Nat) : Int) := hdep 135 (by kernel_rfl)
              have h139 : A.tmps[139]?.getD undef = .int .u8 ((peekN cs at_ : Nat) : Int) := hdep 139 (by kernel_rfl)
              have h131 : A.tmps[131]?.getD undef = .bool true := hdep 131 (by kernel_rfl)
              refine if_yes ((wanted_is (j := 7) (b := true) (by kernel_rfl) (by kernel_rfl) h131).trans rfl) ?_
              simp [go_sem, h135, h139]
              exact hK.out _ _ (Below.refl _ _) rfl
            · intro A wx hR hout hdep K hK
              have h131 : A.tmps[131]?.getD undef = .bool true := hdep 131 (by kernel_rfl)
              have h140 : A.tmps[140]?.getD undef = .bool true := hdep 140 (by kernel_rfl)
              refine if_yes (by kernel_rfl) ?_
              simp [go_sem, h131, h140]
              exact hK.out _ _ (Below.refl _ _) rfl
            · intro A wx hR hout hdep K hK
              have h141 : A.tmps[141]?.getD undef = .bool true := hdep 141 (by kernel_rfl)
              refine if_yes (by kernel_rfl) ?_
              simp [go_sem, h141]
              exact hK.out _ _ (Below.refl _ _) rfl
            · intro A wx hR hout hdep K hK
              have h142 : A.tmps[142]?.getD undef = .bool true := hdep 142 (by kernel_rfl)
              refine if_yes ((wanted_is (j := 18) (b := true) (by kernel_rfl) (by kernel_rfl) h142).trans rfl) ?_
              simp [go_sem, ]
              refine (awake9 _).mono ?_
              rintro e wG ⟨rfl, hbG⟩
              exact hK.out _ _ hbG rfl
            · intro A wx hR hout hdep K hK
              have h142 : A.tmps[142]?.getD undef = .bool true := hdep 142 (by kernel_rfl)
              have h143 : A.tmps[143]?.getD undef = .bool true := hdep 143 (by kernel_rfl)
              refine if_yes (by kernel_rfl) ?_
              simp [go_sem, h142, h143]
              exact hK.out _ _ (Below.refl _ _) rfl
            · intro A wx hR hout hdep K hK
              have h144 : A.tmps[144]?.getD undef = .bool true := hdep 144 (by kernel_rfl)
              refine if_yes (by kernel_rfl) ?_
              simp [go_sem, h144]
              exact hK.out _ _ (Below.refl _ _) rfl

            simp only [putSl, Act.put, List.setIfInBounds_toArray, List.set_cons_zero, List.set_cons_succ]
            have hz : f 12 = .bool true := hf 12 (by kernel_rfl)
            rw [hz]
            go_wp2
            go_ret
            exact ⟨rfl, below_tr hbw hR⟩
  | false =>
  go_enter Try.func5, Try.ntmps5
  go_wp2_with fail
  refine K8.mono ?_
  rintro e w1 ⟨rfl, hb1⟩
  have e0 := keep_cell hb1 c0
  have e1 := keep_cell hb1 c1
  have e2 := keep_cell hb1 c2
  have e3 := keep_cell hb1 c3
  clear K8
  go_wp2_with fail
  refine (K11.out w1 hb1).mono ?_
  rintro e w2 ⟨rfl, hb2⟩
  clear K11 hW hsz c0 c1 c2 c3
  have e0 := keep_cell hb2 e0
  have e1 := keep_cell hb2 e1
  have e2 := keep_cell hb2 e2
  have e3 := keep_cell hb2 e3
  have HSL : Hid (SlG w2 (.slice am ms.length pm) (.slice ac cs.length pc) (.slice ap ps.length pp) ms cs ps) := (HSL.out.keep hb1).keep hb2
  have hb := below_tr (below_tr hb hb1) hb2
  clear hb1 hb2
  have c9 := e0
  obtain ⟨W5, hW5, hb5, hsz5, x0, x1, x2, x3, f0, f1, f2, f3⟩ := box4 w2 (.slice none 0 0) (.slice none 0 0) (.int .u64 0) (.slice none 0 0) 29
  have e0 := keep_cell hb5 e0
  have e1 := keep_cell hb5 e1
  have e2 := keep_cell hb5 e2
  have e3 := keep_cell hb5 e3
  have HS5 : Hid (SlG W5 (.slice am ms.length pm) (.slice ac cs.length pc) (.slice ap ps.length pp) ms cs ps) := HSL.out.keep hb5
  have hn5' : w.heap.size + 1 ≤ w2.heap.size := World.block_lt_of_cell? w2 _ (show w2.cell? ⟨w.heap.size, 0, none⟩ = _ from c9)
  have hn5 : w.heap.size ≤ w2.heap.size := by omega
  have hlt5 : w2.heap.size < W5.heap.size := by omega
  have hbw := below_tr hb hb5
  clear HSL hb hb5
  go_wp2_with fail
  refine (parts18 _ _ _ ms cs ps bs first n prot W5 HS5.out HRC.out HWO.out h1 h2 HQ.out).mono ?_
  rintro e w6 ⟨am', nm', pm', ac', nc', pc', ap', np', pp', code, ms', cs', ps', rfl, ho6, hb6, hpa⟩
  have f0 := f0.keep hb6
  have q0 := f0.frozen
  have f1 := f1.keep hb6
  have q1 := f1.frozen
  have f2 := f2.keep hb6
  have q2 := f2.frozen
  have f3 := f3.keep hb6
  have q3 := f3.frozen
  have e0 := keep_cell hb6 e0
  have e1 := keep_cell hb6 e1
  have e2 := keep_cell hb6 e2
  have e3 := keep_cell hb6 e3
  have x0 := keep_cell hb6 x0
  have x1 := keep_cell hb6 x1
  have x2 := keep_cell hb6 x2
  have x3 := keep_cell hb6 x3
  have hbw := below_tr hbw hb6
  obtain ⟨W9, hW9, hK9, ho9, ⟨y0, y1, y2, y3⟩, _⟩ := set4 w6 w2.heap.size _ (.slice am' nm' pm') (.slice ac' nc' pc') (.int .u64 (bs : Int)) (.slice ap' np' pp') _ _ _ ho6 hlt5 f0 f1 f2 f3
  have hbw := hK9 _ _ hn5 hbw
  have hfar : Below (w.heap.size + 1) w6 W9 := hK9 _ _ hn5' (Below.refl _ _)
  have e0 := (hfar.cell (p := ⟨w.heap.size, 0, none⟩) (by simp)).trans e0
  have e1 := (hfar.cell (p := ⟨w.heap.size, 1, none⟩) (by simp)).trans e1
  have e2 := (hfar.cell (p := ⟨w.heap.size, 2, none⟩) (by simp)).trans e2
  have e3 := (hfar.cell (p := ⟨w.heap.size, 3, none⟩) (by simp)).trans e3
  have hsw : Hid (SlG W9 (.slice am ms.length pm) (.slice ac cs.length pc) (.slice ap ps.length pp) ms cs ps) := HSL0.out.keep hbw
  have ho9 : Hid (OwnG W5.heap.size W9 (.slice am' nm' pm') (.slice ac' nc' pc') (.slice ap' np' pp') ms' cs' ps') := ho9
  clear ho6 hfar hb6 hK9 f0 f1 f2 f3 HS5 HSL0 hlt5 hn5 hn5'
  rcases hpa with ⟨hcode, rfl, rfl, rfl⟩ | ⟨rfl, hn0, hfn, hww, hpr0, hpk0⟩
  · have hcd : (code != 0) = true := by simpa using hcode
    have K13 := rsame13 _ _ _ _ _ _ ms' cs' ps' ms' cs' ps' bs bs W9 ho9.out.sl hsw.out
    rw [same_refl] at K13
    go_wp2_with fail
    refine K13.mono ?_
    rintro e w10 ⟨rfl, hb10⟩
    have hbw := below_tr hbw hb10
    clear K13 hW9
    go_wp2_with fail
    refine (awake9 w10).mono ?_
    rintro e wz ⟨rfl, hbz⟩
    go_wp2
    go_ret
    exact ⟨rfl, (by (repeat (first | with_reducible assumption | with_reducible exact Below.refl _ _ | with_reducible refine Below.drew ?_ | with_reducible refine below_alloc ?_ _ | (with_reducible refine below_set ?_ ?_ _; rotate_left; focus (first | (simp; done) | (simp; omega))) | with_reducible refine below_tr ?_ (by with_reducible assumption))))⟩
  · have HPR : Hid (∀ q, protN ps' q = if first ≤ q ∧ q < first + n then prot else protN ps q) := hpr0
    have HPK : Hid (∀ a, a < 4294967296 → peekN cs' (bs + a) = if first ≤ a / 4096 ∧ a / 4096 < first + n then 0 else peekN cs (bs + a)) := hpk0
    have KP : Hid (∀ (q : Nat) w', Below W9.heap.size W9 w' → Calls Try.prog 15 #[.agg #[.slice am' nm' pm', .slice ac' nc' pc', .int .u64 (bs : Int), .slice ap' np' pp'], .int .u32 (q : Int)] w' fun e w'' => e = .returned (.int .i64 (protN ps' q)) ∧ Below w'.heap.size w' w'') := fun q w' hb' =>
      rprot15 _ _ _ bs q ps' w' ⟨_, _, _, rfl⟩ ⟨_, _, _, rfl⟩ (ho9.out.keep hb').p
    have KE : Hid (∀ (q : Nat) w', q < 18446744073709551616 → Below W9.heap.size W9 w' → Calls Try.prog 24 #[.agg #[.slice am' nm' pm', .slice ac' nc' pc'], .int .u64 (q : Int)] w' fun e w'' => e = .returned (.int .u8 ((peekN cs' q : Nat) : Int)) ∧ Below w'.heap.size w' w'') := fun q w' hq hb' =>
      peek26 _ _ cs' q w' ⟨_, _, _, rfl⟩ (ho9.out.keep hb').1.c hww hq
    clear hpr0 hpk0 hww ho9 hn0
    have HX : Hid (∀ i (h : i < ps.length), ∃ b o, ap = some ⟨b, o, none⟩ ∧ W9.cell? ⟨b, o + i * 2, none⟩ = some (.int .u32 (ps[i].1 : Int)) ∧ W9.cell? ⟨b, o + i * 2 + 1, none⟩ = some (.int .i64 ps[i].2)) := by
      obtain ⟨ao, cap, e, _, _, _, g⟩ := hsw.out.2.2
      cases e
      exact g
    go_wp2
    go_loopw [55] (fun i wr => ∃ k : Nat, k ≤ ps.length ∧ i = .int .i64 (k : Int) ∧ Below W9.heap.size W9 wr) (fun i _ => ps.length - (intOf i).toNat)
    case atStart => exact ⟨0, Nat.zero_le _, rfl, Below.refl _ _⟩
    case round =>
      obtain ⟨k, hk, rfl, hbr⟩ := hrel
      by_cases hkl : k < ps.length
      · obtain ⟨b, o, rfl, d0, d1⟩ := HX.out k hkl
        have e0' := keep_cell hbr d0
        have e1' := keep_cell hbr d1
        have hpk := HPN.out _ (List.getElem_mem hkl)
        have hpr : ¬ (first ≤ ps[k].1 ∧ ps[k].1 < first + n) → protN ps' ps[k].1 = ps[k].2 := fun ho => by rw [HPR.out, if_neg ho]; exact protN_in HQ.out.sp (List.getElem_mem hkl)
        generalize ps[k].1 = p at e0' hpk hpr
        generalize ps[k].2 = r at e1' hpr
        clear d0 d1
        have y0 := keep_cell hbr y0
        have y1 := keep_cell hbr y1
        have y2 := keep_cell hbr y2
        have y3 := keep_cell hbr y3
        obtain ⟨W5', hW5', hb5, hsz5, l0, l1, _, _⟩ := box2 wr (.int .u32 (p : Int)) (.int .i64 r) 46
        have y0 := keep_cell hb5 y0
        have y1 := keep_cell hb5 y1
        have y2 := keep_cell hb5 y2
        have y3 := keep_cell hb5 y3
        by_cases hpf : p < first
        · have hd1 : p < first := hpf
          have hpr := hpr (by omega)
          go_wp2
          refine wp_region_slots (R := Ext) [⟨59, fun v _ => v = .pointer (some ⟨wr.heap.size, 0, none⟩), fun _ _ _ _ h => h⟩, ⟨60, fun v _ => v = .int .u32 (p : Int), fun _ _ _ _ h => h⟩, ⟨61, fun v _ => v = .int .u32 (first : Int), fun _ _ _ _ h => h⟩, ⟨62, fun v _ => v = .bool true, fun _ _ _ _ h => h⟩, ⟨63, fun v _ => v = .bool true, fun _ _ _ _ h => h⟩, ⟨70, fun v _ => v = .bool true, fun _ _ _ _ h => h⟩, ⟨71, fun v _ => v = .bool true, fun _ _ _ _ h => h⟩, ⟨72, fun v _ => v = .agg #[.slice am' nm' pm', .slice ac' nc' pc', .int .u64 (bs : Int), .slice ap' np' pp'], fun _ _ _ _ h => h⟩, ⟨73, fun v _ => v = .pointer (some ⟨wr.heap.size, 0, none⟩), fun _ _ _ _ h => h⟩, ⟨74, fun v _ => v = .int .u32 (p : Int), fun _ _ _ _ h => h⟩, ⟨75, fun v _ => v = .int .i64 r, fun _ _ _ _ h => h⟩, ⟨76, fun v _ => v = .pointer (some ⟨wr.heap.size, 1, none⟩), fun _ _ _ _ h => h⟩, ⟨77, fun v _ => v = .int .i64 r, fun _ _ _ _ h => h⟩, ⟨78, fun v _ => v = .bool false, fun _ _ _ _ h => h⟩, ⟨79, fun v _ => v = .bool false, fun _ _ _ _ h => h⟩] _ (by kernel_rfl) rfl (by kernel_rfl) (Below.drew (Below.refl _ _)) (fun _ _ _ h1 h2 => below_tr h1 h2) (fun QQ => ⟨?_, ?_, ?_, ?_, ?_, ?_, ?_, ?_, ?_, ?_, ?_, ?_, ?_, ?_, ?_, ?_, ?_, ?_, ?_, ?_, ?_, trivial⟩) (fun f wy hR hf => ?_)
          · intro A wx hR hout hdep K hK
            have h16 : A.tmps[16]?.getD undef = .pointer (some ⟨wr.heap.size, 0, none⟩) := hout 16 (by kernel_rfl)
            refine if_yes (by kernel_rfl) ?_
            simp [go_sem, h16, hd1]
            exact hK.out _ _ (Below.refl _ _) rfl
          · intro A wx hR hout hdep K hK
            have h59 : A.tmps[59]?.getD undef = .pointer (some ⟨wr.heap.size, 0, none⟩) := hdep 59 (by kernel_rfl)
            refine if_yes (by kernel_rfl) ?_
            have l0 := keep_cell hR l0
            have l1 := keep_cell hR l1
            have y0 := keep_cell hR y0
            have y1 := keep_cell hR y1
            have y2 := keep_cell hR y2
            have y3 := keep_cell hR y3
            simp [go_sem, h59, l0, l1, y0, y1, y2, y3, hd1]
            exact hK.out _ _ (Below.refl _ _) rfl
          · intro A wx hR hout hdep K hK
            have h1 : A.tmps[1]?.getD undef = .int .u32 (first : Int) := hout 1 (by kernel_rfl)
            refine if_yes (by kernel_rfl) ?_
            simp [go_sem, h1, hd1]
            exact hK.out _ _ (Below.refl _ _) rfl
          · intro A wx hR hout hdep K hK
            have h60 : A.tmps[60]?.getD undef = .int .u32 (p : Int) := hdep 60 (by kernel_rfl)
            have h61 : A.tmps[61]?.getD undef = .int .u32 (first : Int) := hdep 61 (by kernel_rfl)
            refine if_yes (by kernel_rfl) ?_
            simp [go_sem, h60, h61, hd1]
            exact hK.out _ _ (Below.refl _ _) rfl
          · intro A wx hR hout hdep K hK
            have h62 : A.tmps[62]?.getD undef = .bool true := hdep 62 (by kernel_rfl)
            refine if_yes (by kernel_rfl) ?_
            simp [go_sem, h62, hd1]
            exact hK.out _ _ (Below.refl _ _) rfl
          · intro A wx hR hout hdep K hK
            have h16 : A.tmps[16]?.getD undef = .pointer (some ⟨wr.heap.size, 0, none⟩) := hout 16 (by kernel_rfl)
            have h63 : A.tmps[63]?.getD undef = .bool true := hdep 63 (by kernel_rfl)
            refine if_not (by rw [wanted_is (j := 4) (b := false) (by kernel_rfl) (by kernel_rfl) h63]; decide) ?_
            exact hK.out _ _ (Below.refl _ _) trivial
          · intro A wx hR hout hdep K hK
            have h63 : A.tmps[63]?.getD undef = .bool true := hdep 63 (by kernel_rfl)
            refine if_not (by rw [wanted_is (j := 4) (b := false) (by kernel_rfl) (by kernel_rfl) h63]; decide) ?_
            exact hK.out _ _ (Below.refl _ _) trivial
          · intro A wx hR hout hdep K hK
            have h1 : A.tmps[1]?.getD undef = .int .u32 (first : Int) := hout 1 (by kernel_rfl)
            have h63 : A.tmps[63]?.getD undef = .bool true := hdep 63 (by kernel_rfl)
            refine if_not (by rw [wanted_is (j := 4) (b := false) (by kernel_rfl) (by kernel_rfl) h63]; decide) ?_
            exact hK.out _ _ (Below.refl _ _) trivial
          · intro A wx hR hout hdep K hK
            have h63 : A.tmps[63]?.getD undef = .bool true := hdep 63 (by kernel_rfl)
            refine if_not (by rw [wanted_is (j := 4) (b := false) (by kernel_rfl) (by kernel_rfl) h63]; decide) ?_
            exact hK.out _ _ (Below.refl _ _) trivial
          · intro A wx hR hout hdep K hK
            have h2 : A.tmps[2]?.getD undef = .int .u32 (n : Int) := hout 2 (by kernel_rfl)
            have h63 : A.tmps[63]?.getD undef = .bool true := hdep 63 (by kernel_rfl)
            refine if_not (by rw [wanted_is (j := 4) (b := false) (by kernel_rfl) (by kernel_rfl) h63]; decide) ?_
            exact hK.out _ _ (Below.refl _ _) trivial
          · intro A wx hR hout hdep K hK
            have h63 : A.tmps[63]?.getD undef = .bool true := hdep 63 (by kernel_rfl)
            refine if_not (by rw [wanted_is (j := 4) (b := false) (by kernel_rfl) (by kernel_rfl) h63]; decide) ?_
            exact hK.out _ _ (Below.refl _ _) trivial
          · intro A wx hR hout hdep K hK
            have h63 : A.tmps[63]?.getD undef = .bool true := hdep 63 (by kernel_rfl)
            refine if_yes (by kernel_rfl) ?_
            simp [go_sem, h63, hd1]
            exact hK.out _ _ (Below.refl _ _) rfl
          · intro A wx hR hout hdep K hK
            have h70 : A.tmps[70]?.getD undef = .bool true := hdep 70 (by kernel_rfl)
            refine if_yes (by kernel_rfl) ?_
            simp [go_sem, h70, hd1]
            exact hK.out _ _ (Below.refl _ _) rfl
          · intro A wx hR hout hdep K hK
            have h13 : A.tmps[13]?.getD undef = .pointer (some ⟨w2.heap.size, 0, none⟩) := hout 13 (by kernel_rfl)
            have h71 : A.tmps[71]?.getD undef = .bool true := hdep 71 (by kernel_rfl)
            refine if_yes ((wanted_is (j := 12) (b := true) (by kernel_rfl) (by kernel_rfl) h71).trans rfl) ?_
            have l0 := keep_cell hR l0
            have l1 := keep_cell hR l1
            have y0 := keep_cell hR y0
            have y1 := keep_cell hR y1
            have y2 := keep_cell hR y2
            have y3 := keep_cell hR y3
            simp [go_sem, h13, l0, l1, y0, y1, y2, y3, hd1]
            exact hK.out _ _ (Below.refl _ _) rfl
          · intro A wx hR hout hdep K hK
            have h16 : A.tmps[16]?.getD undef = .pointer (some ⟨wr.heap.size, 0, none⟩) := hout 16 (by kernel_rfl)
            have h71 : A.tmps[71]?.getD undef = .bool true := hdep 71 (by kernel_rfl)
            refine if_yes ((wanted_is (j := 12) (b := true) (by kernel_rfl) (by kernel_rfl) h71).trans rfl) ?_
            simp [go_sem, h16, hd1]
            exact hK.out _ _ (Below.refl _ _) rfl
          · intro A wx hR hout hdep K hK
            have h73 : A.tmps[73]?.getD undef = .pointer (some ⟨wr.heap.size, 0, none⟩) := hdep 73 (by kernel_rfl)
            have h71 : A.tmps[71]?.getD undef = .bool true := hdep 71 (by kernel_rfl)
            refine if_yes ((wanted_is (j := 12) (b := true) (by kernel_rfl) (by kernel_rfl) h71).trans rfl) ?_
            have l0 := keep_cell hR l0
            have l1 := keep_cell hR l1
            have y0 := keep_cell hR y0
            have y1 := keep_cell hR y1
            have y2 := keep_cell hR y2
            have y3 := keep_cell hR y3
            simp [go_sem, h73, l0, l1, y0, y1, y2, y3, hd1]
            exact hK.out _ _ (Below.refl _ _) rfl
          · intro A wx hR hout hdep K hK
            have h72 : A.tmps[72]?.getD undef = .agg #[.slice am' nm' pm', .slice ac' nc' pc', .int .u64 (bs : Int), .slice ap' np' pp'] := hdep 72 (by kernel_rfl)
            have h74 : A.tmps[74]?.getD undef = .int .u32 (p : Int) := hdep 74 (by kernel_rfl)
            have h71 : A.tmps[71]?.getD undef = .bool true := hdep 71 (by kernel_rfl)
            refine if_yes ((wanted_is (j := 12) (b := true) (by kernel_rfl) (by kernel_rfl) h71).trans rfl) ?_
            simp [go_sem, h72, h74, hd1]
            refine (KP.out p _ (below_tr (below_tr hbr hb5) hR)).mono ?_
            rintro e wG ⟨rfl, hbG⟩
            rw [hpr]
            exact hK.out _ _ hbG rfl
          · intro A wx hR hout hdep K hK
            have h16 : A.tmps[16]?.getD undef = .pointer (some ⟨wr.heap.size, 0, none⟩) := hout 16 (by kernel_rfl)
            have h71 : A.tmps[71]?.getD undef = .bool true := hdep 71 (by kernel_rfl)
            refine if_yes ((wanted_is (j := 12) (b := true) (by kernel_rfl) (by kernel_rfl) h71).trans rfl) ?_
            simp [go_sem, h16, hd1]
            exact hK.out _ _ (Below.refl _ _) rfl
          · intro A wx hR hout hdep K hK
            have h76 : A.tmps[76]?.getD undef = .pointer (some ⟨wr.heap.size, 1, none⟩) := hdep 76 (by kernel_rfl)
            have h71 : A.tmps[71]?.getD undef = .bool true := hdep 71 (by kernel_rfl)
            refine if_yes ((wanted_is (j := 12) (b := true) (by kernel_rfl) (by kernel_rfl) h71).trans rfl) ?_
            have l0 := keep_cell hR l0
            have l1 := keep_cell hR l1
            have y0 := keep_cell hR y0
            have y1 := keep_cell hR y1
            have y2 := keep_cell hR y2
            have y3 := keep_cell hR y3
            simp [go_sem, h76, l0, l1, y0, y1, y2, y3, hd1]
            exact hK.out _ _ (Below.refl _ _) rfl
          · intro A wx hR hout hdep K hK
            have h75 : A.tmps[75]?.getD undef = .int .i64 r := hdep 75 (by kernel_rfl)
            have h77 : A.tmps[77]?.getD undef = .int .i64 r := hdep 77 (by kernel_rfl)
            have h71 : A.tmps[71]?.getD undef = .bool true := hdep 71 (by kernel_rfl)
            refine if_yes ((wanted_is (j := 12) (b := true) (by kernel_rfl) (by kernel_rfl) h71).trans rfl) ?_
            simp [go_sem, h75, h77, hd1]
            exact hK.out _ _ (Below.refl _ _) rfl
          · intro A wx hR hout hdep K hK
            have h71 : A.tmps[71]?.getD undef = .bool true := hdep 71 (by kernel_rfl)
            have h78 : A.tmps[78]?.getD undef = .bool false := hdep 78 (by kernel_rfl)
            refine if_yes (by kernel_rfl) ?_
            simp [go_sem, h71, h78, hd1]
            exact hK.out _ _ (Below.refl _ _) rfl

          simp only [putSl, Act.put, List.setIfInBounds_toArray, List.set_cons_zero, List.set_cons_succ]
          have hz : f 79 = .bool false := hf 79 (by kernel_rfl)
          rw [hz]
          have hbz := below_tr (below_tr hbr hb5) hR
          clear hf hz
          go_wp2
          go_roundw
          case rel => exact ⟨k + 1, by omega, by go_num, hbz⟩
          case measure => simp [intOf]; omega
        · obtain ⟨q, hq⟩ : ∃ q, q = p - first := ⟨_, rfl⟩
          have x1 : IntKind.u32.wrap ((p : Int) - (first : Int)) = (q : Int) := by rw [IntKind.wrap_u32]; omega
          have x2 : ((p : Int) - (first : Int)) % 4294967296 = (q : Int) := by omega
          have hd1 : ¬ p < first := by omega
          by_cases hnq : n ≤ q
          · have hd2 : n ≤ q := hnq
            have hpr := hpr (by omega)
            clear hpf hq
            go_wp2
            refine wp_region_slots (R := Ext) [⟨59, fun v _ => v = .pointer (some ⟨wr.heap.size, 0, none⟩), fun _ _ _ _ h => h⟩, ⟨60, fun v _ => v = .int .u32 (p : Int), fun _ _ _ _ h => h⟩, ⟨61, fun v _ => v = .int .u32 (first : Int), fun _ _ _ _ h => h⟩, ⟨62, fun v _ => v = .bool false, fun _ _ _ _ h => h⟩, ⟨63, fun v _ => v = .bool false, fun _ _ _ _ h => h⟩, ⟨64, fun v _ => v = .pointer (some ⟨wr.heap.size, 0, none⟩), fun _ _ _ _ h => h⟩, ⟨65, fun v _ => v = .int .u32 (p : Int), fun _ _ _ _ h => h⟩, ⟨66, fun v _ => v = .int .u32 (first : Int), fun _ _ _ _ h => h⟩, ⟨67, fun v _ => v = .int .u32 (q : Int), fun _ _ _ _ h => h⟩, ⟨68, fun v _ => v = .int .u32 (n : Int), fun _ _ _ _ h => h⟩, ⟨69, fun v _ => v = .bool true, fun _ _ _ _ h => h⟩, ⟨70, fun v _ => v = .bool true, fun _ _ _ _ h => h⟩, ⟨71, fun v _ => v = .bool true, fun _ _ _ _ h => h⟩, ⟨72, fun v _ => v = .agg #[.slice am' nm' pm', .slice ac' nc' pc', .int .u64 (bs : Int), .slice ap' np' pp'], fun _ _ _ _ h => h⟩, ⟨73, fun v _ => v = .pointer (some ⟨wr.heap.size, 0, none⟩), fun _ _ _ _ h => h⟩, ⟨74, fun v _ => v = .int .u32 (p : Int), fun _ _ _ _ h => h⟩, ⟨75, fun v _ => v = .int .i64 r, fun _ _ _ _ h => h⟩, ⟨76, fun v _ => v = .pointer (some ⟨wr.heap.size, 1, none⟩), fun _ _ _ _ h => h⟩, ⟨77, fun v _ => v = .int .i64 r, fun _ _ _ _ h => h⟩, ⟨78, fun v _ => v = .bool false, fun _ _ _ _ h => h⟩, ⟨79, fun v _ => v = .bool false, fun _ _ _ _ h => h⟩] _ (by kernel_rfl) rfl (by kernel_rfl) (Below.drew (Below.refl _ _)) (fun _ _ _ h1 h2 => below_tr h1 h2) (fun QQ => ⟨?_, ?_, ?_, ?_, ?_, ?_, ?_, ?_, ?_, ?_, ?_, ?_, ?_, ?_, ?_, ?_, ?_, ?_, ?_, ?_, ?_, trivial⟩) (fun f wy hR hf => ?_)
            · intro A wx hR hout hdep K hK
              have h16 : A.tmps[16]?.getD undef = .pointer (some ⟨wr.heap.size, 0, none⟩) := hout 16 (by kernel_rfl)
              refine if_yes (by kernel_rfl) ?_
              simp [go_sem, h16, hd1, hd2, x1, x2]
              exact hK.out _ _ (Below.refl _ _) rfl
            · intro A wx hR hout hdep K hK
              have h59 : A.tmps[59]?.getD undef = .pointer (some ⟨wr.heap.size, 0, none⟩) := hdep 59 (by kernel_rfl)
              refine if_yes (by kernel_rfl) ?_
              have l0 := keep_cell hR l0
              have l1 := keep_cell hR l1
              have y0 := keep_cell hR y0
              have y1 := keep_cell hR y1
              have y2 := keep_cell hR y2
              have y3 := keep_cell hR y3
              simp [go_sem, h59, l0, l1, y0, y1, y2, y3, hd1, hd2, x1, x2]
              exact hK.out _ _ (Below.refl _ _) rfl
            · intro A wx hR hout hdep K hK
              have h1 : A.tmps[1]?.getD undef = .int .u32 (first : Int) := hout 1 (by kernel_rfl)
              refine if_yes (by kernel_rfl) ?_
              simp [go_sem, h1, hd1, hd2, x1, x2]
              exact hK.out _ _ (Below.refl _ _) rfl
            · intro A wx hR hout hdep K hK
              have h60 : A.tmps[60]?.getD undef = .int .u32 (p : Int) := hdep 60 (by kernel_rfl)
              have h61 : A.tmps[61]?.getD undef = .int .u32 (first : Int) := hdep 61 (by kernel_rfl)
              refine if_yes (by kernel_rfl) ?_
              simp [go_sem, h60, h61, hd1, hd2, x1, x2]
              exact hK.out _ _ (Below.refl _ _) rfl
            · intro A wx hR hout hdep K hK
              have h62 : A.tmps[62]?.getD undef = .bool false := hdep 62 (by kernel_rfl)
              refine if_yes (by kernel_rfl) ?_
              simp [go_sem, h62, hd1, hd2, x1, x2]
              exact hK.out _ _ (Below.refl _ _) rfl
            · intro A wx hR hout hdep K hK
              have h16 : A.tmps[16]?.getD undef = .pointer (some ⟨wr.heap.size, 0, none⟩) := hout 16 (by kernel_rfl)
              have h63 : A.tmps[63]?.getD undef = .bool false := hdep 63 (by kernel_rfl)
              refine if_yes ((wanted_is (j := 4) (b := false) (by kernel_rfl) (by kernel_rfl) h63).trans rfl) ?_
              simp [go_sem, h16, hd1, hd2, x1, x2]
              exact hK.out _ _ (Below.refl _ _) rfl
            · intro A wx hR hout hdep K hK
              have h64 : A.tmps[64]?.getD undef = .pointer (some ⟨wr.heap.size, 0, none⟩) := hdep 64 (by kernel_rfl)
              have h63 : A.tmps[63]?.getD undef = .bool false := hdep 63 (by kernel_rfl)
              refine if_yes ((wanted_is (j := 4) (b := false) (by kernel_rfl) (by kernel_rfl) h63).trans rfl) ?_
              have l0 := keep_cell hR l0
              have l1 := keep_cell hR l1
              have y0 := keep_cell hR y0
              have y1 := keep_cell hR y1
              have y2 := keep_cell hR y2
              have y3 := keep_cell hR y3
              simp [go_sem, h64, l0, l1, y0, y1, y2, y3, hd1, hd2, x1, x2]
              exact hK.out _ _ (Below.refl _ _) rfl
            · intro A wx hR hout hdep K hK
              have h1 : A.tmps[1]?.getD undef = .int .u32 (first : Int) := hout 1 (by kernel_rfl)
              have h63 : A.tmps[63]?.getD undef = .bool false := hdep 63 (by kernel_rfl)
              refine if_yes ((wanted_is (j := 4) (b := false) (by kernel_rfl) (by kernel_rfl) h63).trans rfl) ?_
              simp [go_sem, h1, hd1, hd2, x1, x2]
              exact hK.out _ _ (Below.refl _ _) rfl
            · intro A wx hR hout hdep K hK
              have h65 : A.tmps[65]?.getD undef = .int .u32 (p : Int) := hdep 65 (by kernel_rfl)
              have h66 : A.tmps[66]?.getD undef = .int .u32 (first : Int) := hdep 66 (by kernel_rfl)
              have h63 : A.tmps[63]?.getD undef = .bool false := hdep 63 (by kernel_rfl)
              refine if_yes ((wanted_is (j := 4) (b := false) (by kernel_rfl) (by kernel_rfl) h63).trans rfl) ?_
              simp [go_sem, h65, h66, hd1, hd2, x1, x2]
              exact hK.out _ _ (Below.refl _ _) rfl
            · intro A wx hR hout hdep K hK
              have h2 : A.tmps[2]?.getD undef = .int .u32 (n : Int) := hout 2 (by kernel_rfl)
              have h63 : A.tmps[63]?.getD undef = .bool false := hdep 63 (by kernel_rfl)
              refine if_yes ((wanted_is (j := 4) (b := false) (by kernel_rfl) (by kernel_rfl) h63).trans rfl) ?_
              simp [go_sem, h2, hd1, hd2, x1, x2]
              exact hK.out _ _ (Below.refl _ _) rfl
            · intro A wx hR hout hdep K hK
              have h67 : A.tmps[67]?.getD undef = .int .u32 (q : Int) := hdep 67 (by kernel_rfl)
              have h68 : A.tmps[68]?.getD undef = .int .u32 (n : Int) := hdep 68 (by kernel_rfl)
              have h63 : A.tmps[63]?.getD undef = .bool false := hdep 63 (by kernel_rfl)
              refine if_yes ((wanted_is (j := 4) (b := false) (by kernel_rfl) (by kernel_rfl) h63).trans rfl) ?_
              simp [go_sem, h67, h68, hd1, hd2, x1, x2]
              exact hK.out _ _ (Below.refl _ _) rfl
            · intro A wx hR hout hdep K hK
              have h63 : A.tmps[63]?.getD undef = .bool false := hdep 63 (by kernel_rfl)
              have h69 : A.tmps[69]?.getD undef = .bool true := hdep 69 (by kernel_rfl)
              refine if_yes (by kernel_rfl) ?_
              simp [go_sem, h63, h69, hd1, hd2, x1, x2]
              exact hK.out _ _ (Below.refl _ _) rfl
            · intro A wx hR hout hdep K hK
              have h70 : A.tmps[70]?.getD undef = .bool true := hdep 70 (by kernel_rfl)
              refine if_yes (by kernel_rfl) ?_
              simp [go_sem, h70, hd1, hd2, x1, x2]
              exact hK.out _ _ (Below.refl _ _) rfl
            · intro A wx hR hout hdep K hK
              have h13 : A.tmps[13]?.getD undef = .pointer (some ⟨w2.heap.size, 0, none⟩) := hout 13 (by kernel_rfl)
              have h71 : A.tmps[71]?.getD undef = .bool true := hdep 71 (by kernel_rfl)
              refine if_yes ((wanted_is (j := 12) (b := true) (by kernel_rfl) (by kernel_rfl) h71).trans rfl) ?_
              have l0 := keep_cell hR l0
              have l1 := keep_cell hR l1
              have y0 := keep_cell hR y0
              have y1 := keep_cell hR y1
              have y2 := keep_cell hR y2
              have y3 := keep_cell hR y3
              simp [go_sem, h13, l0, l1, y0, y1, y2, y3, hd1, hd2, x1, x2]
              exact hK.out _ _ (Below.refl _ _) rfl
            · intro A wx hR hout hdep K hK
              have h16 : A.tmps[16]?.getD undef = .pointer (some ⟨wr.heap.size, 0, none⟩) := hout 16 (by kernel_rfl)
              have h71 : A.tmps[71]?.getD undef = .bool true := hdep 71 (by kernel_rfl)
              refine if_yes ((wanted_is (j := 12) (b := true) (by kernel_rfl) (by kernel_rfl) h71).trans rfl) ?_
              simp [go_sem, h16, hd1, hd2, x1, x2]
              exact hK.out _ _ (Below.refl _ _) rfl
            · intro A wx hR hout hdep K hK
              have h73 : A.tmps[73]?.getD undef = .pointer (some ⟨wr.heap.size, 0, none⟩) := hdep 73 (by kernel_rfl)
              have h71 : A.tmps[71]?.getD undef = .bool true := hdep 71 (by kernel_rfl)
              refine if_yes ((wanted_is (j := 12) (b := true) (by kernel_rfl) (by kernel_rfl) h71).trans rfl) ?_
              have l0 := keep_cell hR l0
              have l1 := keep_cell hR l1
              have y0 := keep_cell hR y0
              have y1 := keep_cell hR y1
              have y2 := keep_cell hR y2
              have y3 := keep_cell hR y3
              simp [go_sem, h73, l0, l1, y0, y1, y2, y3, hd1, hd2, x1, x2]
              exact hK.out _ _ (Below.refl _ _) rfl
            · intro A wx hR hout hdep K hK
              have h72 : A.tmps[72]?.getD undef = .agg #[.slice am' nm' pm', .slice ac' nc' pc', .int .u64 (bs : Int), .slice ap' np' pp'] := hdep 72 (by kernel_rfl)
              have h74 : A.tmps[74]?.getD undef = .int .u32 (p : Int) := hdep 74 (by kernel_rfl)
              have h71 : A.tmps[71]?.getD undef = .bool true := hdep 71 (by kernel_rfl)
              refine if_yes ((wanted_is (j := 12) (b := true) (by kernel_rfl) (by kernel_rfl) h71).trans rfl) ?_
              simp [go_sem, h72, h74, hd1, hd2, x1, x2]
              refine (KP.out p _ (below_tr (below_tr hbr hb5) hR)).mono ?_
              rintro e wG ⟨rfl, hbG⟩
              rw [hpr]
              exact hK.out _ _ hbG rfl
            · intro A wx hR hout hdep K hK
              have h16 : A.tmps[16]?.getD undef = .pointer (some ⟨wr.heap.size, 0, none⟩) := hout 16 (by kernel_rfl)
              have h71 : A.tmps[71]?.getD undef = .bool true := hdep 71 (by kernel_rfl)
              refine if_yes ((wanted_is (j := 12) (b := true) (by kernel_rfl) (by kernel_rfl) h71).trans rfl) ?_
              simp [go_sem, h16, hd1, hd2, x1, x2]
              exact hK.out _ _ (Below.refl _ _) rfl
            · intro A wx hR hout hdep K hK
              have h76 : A.tmps[76]?.getD undef = .pointer (some ⟨wr.heap.size, 1, none⟩) := hdep 76 (by kernel_rfl)
              have h71 : A.tmps[71]?.getD undef = .bool true := hdep 71 (by kernel_rfl)
              refine if_yes ((wanted_is (j := 12) (b := true) (by kernel_rfl) (by kernel_rfl) h71).trans rfl) ?_
              have l0 := keep_cell hR l0
              have l1 := keep_cell hR l1
              have y0 := keep_cell hR y0
              have y1 := keep_cell hR y1
              have y2 := keep_cell hR y2
              have y3 := keep_cell hR y3
              simp [go_sem, h76, l0, l1, y0, y1, y2, y3, hd1, hd2, x1, x2]
              exact hK.out _ _ (Below.refl _ _) rfl
            · intro A wx hR hout hdep K hK
              have h75 : A.tmps[75]?.getD undef = .int .i64 r := hdep 75 (by kernel_rfl)
              have h77 : A.tmps[77]?.getD undef = .int .i64 r := hdep 77 (by kernel_rfl)
              have h71 : A.tmps[71]?.getD undef = .bool true := hdep 71 (by kernel_rfl)
              refine if_yes ((wanted_is (j := 12) (b := true) (by kernel_rfl) (by kernel_rfl) h71).trans rfl) ?_
              simp [go_sem, h75, h77, hd1, hd2, x1, x2]
              exact hK.out _ _ (Below.refl _ _) rfl
            · intro A wx hR hout hdep K hK
              have h71 : A.tmps[71]?.getD undef = .bool true := hdep 71 (by kernel_rfl)
              have h78 : A.tmps[78]?.getD undef = .bool false := hdep 78 (by kernel_rfl)
              refine if_yes (by kernel_rfl) ?_
              simp [go_sem, h71, h78, hd1, hd2, x1, x2]
              exact hK.out _ _ (Below.refl _ _) rfl

            simp only [putSl, Act.put, List.setIfInBounds_toArray, List.set_cons_zero, List.set_cons_succ]
            have hz : f 79 = .bool false := hf 79 (by kernel_rfl)
            rw [hz]
            have hbz := below_tr (below_tr hbr hb5) hR
            clear hf hz
            go_wp2
            go_roundw
            case rel => exact ⟨k + 1, by omega, by go_num, hbz⟩
            case measure => simp [intOf]; omega
          · have hd2 : ¬ n ≤ q := hnq
            clear hpf hq hpr
            go_wp2
            refine wp_region_slots (R := Ext) [⟨59, fun v _ => v = .pointer (some ⟨wr.heap.size, 0, none⟩), fun _ _ _ _ h => h⟩, ⟨60, fun v _ => v = .int .u32 (p : Int), fun _ _ _ _ h => h⟩, ⟨61, fun v _ => v = .int .u32 (first : Int), fun _ _ _ _ h => h⟩, ⟨62, fun v _ => v = .bool false, fun _ _ _ _ h => h⟩, ⟨63, fun v _ => v = .bool false, fun _ _ _ _ h => h⟩, ⟨64, fun v _ => v = .pointer (some ⟨wr.heap.size, 0, none⟩), fun _ _ _ _ h => h⟩, ⟨65, fun v _ => v = .int .u32 (p : Int), fun _ _ _ _ h => h⟩, ⟨66, fun v _ => v = .int .u32 (first : Int), fun _ _ _ _ h => h⟩, ⟨67, fun v _ => v = .int .u32 (q : Int), fun _ _ _ _ h => h⟩, ⟨68, fun v _ => v = .int .u32 (n : Int), fun _ _ _ _ h => h⟩, ⟨69, fun v _ => v = .bool false, fun _ _ _ _ h => h⟩, ⟨70, fun v _ => v = .bool false, fun _ _ _ _ h => h⟩, ⟨71, fun v _ => v = .bool false, fun _ _ _ _ h => h⟩, ⟨79, fun v _ => v = .bool false, fun _ _ _ _ h => h⟩] _ (by kernel_rfl) rfl (by kernel_rfl) (Below.drew (Below.refl _ _)) (fun _ _ _ h1 h2 => below_tr h1 h2) (fun QQ => ⟨?_, ?_, ?_, ?_, ?_, ?_, ?_, ?_, ?_, ?_, ?_, ?_, ?_, ?_, ?_, ?_, ?_, ?_, ?_, ?_, ?_, trivial⟩) (fun f wy hR hf => ?_)
            · intro A wx hR hout hdep K hK
              have h16 : A.tmps[16]?.getD undef = .pointer (some ⟨wr.heap.size, 0, none⟩) := hout 16 (by kernel_rfl)
              refine if_yes (by kernel_rfl) ?_
              simp [go_sem, h16, hd1, hd2, x1, x2]
              exact hK.out _ _ (Below.refl _ _) rfl
            · intro A wx hR hout hdep K hK
              have h59 : A.tmps[59]?.getD undef = .pointer (some ⟨wr.heap.size, 0, none⟩) := hdep 59 (by kernel_rfl)
              refine if_yes (by kernel_rfl) ?_
              have l0 := keep_cell hR l0
              have l1 := keep_cell hR l1
              have y0 := keep_cell hR y0
              have y1 := keep_cell hR y1
              have y2 := keep_cell hR y2
              have y3 := keep_cell hR y3
              simp [go_sem, h59, l0, l1, y0, y1, y2, y3, hd1, hd2, x1, x2]
              exact hK.out _ _ (Below.refl _ _) rfl
            · intro A wx hR hout hdep K hK
              have h1 : A.tmps[1]?.getD undef = .int .u32 (first : Int) := hout 1 (by kernel_rfl)
              refine if_yes (by kernel_rfl) ?_
              simp [go_sem, h1, hd1, hd2, x1, x2]
              exact hK.out _ _ (Below.refl _ _) rfl
            · intro A wx hR hout hdep K hK
              have h60 : A.tmps[60]?.getD undef = .int .u32 (p : Int) := hdep 60 (by kernel_rfl)
              have h61 : A.tmps[61]?.getD undef = .int .u32 (first : Int) := hdep 61 (by kernel_rfl)
              refine if_yes (by kernel_rfl) ?_
              simp [go_sem, h60, h61, hd1, hd2, x1, x2]
              exact hK.out _ _ (Below.refl _ _) rfl
            · intro A wx hR hout hdep K hK
              have h62 : A.tmps[62]?.getD undef = .bool false := hdep 62 (by kernel_rfl)
              refine if_yes (by kernel_rfl) ?_
              simp [go_sem, h62, hd1, hd2, x1, x2]
              exact hK.out _ _ (Below.refl _ _) rfl
            · intro A wx hR hout hdep K hK
              have h16 : A.tmps[16]?.getD undef = .pointer (some ⟨wr.heap.size, 0, none⟩) := hout 16 (by kernel_rfl)
              have h63 : A.tmps[63]?.getD undef = .bool false := hdep 63 (by kernel_rfl)
              refine if_yes ((wanted_is (j := 4) (b := false) (by kernel_rfl) (by kernel_rfl) h63).trans rfl) ?_
              simp [go_sem, h16, hd1, hd2, x1, x2]
              exact hK.out _ _ (Below.refl _ _) rfl
            · intro A wx hR hout hdep K hK
              have h64 : A.tmps[64]?.getD undef = .pointer (some ⟨wr.heap.size, 0, none⟩) := hdep 64 (by kernel_rfl)
              have h63 : A.tmps[63]?.getD undef = .bool false := hdep 63 (by kernel_rfl)
              refine if_yes ((wanted_is (j := 4) (b := false) (by kernel_rfl) (by kernel_rfl) h63).trans rfl) ?_
              have l0 := keep_cell hR l0
              have l1 := keep_cell hR l1
              have y0 := keep_cell hR y0
              have y1 := keep_cell hR y1
              have y2 := keep_cell hR y2
              have y3 := keep_cell hR y3
              simp [go_sem, h64, l0, l1, y0, y1, y2, y3, hd1, hd2, x1, x2]
              exact hK.out _ _ (Below.refl _ _) rfl
            · intro A wx hR hout hdep K hK
              have h1 : A.tmps[1]?.getD undef = .int .u32 (first : Int) := hout 1 (by kernel_rfl)
              have h63 : A.tmps[63]?.getD undef = .bool false := hdep 63 (by kernel_rfl)
              refine if_yes ((wanted_is (j := 4) (b := false) (by kernel_rfl) (by kernel_rfl) h63).trans rfl) ?_
              simp [go_sem, h1, hd1, hd2, x1, x2]
              exact hK.out _ _ (Below.refl _ _) rfl
            · intro A wx hR hout hdep K hK
              have h65 : A.tmps[65]?.getD undef = .int .u32 (p : Int) := hdep 65 (by kernel_rfl)
              have h66 : A.tmps[66]?.getD undef = .int .u32 (first : Int) := hdep 66 (by kernel_rfl)
              have h63 : A.tmps[63]?.getD undef = .bool false := hdep 63 (by kernel_rfl)
              refine if_yes ((wanted_is (j := 4) (b := false) (by kernel_rfl) (by kernel_rfl) h63).trans rfl) ?_
              simp [go_sem, h65, h66, hd1, hd2, x1, x2]
              exact hK.out _ _ (Below.refl _ _) rfl
            · intro A wx hR hout hdep K hK
              have h2 : A.tmps[2]?.getD undef = .int .u32 (n : Int) := hout 2 (by kernel_rfl)
              have h63 : A.tmps[63]?.getD undef = .bool false := hdep 63 (by kernel_rfl)
              refine if_yes ((wanted_is (j := 4) (b := false) (by kernel_rfl) (by kernel_rfl) h63).trans rfl) ?_
              simp [go_sem, h2, hd1, hd2, x1, x2]
              exact hK.out _ _ (Below.refl _ _) rfl
            · intro A wx hR hout hdep K hK
              have h67 : A.tmps[67]?.getD undef = .int .u32 (q : Int) := hdep 67 (by kernel_rfl)
              have h68 : A.tmps[68]?.getD undef = .int .u32 (n : Int) := hdep 68 (by kernel_rfl)
              have h63 : A.tmps[63]?.getD undef = .bool false := hdep 63 (by kernel_rfl)
              refine if_yes ((wanted_is (j := 4) (b := false) (by kernel_rfl) (by kernel_rfl) h63).trans rfl) ?_
              simp [go_sem, h67, h68, hd1, hd2, x1, x2]
              exact hK.out _ _ (Below.refl _ _) rfl
            · intro A wx hR hout hdep K hK
              have h63 : A.tmps[63]?.getD undef = .bool false := hdep 63 (by kernel_rfl)
              have h69 : A.tmps[69]?.getD undef = .bool false := hdep 69 (by kernel_rfl)
              refine if_yes (by kernel_rfl) ?_
              simp [go_sem, h63, h69, hd1, hd2, x1, x2]
              exact hK.out _ _ (Below.refl _ _) rfl
            · intro A wx hR hout hdep K hK
              have h70 : A.tmps[70]?.getD undef = .bool false := hdep 70 (by kernel_rfl)
              refine if_yes (by kernel_rfl) ?_
              simp [go_sem, h70, hd1, hd2, x1, x2]
              exact hK.out _ _ (Below.refl _ _) rfl
            · intro A wx hR hout hdep K hK
              have h13 : A.tmps[13]?.getD undef = .pointer (some ⟨w2.heap.size, 0, none⟩) := hout 13 (by kernel_rfl)
              have h71 : A.tmps[71]?.getD undef = .bool false := hdep 71 (by kernel_rfl)
              refine if_not (by rw [wanted_is (j := 12) (b := true) (by kernel_rfl) (by kernel_rfl) h71]; decide) ?_
              exact hK.out _ _ (Below.refl _ _) trivial
            · intro A wx hR hout hdep K hK
              have h16 : A.tmps[16]?.getD undef = .pointer (some ⟨wr.heap.size, 0, none⟩) := hout 16 (by kernel_rfl)
              have h71 : A.tmps[71]?.getD undef = .bool false := hdep 71 (by kernel_rfl)
              refine if_not (by rw [wanted_is (j := 12) (b := true) (by kernel_rfl) (by kernel_rfl) h71]; decide) ?_
              exact hK.out _ _ (Below.refl _ _) trivial
            · intro A wx hR hout hdep K hK
              have h71 : A.tmps[71]?.getD undef = .bool false := hdep 71 (by kernel_rfl)
              refine if_not (by rw [wanted_is (j := 12) (b := true) (by kernel_rfl) (by kernel_rfl) h71]; decide) ?_
              exact hK.out _ _ (Below.refl _ _) trivial
            · intro A wx hR hout hdep K hK
              have h71 : A.tmps[71]?.getD undef = .bool false := hdep 71 (by kernel_rfl)
              refine if_not (by rw [wanted_is (j := 12) (b := true) (by kernel_rfl) (by kernel_rfl) h71]; decide) ?_
              exact hK.out _ _ (Below.refl _ _) trivial
            · intro A wx hR hout hdep K hK
              have h16 : A.tmps[16]?.getD undef = .pointer (some ⟨wr.heap.size, 0, none⟩) := hout 16 (by kernel_rfl)
              have h71 : A.tmps[71]?.getD undef = .bool false := hdep 71 (by kernel_rfl)
              refine if_not (by rw [wanted_is (j := 12) (b := true) (by kernel_rfl) (by kernel_rfl) h71]; decide) ?_
              exact hK.out _ _ (Below.refl _ _) trivial
            · intro A wx hR hout hdep K hK
              have h71 : A.tmps[71]?.getD undef = .bool false := hdep 71 (by kernel_rfl)
              refine if_not (by rw [wanted_is (j := 12) (b := true) (by kernel_rfl) (by kernel_rfl) h71]; decide) ?_
              exact hK.out _ _ (Below.refl _ _) trivial
            · intro A wx hR hout hdep K hK
              have h71 : A.tmps[71]?.getD undef = .bool false := hdep 71 (by kernel_rfl)
              refine if_not (by rw [wanted_is (j := 12) (b := true) (by kernel_rfl) (by kernel_rfl) h71]; decide) ?_
              exact hK.out _ _ (Below.refl _ _) trivial
            · intro A wx hR hout hdep K hK
              have h71 : A.tmps[71]?.getD undef = .bool false := hdep 71 (by kernel_rfl)
              refine if_yes (by kernel_rfl) ?_
              simp [go_sem, h71, hd1, hd2, x1, x2]
              exact hK.out _ _ (Below.refl _ _) rfl

            simp only [putSl, Act.put, List.setIfInBounds_toArray, List.set_cons_zero, List.set_cons_succ]
            have hz : f 79 = .bool false := hf 79 (by kernel_rfl)
            rw [hz]
            have hbz := below_tr (below_tr hbr hb5) hR
            clear hf hz
            go_wp2
            go_roundw
            case rel => exact ⟨k + 1, by omega, by go_num, hbz⟩
            case measure => simp [intOf]; omega
      · obtain rfl : k = ps.length := by omega
        have e0 := keep_cell hbr e0
        have e1 := keep_cell hbr e1
        have e2 := keep_cell hbr e2
        have e3 := keep_cell hbr e3
        have y0 := keep_cell hbr y0
        have y1 := keep_cell hbr y1
        have y2 := keep_cell hbr y2
        have y3 := keep_cell hbr y3
        have hbw := below_tr hbw hbr
        have hs1 : Hid (SlG wr (.slice am ms.length pm) (.slice ac cs.length pc) (.slice ap ps.length pp) ms cs ps) := hsw.out.keep hbr
        have hbR : Hid (Below W9.heap.size W9 wr) := hbr
        obtain ⟨pg, hpg⟩ : ∃ pg, pg = a / 4096 := ⟨_, rfl⟩
        have z1 : IntKind.u32.wrap ((a : Int) / 4096) = (pg : Int) := by rw [IntKind.wrap_u32]; omega
        have z2 : (a : Int) / 4096 = (pg : Int) := by omega
        have z3 : IntKind.u32.wrap (pg : Int) = (pg : Int) := by rw [IntKind.wrap_u32]; omega
        have hPR := HPR.out pg
        have hPK := HPK.out a ha
        rw [← hpg] at hPK
        have hle := HQ.out.le
        clear hbr HX HPR HPK hkl hpg
        go_wp2_with fail
        refine (rplace17 _ _ _ bs a hle ha wr ⟨_, _, _, rfl⟩ ⟨_, _, _, rfl⟩ ⟨_, _, _, rfl⟩).mono ?_
        rintro e wp ⟨rfl, hbp⟩
        have e0 := keep_cell hbp e0
        have e1 := keep_cell hbp e1
        have e2 := keep_cell hbp e2
        have e3 := keep_cell hbp e3
        have y0 := keep_cell hbp y0
        have y1 := keep_cell hbp y1
        have y2 := keep_cell hbp y2
        have y3 := keep_cell hbp y3
        have hs1 : Hid (SlG wp (.slice am ms.length pm) (.slice ac cs.length pc) (.slice ap ps.length pp) ms cs ps) := hs1.out.keep hbp
        have hbW := below_tr hbR.out hbp
        have hbw := below_tr hbw hbp
        have hbsa : bs + a < 18446744073709551616 := by omega
        clear hbR hbp
        obtain ⟨at_, hat⟩ : ∃ t, t = bs + a := ⟨_, rfl⟩
        rw [← hat] at hPK hbsa ⊢
        clear hat
        by_cases hin : first ≤ pg ∧ pg < first + n
        · rw [if_pos hin] at hPR hPK
          obtain ⟨q, hq⟩ : ∃ q, q = pg - first := ⟨_, rfl⟩
          have x1 : IntKind.u32.wrap ((pg : Int) - (first : Int)) = (q : Int) := by rw [IntKind.wrap_u32]; omega
          have x2 : ((pg : Int) - (first : Int)) % 4294967296 = (q : Int) := by omega
          have hd1 : first ≤ pg := by omega
          have hd2 : q < n := by omega
          clear hin hq
          go_wp2_with fail
          refine (KP.out pg _ hbW).mono ?_
          rintro e w11 ⟨rfl, hb11⟩
          rw [hPR]
          have y0 := keep_cell hb11 y0
          have y1 := keep_cell hb11 y1
          have y2 := keep_cell hb11 y2
          have y3 := keep_cell hb11 y3
          have hbW := below_tr hbW hb11
          have hbw := below_tr hbw hb11
          go_wp2_with fail
          refine (KE.out at_ _ hbsa hbW).mono ?_
          rintro e w12 ⟨rfl, hb12⟩
          rw [hPK]
          have hbw := below_tr hbw hb12
          go_wp2_with fail
          refine (awake9 w12).mono ?_
          rintro e wz ⟨rfl, hbz⟩
          go_wp2
          go_ret
          exact ⟨rfl, (by (repeat (first | with_reducible assumption | with_reducible exact Below.refl _ _ | with_reducible refine Below.drew ?_ | with_reducible refine below_alloc ?_ _ | (with_reducible refine below_set ?_ ?_ _; rotate_left; focus (first | (simp; done) | (simp; omega))) | with_reducible refine below_tr ?_ (by with_reducible assumption))))⟩
        · rw [if_neg hin] at hPR hPK
          have hskip : True := trivial
          by_cases hpf : pg < first
          · have hd1 : ¬ first ≤ pg := by omega
            clear hin
            go_wp2
            refine wp_region_slots (R := Ext) [⟨124, fun v _ => v = .agg #[.slice am' nm' pm', .slice ac' nc' pc', .int .u64 (bs : Int), .slice ap' np' pp'], fun _ _ _ _ h => h⟩, ⟨125, fun v _ => v = .int .u32 (pg : Int), fun _ _ _ _ h => h⟩, ⟨126, fun v _ => v = .int .i64 (protN ps pg), fun _ _ _ _ h => h⟩, ⟨127, fun v _ => v = .agg #[.slice am ms.length pm, .slice ac cs.length pc, .int .u64 (bs : Int), .slice ap ps.length pp], fun _ _ _ _ h => h⟩, ⟨128, fun v _ => v = .int .u32 (pg : Int), fun _ _ _ _ h => h⟩, ⟨129, fun v _ => v = .int .i64 (protN ps pg), fun _ _ _ _ h => h⟩, ⟨130, fun v _ => v = .bool true, fun _ _ _ _ h => h⟩, ⟨131, fun v _ => v = .bool true, fun _ _ _ _ h => h⟩, ⟨132, fun v _ => v = .pointer (some ⟨w2.heap.size, 0, none⟩), fun _ _ _ _ h => h⟩, ⟨133, fun v _ => v = .agg #[.slice am' nm' pm', .slice ac' nc' pc'], fun _ _ _ _ h => h⟩, ⟨134, fun v _ => v = .int .u64 (at_ : Int), fun _ _ _ _ h => h⟩, ⟨135, fun v _ => v = .int .u8 ((peekN cs at_ : Nat) : Int), fun _ _ _ _ h => h⟩, ⟨136, fun v _ => v = .pointer (some ⟨w.heap.size, 0, none⟩), fun _ _ _ _ h => h⟩, ⟨137, fun v _ => v = .agg #[.slice am ms.length pm, .slice ac cs.length pc], fun _ _ _ _ h => h⟩, ⟨138, fun v _ => v = .int .u64 (at_ : Int), fun _ _ _ _ h => h⟩, ⟨139, fun v _ => v = .int .u8 ((peekN cs at_ : Nat) : Int), fun _ _ _ _ h => h⟩, ⟨140, fun v _ => v = .bool true, fun _ _ _ _ h => h⟩, ⟨141, fun v _ => v = .bool true, fun _ _ _ _ h => h⟩, ⟨142, fun v _ => v = .bool true, fun _ _ _ _ h => h⟩, ⟨143, fun v _ => v = .bool true, fun _ _ _ _ h => h⟩, ⟨144, fun v _ => v = .bool true, fun _ _ _ _ h => h⟩, ⟨12, fun v _ => v = .bool true, fun _ _ _ _ h => h⟩] _ (by kernel_rfl) rfl (by kernel_rfl) (Below.drew (Below.refl _ _)) (fun _ _ _ h1 h2 => below_tr h1 h2) (fun QQ => ⟨?_, ?_, ?_, ?_, ?_, ?_, ?_, ?_, ?_, ?_, ?_, ?_, ?_, ?_, ?_, ?_, ?_, ?_, ?_, ?_, ?_, ?_, trivial⟩) (fun f wy hR hf => ?_)
            · intro A wx hR hout hdep K hK
              have h13 : A.tmps[13]?.getD undef = .pointer (some ⟨w2.heap.size, 0, none⟩) := hout 13 (by kernel_rfl)
              refine if_yes (by kernel_rfl) ?_
              have e0 := keep_cell hR e0
              have e1 := keep_cell hR e1
              have e2 := keep_cell hR e2
              have e3 := keep_cell hR e3
              have y0 := keep_cell hR y0
              have y1 := keep_cell hR y1
              have y2 := keep_cell hR y2
              have y3 := keep_cell hR y3
              simp [go_sem, h13, e0, e1, e2, e3, y0, y1, y2, y3]
              exact hK.out _ _ (Below.refl _ _) rfl
            · intro A wx hR hout hdep K hK
              have h17 : A.tmps[17]?.getD undef = .int .u32 (pg : Int) := hout 17 (by kernel_rfl)
              refine if_yes (by kernel_rfl) ?_
              simp [go_sem, h17]
              exact hK.out _ _ (Below.refl _ _) rfl
            · intro A wx hR hout hdep K hK
              have h124 : A.tmps[124]?.getD undef = .agg #[.slice am' nm' pm', .slice ac' nc' pc', .int .u64 (bs : Int), .slice ap' np' pp'] := hdep 124 (by kernel_rfl)
              have h125 : A.tmps[125]?.getD undef = .int .u32 (pg : Int) := hdep 125 (by kernel_rfl)
              refine if_yes (by kernel_rfl) ?_
              simp [go_sem, h124, h125]
              refine (KP.out pg _ (below_tr hbW hR)).mono ?_
              rintro e wG ⟨rfl, hbG⟩
              rw [hPR]
              exact hK.out _ _ hbG rfl
            · intro A wx hR hout hdep K hK
              have h6 : A.tmps[6]?.getD undef = .pointer (some ⟨w.heap.size, 0, none⟩) := hout 6 (by kernel_rfl)
              refine if_yes (by kernel_rfl) ?_
              have e0 := keep_cell hR e0
              have e1 := keep_cell hR e1
              have e2 := keep_cell hR e2
              have e3 := keep_cell hR e3
              have y0 := keep_cell hR y0
              have y1 := keep_cell hR y1
              have y2 := keep_cell hR y2
              have y3 := keep_cell hR y3
              simp [go_sem, h6, e0, e1, e2, e3, y0, y1, y2, y3]
              exact hK.out _ _ (Below.refl _ _) rfl
            · intro A wx hR hout hdep K hK
              have h17 : A.tmps[17]?.getD undef = .int .u32 (pg : Int) := hout 17 (by kernel_rfl)
              refine if_yes (by kernel_rfl) ?_
              simp [go_sem, h17]
              exact hK.out _ _ (Below.refl _ _) rfl
            · intro A wx hR hout hdep K hK
              have h127 : A.tmps[127]?.getD undef = .agg #[.slice am ms.length pm, .slice ac cs.length pc, .int .u64 (bs : Int), .slice ap ps.length pp] := hdep 127 (by kernel_rfl)
              have h128 : A.tmps[128]?.getD undef = .int .u32 (pg : Int) := hdep 128 (by kernel_rfl)
              refine if_yes (by kernel_rfl) ?_
              simp [go_sem, h127, h128]
              refine (rprot15 _ _ _ bs pg ps _ ⟨_, _, _, rfl⟩ ⟨_, _, _, rfl⟩ (hs1.out.keep hR).2.2).mono ?_
              rintro e wG ⟨rfl, hbG⟩
              exact hK.out _ _ hbG rfl
            · intro A wx hR hout hdep K hK
              have h126 : A.tmps[126]?.getD undef = .int .i64 (protN ps pg) := hdep 126 (by kernel_rfl)
              have h129 : A.tmps[129]?.getD undef = .int .i64 (protN ps pg) := hdep 129 (by kernel_rfl)
              refine if_yes (by kernel_rfl) ?_
              simp [go_sem, h126, h129]
              exact hK.out _ _ (Below.refl _ _) rfl
            · intro A wx hR hout hdep K hK
              have h130 : A.tmps[130]?.getD undef = .bool true := hdep 130 (by kernel_rfl)
              refine if_yes (by kernel_rfl) ?_
              simp [go_sem, h130]
              exact hK.out _ _ (Below.refl _ _) rfl
            · intro A wx hR hout hdep K hK
              have h13 : A.tmps[13]?.getD undef = .pointer (some ⟨w2.heap.size, 0, none⟩) := hout 13 (by kernel_rfl)
              have h131 : A.tmps[131]?.getD undef = .bool true := hdep 131 (by kernel_rfl)
              refine if_yes ((wanted_is (j := 7) (b := true) (by kernel_rfl) (by kernel_rfl) h131).trans rfl) ?_
              simp [go_sem, h13]
              exact hK.out _ _ (Below.refl _ _) rfl
            · intro A wx hR hout hdep K hK
              have h132 : A.tmps[132]?.getD undef = .pointer (some ⟨w2.heap.size, 0, none⟩) := hdep 132 (by kernel_rfl)
              have h131 : A.tmps[131]?.getD undef = .bool true := hdep 131 (by kernel_rfl)
              refine if_yes ((wanted_is (j := 7) (b := true) (by kernel_rfl) (by kernel_rfl) h131).trans rfl) ?_
              have e0 := keep_cell hR e0
              have e1 := keep_cell hR e1
              have e2 := keep_cell hR e2
              have e3 := keep_cell hR e3
              have y0 := keep_cell hR y0
              have y1 := keep_cell hR y1
              have y2 := keep_cell hR y2
              have y3 := keep_cell hR y3
              simp [go_sem, h132, e0, e1, e2, e3, y0, y1, y2, y3]
              exact hK.out _ _ (Below.refl _ _) rfl
            · intro A wx hR hout hdep K hK
              have h18 : A.tmps[18]?.getD undef = .int .u64 (at_ : Int) := hout 18 (by kernel_rfl)
              have h131 : A.tmps[131]?.getD undef = .bool true := hdep 131 (by kernel_rfl)
              refine if_yes ((wanted_is (j := 7) (b := true) (by kernel_rfl) (by kernel_rfl) h131).trans rfl) ?_
              simp [go_sem, h18]
              exact hK.out _ _ (Below.refl _ _) rfl
            · intro A wx hR hout hdep K hK
              have h133 : A.tmps[133]?.getD undef = .agg #[.slice am' nm' pm', .slice ac' nc' pc'] := hdep 133 (by kernel_rfl)
              have h134 : A.tmps[134]?.getD undef = .int .u64 (at_ : Int) := hdep 134 (by kernel_rfl)
              have h131 : A.tmps[131]?.getD undef = .bool true := hdep 131 (by kernel_rfl)
              refine if_yes ((wanted_is (j := 7) (b := true) (by kernel_rfl) (by kernel_rfl) h131).trans rfl) ?_
              simp [go_sem, h133, h134]
              refine (KE.out at_ _ hbsa (below_tr hbW hR)).mono ?_
              rintro e wG ⟨rfl, hbG⟩
              rw [hPK]
              exact hK.out _ _ hbG rfl
            · intro A wx hR hout hdep K hK
              have h6 : A.tmps[6]?.getD undef = .pointer (some ⟨w.heap.size, 0, none⟩) := hout 6 (by kernel_rfl)
              have h131 : A.tmps[131]?.getD undef = .bool true := hdep 131 (by kernel_rfl)
              refine if_yes ((wanted_is (j := 7) (b := true) (by kernel_rfl) (by kernel_rfl) h131).trans rfl) ?_
              simp [go_sem, h6]
              exact hK.out _ _ (Below.refl _ _) rfl
            · intro A wx hR hout hdep K hK
              have h136 : A.tmps[136]?.getD undef = .pointer (some ⟨w.heap.size, 0, none⟩) := hdep 136 (by kernel_rfl)
              have h131 : A.tmps[131]?.getD undef = .bool true := hdep 131 (by kernel_rfl)
              refine if_yes ((wanted_is (j := 7) (b := true) (by kernel_rfl) (by kernel_rfl) h131).trans rfl) ?_
              have e0 := keep_cell hR e0
              have e1 := keep_cell hR e1
              have e2 := keep_cell hR e2
              have e3 := keep_cell hR e3
              have y0 := keep_cell hR y0
              have y1 := keep_cell hR y1
              have y2 := keep_cell hR y2
              have y3 := keep_cell hR y3
              simp [go_sem, h136, e0, e1, e2, e3, y0, y1, y2, y3]
              exact hK.out _ _ (Below.refl _ _) rfl
            · intro A wx hR hout hdep K hK
              have h18 : A.tmps[18]?.getD undef = .int .u64 (at_ : Int) := hout 18 (by kernel_rfl)
              have h131 : A.tmps[131]?.getD undef = .bool true := hdep 131 (by kernel_rfl)
              refine if_yes ((wanted_is (j := 7) (b := true) (by kernel_rfl) (by kernel_rfl) h131).trans rfl) ?_
              simp [go_sem, h18]
              exact hK.out _ _ (Below.refl _ _) rfl
            · intro A wx hR hout hdep K hK
              have h137 : A.tmps[137]?.getD undef = .agg #[.slice am ms.length pm, .slice ac cs.length pc] := hdep 137 (by kernel_rfl)
              have h138 : A.tmps[138]?.getD undef = .int .u64 (at_ : Int) := hdep 138 (by kernel_rfl)
              have h131 : A.tmps[131]?.getD undef = .bool true := hdep 131 (by kernel_rfl)
              refine if_yes ((wanted_is (j := 7) (b := true) (by kernel_rfl) (by kernel_rfl) h131).trans rfl) ?_
              simp [go_sem, h137, h138]
              refine (peek26 _ _ cs at_ _ ⟨_, _, _, rfl⟩ (hs1.out.keep hR).2.1 HWO.out hbsa).mono ?_
              rintro e wG ⟨rfl, hbG⟩
              exact hK.out _ _ hbG rfl
            · intro A wx hR hout hdep K hK
              have h135 : A.tmps[135]?.getD undef = .int .u8 ((peekN cs at_ : Nat) : Int) := hdep 135 (by kernel_rfl)
              have h139 : A.tmps[139]?.getD undef = .int .u8 ((peekN cs at_ : Nat) : Int) := hdep 139 (by kernel_rfl)
              have h131 : A.tmps[131]?.getD undef = .bool true := hdep 131 (by kernel_rfl)
              refine if_yes ((wanted_is (j := 7) (b := true) (by kernel_rfl) (by kernel_rfl) h131).trans rfl) ?_
              simp [go_sem, h135, h139]
              exact hK.out _ _ (Below.refl _ _) rfl
            · intro A wx hR hout hdep K hK
              have h131 : A.tmps[131]?.getD undef = .bool true := hdep 131 (by kernel_rfl)
              have h140 : A.tmps[140]?.getD undef = .bool true := hdep 140 (by kernel_rfl)
              refine if_yes (by kernel_rfl) ?_
              simp [go_sem, h131, h140]
              exact hK.out _ _ (Below.refl _ _) rfl
            · intro A wx hR hout hdep K hK
              have h141 : A.tmps[141]?.getD undef = .bool true := hdep 141 (by kernel_rfl)
              refine if_yes (by kernel_rfl) ?_
              simp [go_sem, h141]
              exact hK.out _ _ (Below.refl _ _) rfl
            · intro A wx hR hout hdep K hK
              have h142 : A.tmps[142]?.getD undef = .bool true := hdep 142 (by kernel_rfl)
              refine if_yes ((wanted_is (j := 18) (b := true) (by kernel_rfl) (by kernel_rfl) h142).trans rfl) ?_
              simp [go_sem, ]
              refine (awake9 _).mono ?_
              rintro e wG ⟨rfl, hbG⟩
              exact hK.out _ _ hbG rfl
            · intro A wx hR hout hdep K hK
              have h142 : A.tmps[142]?.getD undef = .bool true := hdep 142 (by kernel_rfl)
              have h143 : A.tmps[143]?.getD undef = .bool true := hdep 143 (by kernel_rfl)
              refine if_yes (by kernel_rfl) ?_
              simp [go_sem, h142, h143]
              exact hK.out _ _ (Below.refl _ _) rfl
            · intro A wx hR hout hdep K hK
              have h144 : A.tmps[144]?.getD undef = .bool true := hdep 144 (by kernel_rfl)
              refine if_yes (by kernel_rfl) ?_
              simp [go_sem, h144]
              exact hK.out _ _ (Below.refl _ _) rfl

            simp only [putSl, Act.put, List.setIfInBounds_toArray, List.set_cons_zero, List.set_cons_succ]
            have hz : f 12 = .bool true := hf 12 (by kernel_rfl)
            rw [hz]
            go_wp2
            go_ret
            exact ⟨rfl, below_tr hbw hR⟩
          · obtain ⟨q, hq⟩ : ∃ q, q = pg - first := ⟨_, rfl⟩
            have x1 : IntKind.u32.wrap ((pg : Int) - (first : Int)) = (q : Int) := by rw [IntKind.wrap_u32]; omega
            have x2 : ((pg : Int) - (first : Int)) % 4294967296 = (q : Int) := by omega
            have hd1 : first ≤ pg := by omega
            have hd2 : ¬ q < n := by omega
            clear hin hq hpf
            go_wp2
            refine wp_region_slots (R := Ext) [⟨124, fun v _ => v = .agg #[.slice am' nm' pm', .slice ac' nc' pc', .int .u64 (bs : Int), .slice ap' np' pp'], fun _ _ _ _ h => h⟩, ⟨125, fun v _ => v = .int .u32 (pg : Int), fun _ _ _ _ h => h⟩, ⟨126, fun v _ => v = .int .i64 (protN ps pg), fun _ _ _ _ h => h⟩, ⟨127, fun v _ => v = .agg #[.slice am ms.length pm, .slice ac cs.length pc, .int .u64 (bs : Int), .slice ap ps.length pp], fun _ _ _ _ h => h⟩, ⟨128, fun v _ => v = .int .u32 (pg : Int), fun _ _ _ _ h => h⟩, ⟨129, fun v _ => v = .int .i64 (protN ps pg), fun _ _ _ _ h => h⟩, ⟨130, fun v _ => v = .bool true, fun _ _ _ _ h => h⟩, ⟨131, fun v _ => v = .bool true, fun _ _ _ _ h => h⟩, ⟨132, fun v _ => v = .pointer (some ⟨w2.heap.size, 0, none⟩), fun _ _ _ _ h => h⟩, ⟨133, fun v _ => v = .agg #[.slice am' nm' pm', .slice ac' nc' pc'], fun _ _ _ _ h => h⟩, ⟨134, fun v _ => v = .int .u64 (at_ : Int), fun _ _ _ _ h => h⟩, ⟨135, fun v _ => v = .int .u8 ((peekN cs at_ : Nat) : Int), fun _ _ _ _ h => h⟩, ⟨136, fun v _ => v = .pointer (some ⟨w.heap.size, 0, none⟩), fun _ _ _ _ h => h⟩, ⟨137, fun v _ => v = .agg #[.slice am ms.length pm, .slice ac cs.length pc], fun _ _ _ _ h => h⟩, ⟨138, fun v _ => v = .int .u64 (at_ : Int), fun _ _ _ _ h => h⟩, ⟨139, fun v _ => v = .int .u8 ((peekN cs at_ : Nat) : Int), fun _ _ _ _ h => h⟩, ⟨140, fun v _ => v = .bool true, fun _ _ _ _ h => h⟩, ⟨141, fun v _ => v = .bool true, fun _ _ _ _ h => h⟩, ⟨142, fun v _ => v = .bool true, fun _ _ _ _ h => h⟩, ⟨143, fun v _ => v = .bool true, fun _ _ _ _ h => h⟩, ⟨144, fun v _ => v = .bool true, fun _ _ _ _ h => h⟩, ⟨12, fun v _ => v = .bool true, fun _ _ _ _ h => h⟩] _ (by kernel_rfl) rfl (by kernel_rfl) (Below.drew (Below.refl _ _)) (fun _ _ _ h1 h2 => below_tr h1 h2) (fun QQ => ⟨?_, ?_, ?_, ?_, ?_, ?_, ?_, ?_, ?_, ?_, ?_, ?_, ?_, ?_, ?_, ?_, ?_, ?_, ?_, ?_, ?_, ?_, trivial⟩) (fun f wy hR hf => ?_)
            · intro A wx hR hout hdep K hK
              have h13 : A.tmps[13]?.getD undef = .pointer (some ⟨w2.heap.size, 0, none⟩) := hout 13 (by kernel_rfl)
              refine if_yes (by kernel_rfl) ?_
              have e0 := keep_cell hR e0
              have e1 := keep_cell hR e1
              have e2 := keep_cell hR e2
              have e3 := keep_cell hR e3
              have y0 := keep_cell hR y0
              have y1 := keep_cell hR y1
              have y2 := keep_cell hR y2
              have y3 := keep_cell hR y3
              simp [go_sem, h13, e0, e1, e2, e3, y0, y1, y2, y3]
              exact hK.out _ _ (Below.refl _ _) rfl
            · intro A wx hR hout hdep K hK
              have h17 : A.tmps[17]?.getD undef = .int .u32 (pg : Int) := hout 17 (by kernel_rfl)
              refine if_yes (by kernel_rfl) ?_
              simp [go_sem, h17]
              exact hK.out _ _ (Below.refl _ _) rfl
            · intro A wx hR hout hdep K hK
              have h124 : A.tmps[124]?.getD undef = .agg #[.slice am' nm' pm', .slice ac' nc' pc', .int .u64 (bs : Int), .slice ap' np' pp'] := hdep 124 (by kernel_rfl)
              have h125 : A.tmps[125]?.getD undef = .int .u32 (pg : Int) := hdep 125 (by kernel_rfl)
              refine if_yes (by kernel_rfl) ?_
              simp [go_sem, h124, h125]
              refine (KP.out pg _ (below_tr hbW hR)).mono ?_
              rintro e wG ⟨rfl, hbG⟩
              rw [hPR]
              exact hK.out _ _ hbG rfl
            · intro A wx hR hout hdep K hK
              have h6 : A.tmps[6]?.getD undef = .pointer (some ⟨w.heap.size, 0, none⟩) := hout 6 (by kernel_rfl)
              refine if_yes (by kernel_rfl) ?_
              have e0 := keep_cell hR e0
              have e1 := keep_cell hR e1
              have e2 := keep_cell hR e2
              have e3 := keep_cell hR e3
              have y0 := keep_cell hR y0
              have y1 := keep_cell hR y1
              have y2 := keep_cell hR y2
              have y3 := keep_cell hR y3
              simp [go_sem, h6, e0, e1, e2, e3, y0, y1, y2, y3]
              exact hK.out _ _ (Below.refl _ _) rfl
            · intro A wx hR hout hdep K hK
              have h17 : A.tmps[17]?.getD undef = .int .u32 (pg : Int) := hout 17 (by kernel_rfl)
              refine if_yes (by kernel_rfl) ?_
              simp [go_sem, h17]
              exact hK.out _ _ (Below.refl _ _) rfl
            · intro A wx hR hout hdep K hK
              have h127 : A.tmps[127]?.getD undef = .agg #[.slice am ms.length pm, .slice ac cs.length pc, .int .u64 (bs : Int), .slice ap ps.length pp] := hdep 127 (by kernel_rfl)
              have h128 : A.tmps[128]?.getD undef = .int .u32 (pg : Int) := hdep 128 (by kernel_rfl)
              refine if_yes (by kernel_rfl) ?_
              simp [go_sem, h127, h128]
              refine (rprot15 _ _ _ bs pg ps _ ⟨_, _, _, rfl⟩ ⟨_, _, _, rfl⟩ (hs1.out.keep hR).2.2).mono ?_
              rintro e wG ⟨rfl, hbG⟩
              exact hK.out _ _ hbG rfl
            · intro A wx hR hout hdep K hK
              have h126 : A.tmps[126]?.getD undef = .int .i64 (protN ps pg) := hdep 126 (by kernel_rfl)
              have h129 : A.tmps[129]?.getD undef = .int .i64 (protN ps pg) := hdep 129 (by kernel_rfl)
              refine if_yes (by kernel_rfl) ?_
              simp [go_sem, h126, h129]
              exact hK.out _ _ (Below.refl _ _) rfl
            · intro A wx hR hout hdep K hK
              have h130 : A.tmps[130]?.getD undef = .bool true := hdep 130 (by kernel_rfl)
              refine if_yes (by kernel_rfl) ?_
              simp [go_sem, h130]
              exact hK.out _ _ (Below.refl _ _) rfl
            · intro A wx hR hout hdep K hK
              have h13 : A.tmps[13]?.getD undef = .pointer (some ⟨w2.heap.size, 0, none⟩) := hout 13 (by kernel_rfl)
              have h131 : A.tmps[131]?.getD undef = .bool true := hdep 131 (by kernel_rfl)
              refine if_yes ((wanted_is (j := 7) (b := true) (by kernel_rfl) (by kernel_rfl) h131).trans rfl) ?_
              simp [go_sem, h13]
              exact hK.out _ _ (Below.refl _ _) rfl
            · intro A wx hR hout hdep K hK
              have h132 : A.tmps[132]?.getD undef = .pointer (some ⟨w2.heap.size, 0, none⟩) := hdep 132 (by kernel_rfl)
              have h131 : A.tmps[131]?.getD undef = .bool true := hdep 131 (by kernel_rfl)
              refine if_yes ((wanted_is (j := 7) (b := true) (by kernel_rfl) (by kernel_rfl) h131).trans rfl) ?_
              have e0 := keep_cell hR e0
              have e1 := keep_cell hR e1
              have e2 := keep_cell hR e2
              have e3 := keep_cell hR e3
              have y0 := keep_cell hR y0
              have y1 := keep_cell hR y1
              have y2 := keep_cell hR y2
              have y3 := keep_cell hR y3
              simp [go_sem, h132, e0, e1, e2, e3, y0, y1, y2, y3]
              exact hK.out _ _ (Below.refl _ _) rfl
            · intro A wx hR hout hdep K hK
              have h18 : A.tmps[18]?.getD undef = .int .u64 (at_ : Int) := hout 18 (by kernel_rfl)
              have h131 : A.tmps[131]?.getD undef = .bool true := hdep 131 (by kernel_rfl)
              refine if_yes ((wanted_is (j := 7) (b := true) (by kernel_rfl) (by kernel_rfl) h131).trans rfl) ?_
              simp [go_sem, h18]
              exact hK.out _ _ (Below.refl _ _) rfl
            · intro A wx hR hout hdep K hK
              have h133 : A.tmps[133]?.getD undef = .agg #[.slice am' nm' pm', .slice ac' nc' pc'] := hdep 133 (by kernel_rfl)
              have h134 : A.tmps[134]?.getD undef = .int .u64 (at_ : Int) := hdep 134 (by kernel_rfl)
              have h131 : A.tmps[131]?.getD undef = .bool true := hdep 131 (by kernel_rfl)
              refine if_yes ((wanted_is (j := 7) (b := true) (by kernel_rfl) (by kernel_rfl) h131).trans rfl) ?_
              simp [go_sem, h133, h134]
              refine (KE.out at_ _ hbsa (below_tr hbW hR)).mono ?_
              rintro e wG ⟨rfl, hbG⟩
              rw [hPK]
              exact hK.out _ _ hbG rfl
            · intro A wx hR hout hdep K hK
              have h6 : A.tmps[6]?.getD undef = .pointer (some ⟨w.heap.size, 0, none⟩) := hout 6 (by kernel_rfl)
              have h131 : A.tmps[131]?.getD undef = .bool true := hdep 131 (by kernel_rfl)
              refine if_yes ((wanted_is (j := 7) (b := true) (by kernel_rfl) (by kernel_rfl) h131).trans rfl) ?_
              simp [go_sem, h6]
              exact hK.out _ _ (Below.refl _ _) rfl
            · intro A wx hR hout hdep K hK
              have h136 : A.tmps[136]?.getD undef = .pointer (some ⟨w.heap.size, 0, none⟩) := hdep 136 (by kernel_rfl)
              have h131 : A.tmps[131]?.getD undef = .bool true := hdep 131 (by kernel_rfl)
              refine if_yes ((wanted_is (j := 7) (b := true) (by kernel_rfl) (by kernel_rfl) h131).trans rfl) ?_
              have e0 := keep_cell hR e0
              have e1 := keep_cell hR e1
              have e2 := keep_cell hR e2
              have e3 := keep_cell hR e3
              have y0 := keep_cell hR y0
              have y1 := keep_cell hR y1
              have y2 := keep_cell hR y2
              have y3 := keep_cell hR y3
              simp [go_sem, h136, e0, e1, e2, e3, y0, y1, y2, y3]
              exact hK.out _ _ (Below.refl _ _) rfl
            · intro A wx hR hout hdep K hK
              have h18 : A.tmps[18]?.getD undef = .int .u64 (at_ : Int) := hout 18 (by kernel_rfl)
              have h131 : A.tmps[131]?.getD undef = .bool true := hdep 131 (by kernel_rfl)
              refine if_yes ((wanted_is (j := 7) (b := true) (by kernel_rfl) (by kernel_rfl) h131).trans rfl) ?_
              simp [go_sem, h18]
              exact hK.out _ _ (Below.refl _ _) rfl
            · intro A wx hR hout hdep K hK
              have h137 : A.tmps[137]?.getD undef = .agg #[.slice am ms.length pm, .slice ac cs.length pc] := hdep 137 (by kernel_rfl)
              have h138 : A.tmps[138]?.getD undef = .int .u64 (at_ : Int) := hdep 138 (by kernel_rfl)
              have h131 : A.tmps[131]?.getD undef = .bool true := hdep 131 (by kernel_rfl)
              refine if_yes ((wanted_is (j := 7) (b := true) (by kernel_rfl) (by kernel_rfl) h131).trans rfl) ?_
              simp [go_sem, h137, h138]
              refine (peek26 _ _ cs at_ _ ⟨_, _, _, rfl⟩ (hs1.out.keep hR).2.1 HWO.out hbsa).mono ?_
              rintro e wG ⟨rfl, hbG⟩
              exact hK.out _ _ hbG rfl
            · intro A wx hR hout hdep K hK
              have h135 : A.tmps[135]?.getD undef = .int .u8 ((peekN cs at_ : Nat) : Int) := hdep 135 (by kernel_rfl)
              have h139 : A.tmps[139]?.getD undef = .int .u8 ((peekN cs at_ : Nat) : Int) := hdep 139 (by kernel_rfl)
              have h131 : A.tmps[131]?.getD undef = .bool true := hdep 131 (by kernel_rfl)
              refine if_yes ((wanted_is (j := 7) (b := true) (by kernel_rfl) (by kernel_rfl) h131).trans rfl) ?_
              simp [go_sem, h135, h139]
              exact hK.out _ _ (Below.refl _ _) rfl
            · intro A wx hR hout hdep K hK
              have h131 : A.tmps[131]?.getD undef = .bool true := hdep 131 (by kernel_rfl)
              have h140 : A.tmps[140]?.getD undef = .bool true := hdep 140 (by kernel_rfl)
              refine if_yes (by kernel_rfl) ?_
              simp [go_sem, h131, h140]
              exact hK.out _ _ (Below.refl _ _) rfl
            · intro A wx hR hout hdep K hK
              have h141 : A.tmps[141]?.getD undef = .bool true := hdep 141 (by kernel_rfl)
              refine if_yes (by kernel_rfl) ?_
              simp [go_sem, h141]
              exact hK.out _ _ (Below.refl _ _) rfl
            · intro A wx hR hout hdep K hK
              have h142 : A.tmps[142]?.getD undef = .bool true := hdep 142 (by kernel_rfl)
              refine if_yes ((wanted_is (j := 18) (b := true) (by kernel_rfl) (by kernel_rfl) h142).trans rfl) ?_
              simp [go_sem, ]
              refine (awake9 _).mono ?_
              rintro e wG ⟨rfl, hbG⟩
              exact hK.out _ _ hbG rfl
            · intro A wx hR hout hdep K hK
              have h142 : A.tmps[142]?.getD undef = .bool true := hdep 142 (by kernel_rfl)
              have h143 : A.tmps[143]?.getD undef = .bool true := hdep 143 (by kernel_rfl)
              refine if_yes (by kernel_rfl) ?_
              simp [go_sem, h142, h143]
              exact hK.out _ _ (Below.refl _ _) rfl
            · intro A wx hR hout hdep K hK
              have h144 : A.tmps[144]?.getD undef = .bool true := hdep 144 (by kernel_rfl)
              refine if_yes (by kernel_rfl) ?_
              simp [go_sem, h144]
              exact hK.out _ _ (Below.refl _ _) rfl

            simp only [putSl, Act.put, List.setIfInBounds_toArray, List.set_cons_zero, List.set_cons_succ]
            have hz : f 12 = .bool true := hf 12 (by kernel_rfl)
            rw [hz]
            go_wp2
            go_ret
            exact ⟨rfl, below_tr hbw hR⟩
end Go.Proofs.Ytpaanfeleeomnaa
