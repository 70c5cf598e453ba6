/- What is proved here: the law GuestAgain, walked. -/
import Derived.Test.YtpaanfeleeomnaaGagp
import Derived.Test.YtpaanfeleeomnaaGmap2
import Derived.LoopTactic
namespace Go.Proofs.Ytpaanfeleeomnaa
open Go.RowKit
set_option linter.unusedVariables false
set_option linter.unusedSimpArgs false
set_option maxRecDepth 100000
def AgM (ms cs ps : List (Nat × Int)) (bs first n : Nat) (w : World) (e : Ending) (w' : World) : Prop := ∃ am nm pm ac nc pc ap np pp code ms' cs' ps', e = .returned (.tuple #[.agg #[.slice am nm pm, .slice ac nc pc, .int .u64 (bs : Int), .slice ap np pp], .int .i64 code]) ∧ OwnG w.heap.size w' (.slice am nm pm) (.slice ac nc pc) (.slice ap np pp) ms' cs' ps' ∧ Below w.heap.size w w' ∧
      (code ≠ 0 ∨ (code = 0 ∧ n ≤ 1048576 ∧ np = ps.length + n ∧ ∀ B w2, OwnG B w2 (.slice am nm pm) (.slice ac nc pc) (.slice ap np pp) ms' cs' ps' → Calls Try.prog 20 #[.agg #[.slice am nm pm, .slice ac nc pc, .int .u64 (bs : Int), .slice ap np pp], .int .u32 (first : Int), .int .u32 (n : Int)] w2 fun e w3 => ∃ am' nm' pm' ac' nc' pc' ap' np' pp', e = .returned (.tuple #[.agg #[.slice am' nm' pm', .slice ac' nc' pc', .int .u64 (bs : Int), .slice ap' np' pp'], .int .i64 0]) ∧ OwnG w2.heap.size w3 (.slice am' nm' pm') (.slice ac' nc' pc') (.slice ap' np' pp') ms cs ps ∧ Below w2.heap.size w2 w3))
theorem again_map (vm vc vp : Value) (ms cs ps : List (Nat × Int)) (bs first n : Nat) (prot : Int) (w : World) (hsl : SlG w vm vc vp ms cs ps) (hrc : ∀ y ∈ cs, y.1 < 18446744073709551616) (hw : Words cs) (h1 : first < 4294967296) (h2 : n < 4294967296) (hf : FitG ms cs ps bs) (hm : n ≠ 0 → mid ps first (first + n - 1) = []) :
    Calls Try.prog 18 #[.agg #[vm, vc, .int .u64 (bs : Int), vp], .int .u32 (first : Int), .int .u32 (n : Int), .int .i64 prot] w (AgM ms cs ps bs first n w) := by
  have lm := hf.fq.1
  have lc := hf.fq.2.1
  have lp := hf.lp
  have bad : ∀ (c : Int) (hc : c ≠ 0), (Calls Try.prog 18 #[.agg #[vm, vc, .int .u64 (bs : Int), vp], .int .u32 (first : Int), .int .u32 (n : Int), .int .i64 prot] w fun e w' => ∃ vm' vc' vp', e = .returned (.tuple #[.agg #[vm', vc', .int .u64 (bs : Int), vp'], .int .i64 c]) ∧ OwnG w.heap.size w' vm' vc' vp' ms cs ps ∧ Below w.heap.size w w') → Calls Try.prog 18 #[.agg #[vm, vc, .int .u64 (bs : Int), vp], .int .u32 (first : Int), .int .u32 (n : Int), .int .i64 prot] w (AgM ms cs ps bs first n w) := fun c hc k => k.mono (fun e w' ⟨vm', vc', vp', he, ho, hb⟩ => by
    obtain ⟨am, nm, pm, ac, nc, pc, rfl, rfl⟩ := ho.1.shape
    obtain ⟨ap, np, pp, rfl⟩ := own_shape ho.2
    exact ⟨_, _, _, _, _, _, _, _, _, c, _, _, _, he, ho, hb, Or.inl hc⟩)
  cases hp : (gpagesOk first n && protOk prot) with
  | false => exact bad 22 (by decide) (gmap18_inval vm vc vp ms cs ps bs first n prot w hsl lm lc lp h1 h2 hp)
  | true =>
  have hp1 : gpagesOk first n = true ∧ protOk prot = true := by simpa using hp
  have hp2 : n ≠ 0 ∧ first + n ≤ 1048576 := by simpa [gpagesOk] using hp1.1
  by_cases hroom : ps.length - (mid ps first (first + n - 1)).length + n ≤ 256
  case neg => exact bad 12 (by decide) (gmap18_mem vm vc vp ms cs ps bs first n prot w hsl lm lc lp h1 h2 hf.sp hf.fq hw hrc hf.le _ rfl hp (by omega) hf.reach)
  refine (gmap18 vm vc vp ms cs ps bs first n prot w hsl lm lc lp h1 h2 hf.sp hf.fq hw hrc hf.le _ rfl hp hroom hf.reach).mono (fun e w' k => ?_)
  rcases k with ⟨hl, vm', vc', vp', he, ho, hb⟩ | ⟨hl, vm', vc', vp', he, ho, hb⟩
  · obtain ⟨am, nm, pm, ac, nc, pc, rfl, rfl⟩ := ho.1.shape
    obtain ⟨ap, np, pp, rfl⟩ := own_shape ho.2
    have hm := hm hp2.1
    have hlen := new_len (ps := ps) (first := first) (n := n) (last := first + n - 1) (prot := prot) hf.sp (by omega)
    have hnp : np = ps.length + n := by
      obtain ⟨_, _, e, _⟩ := ho.p
      cases e
      rw [hlen, hm]; rfl
    have hF := fit_maps (prot := prot) hf.reach hf.le hf.fq hp2.2 hl
    have hcl := clear_free hf rfl hp2.1 hp2.2 hm
    obtain ⟨q1, q2⟩ := again_eq (prot := prot) hf rfl hp2.1 hp2.2 hm
    refine ⟨_, _, _, _, _, _, _, _, _, 0, _, _, _, he, ho, hb, Or.inr ⟨rfl, by omega, hnp, fun B w2 ho2 => ?_⟩⟩
    have k := gunmap20 _ _ _ _ _ _ bs first n w2 ho2.sl hl (by rw [hcl]; exact lc) (by rw [hlen]; exact hroom) h1 h2 (new_srt hf.sp rfl hp2.1) (by rw [hcl]; exact hF) (by rw [hcl]; exact hw) (by rw [hcl]; exact hrc) hf.le _ rfl (fun x hx => by
      rcases new_mem hx with g | g
      · exact (hf.pg x g).1
      · omega) (by rw [hcl, hcl]; exact hF) hp1.1
    rw [q1, hcl] at k
    rw [hcl] at q2
    rw [hcl, q2] at k
    refine k.mono (fun e w3 ⟨vm', vc', vp', he, ho, hb⟩ => ?_)
    obtain ⟨am, nm, pm, ac, nc, pc, rfl, rfl⟩ := ho.1.shape
    obtain ⟨ap, np, pp, rfl⟩ := own_shape ho.2
    exact ⟨_, _, _, _, _, _, _, _, _, he, ho, hb⟩
  · obtain ⟨am, nm, pm, ac, nc, pc, rfl, rfl⟩ := ho.1.shape
    obtain ⟨ap, np, pp, rfl⟩ := own_shape ho.2
    exact ⟨_, _, _, _, _, _, _, _, _, 105, _, _, _, he, ho, hb, Or.inl (by decide)⟩
theorem sameG_refl (ms cs ps : List (Nat × Int)) (bs : Nat) : sameG ms cs ps bs ms cs ps bs = true := decide_eq_true ⟨rfl, rfl, rfl, rfl⟩
set_option maxHeartbeats 8000000 in
theorem again_walk (vm vc vp : Value) (ms cs ps : List (Nat × Int)) (bs : Nat) (w : World) (hsl : SlG w vm vc vp ms cs ps) (hrc : ∀ y ∈ cs, y.1 < 18446744073709551616) (hw : Words cs) (hbs : bs < 18446744073709551616) (hpn : ∀ y ∈ ps, y.1 < 4294967296) (first n : Nat) (prot : Int) (h1 : first < 4294967296) (h2 : n < 4294967296) :
    Calls Try.prog 7 #[.agg #[vm, vc, .int .u64 (bs : Int), vp], .int .u32 (first : Int), .int .u32 (n : Int), .int .i64 prot] w fun e w' => e = .returned (.bool true) ∧ Below w.heap.size w w' := by
  obtain ⟨W, hW, hb, hsz, c0, c1, c2, c3, _⟩ := box4 w vm vc (.int .u64 (bs : Int)) vp 29
  obtain ⟨am, pm, rfl, lpm1, lpm2⟩ : ∃ a p, vm = .slice a ms.length p ∧ ms.length ≤ p ∧ p ≤ 9223372036854775807 := by obtain ⟨a, p, h, h1, h2, _⟩ := id hsl.1; exact ⟨_, _, h, h1, h2⟩
  obtain ⟨ac, pc, rfl, lpc1, lpc2⟩ : ∃ a p, vc = .slice a cs.length p ∧ cs.length ≤ p ∧ p ≤ 9223372036854775807 := by obtain ⟨a, p, h, h1, h2, _⟩ := id hsl.2.1; exact ⟨_, _, h, h1, h2⟩
  obtain ⟨ap, pp, rfl, lpp1, lpp2⟩ : ∃ a p, vp = .slice a ps.length p ∧ ps.length ≤ p ∧ p ≤ 9223372036854775807 := by obtain ⟨a, p, h, h1, h2, _⟩ := id hsl.2.2; exact ⟨_, _, h, h1, h2⟩
  have K8 := gfew8 am ac ap ms.length pm cs.length pc ps.length pp bs W (by omega) (by omega) (by omega)
  have K11 : Hid (∀ w', Below W.heap.size W w' → Calls Try.prog 11 #[.agg #[.slice am ms.length pm, .slice ac cs.length pc, .int .u64 (bs : Int), .slice ap ps.length pp]] w' fun e w'' => e = .returned (.bool (fitGB ms cs ps bs)) ∧ Below w'.heap.size w' w'') := fun w' hb' =>
    rfit11 _ _ _ ms cs ps bs w' (hsl.keep (below_tr hb hb')) hrc hbs
  have HSL : Hid (SlG W (.slice am ms.length pm) (.slice ac cs.length pc) (.slice ap ps.length pp) ms cs ps) := hsl.keep hb
  have HRC : Hid (∀ y ∈ cs, y.1 < 18446744073709551616) := hrc
  have HPN : Hid (∀ y ∈ ps, y.1 < 4294967296) := hpn
  have HWO : Hid (Words cs) := hw
  clear lpm1 lpm2 lpc1 lpc2 lpp1 hsl hrc hw hpn
  by_cases hfew : ms.length ≤ 70 ∧ cs.length ≤ 100 ∧ ps.length ≤ 60
  case neg =>
    rw [decide_eq_false hfew] at K8
    clear hfew
    go_enter Try.func7, Try.ntmps7
    go_wp2_with fail
    refine K8.mono ?_
    rintro e w1 ⟨rfl, hb1⟩
    go_wp2_with fail
    refine (awake9 w1).mono ?_
    rintro e wz ⟨rfl, hbz⟩
    go_wp2
    go_ret
    exact ⟨rfl, (by (repeat (first | with_reducible assumption | with_reducible exact Below.refl _ _ | with_reducible refine Below.drew ?_ | with_reducible refine below_alloc ?_ _ | (with_reducible refine below_set ?_ ?_ _; rotate_left; focus (first | (simp; done) | (simp; omega))) | with_reducible refine below_tr ?_ (by with_reducible assumption))))⟩
  rw [decide_eq_true hfew] at K8
  cases hfit : fitGB ms cs ps bs with
  | false =>
    rw [hfit] at K11
    clear hfew hfit
    go_enter Try.func7, Try.ntmps7
    go_wp2_with fail
    refine K8.mono ?_
    rintro e w1 ⟨rfl, hb1⟩
    have e0 := keep_cell hb1 c0
    have e1 := keep_cell hb1 c1
    have e2 := keep_cell hb1 c2
    have e3 := keep_cell hb1 c3
    clear K8
    go_wp2_with fail
    refine (K11.out w1 hb1).mono ?_
    rintro e w2 ⟨rfl, hb2⟩
    go_wp2_with fail
    refine (awake9 w2).mono ?_
    rintro e wz ⟨rfl, hbz⟩
    go_wp2
    go_ret
    exact ⟨rfl, (by (repeat (first | with_reducible assumption | with_reducible exact Below.refl _ _ | with_reducible refine Below.drew ?_ | with_reducible refine below_alloc ?_ _ | (with_reducible refine below_set ?_ ?_ _; rotate_left; focus (first | (simp; done) | (simp; omega))) | with_reducible refine below_tr ?_ (by with_reducible assumption))))⟩
  | true =>
  rw [hfit] at K11
  have HQ : Hid (FitG ms cs ps bs) := of_fitGB hfit
  have HFE : Hid (ms.length ≤ 70 ∧ cs.length ≤ 100 ∧ ps.length ≤ 60) := hfew
  have lps : ps.length ≤ 60 := hfew.2.2
  clear hfit hfew
  go_enter Try.func7, Try.ntmps7
  go_wp2_with fail
  refine K8.mono ?_
  rintro e w1 ⟨rfl, hb1⟩
  have e0 := keep_cell hb1 c0
  have e1 := keep_cell hb1 c1
  have e2 := keep_cell hb1 c2
  have e3 := keep_cell hb1 c3
  clear K8
  go_wp2_with fail
  refine (K11.out w1 hb1).mono ?_
  rintro e w2 ⟨rfl, hb2⟩
  clear K11 hW hsz c0 c1 c2 c3
  have e0 := keep_cell hb2 e0
  have e1 := keep_cell hb2 e1
  have e2 := keep_cell hb2 e2
  have e3 := keep_cell hb2 e3
  have HSL : Hid (SlG w2 (.slice am ms.length pm) (.slice ac cs.length pc) (.slice ap ps.length pp) ms cs ps) := (HSL.out.keep hb1).keep hb2
  have hb := below_tr (below_tr hb hb1) hb2
  clear hb1 hb2
  have HX : Hid (∀ i (h : i < ps.length), ∃ b o, ap = some ⟨b, o, none⟩ ∧ w2.cell? ⟨b, o + i * 2, none⟩ = some (.int .u32 (ps[i].1 : Int)) ∧ w2.cell? ⟨b, o + i * 2 + 1, none⟩ = some (.int .i64 ps[i].2)) := by
    obtain ⟨ao, cap, e, _, _, _, g⟩ := HSL.out.2.2
    cases e
    exact g
  go_wp2
  go_loopw [27] (fun i wr => ∃ k : Nat, k ≤ ps.length ∧ i = .int .i64 (k : Int) ∧ (∀ j (hj : j < k) (hl : j < ps.length), ps[j].1 < first ∨ first + n ≤ ps[j].1) ∧ Below w2.heap.size w2 wr) (fun i _ => ps.length - (intOf i).toNat)
  case atStart => exact ⟨0, Nat.zero_le _, rfl, fun j hj => by omega, Below.refl _ _⟩
  case round =>
    obtain ⟨k, hk, rfl, hno, hbr⟩ := hrel
    have HN : Hid _ := hno
    clear hno
    have hbw := below_tr hb hbr
    by_cases hkl : k < ps.length
    · obtain ⟨b, o, rfl, d0, d1⟩ := HX.out k hkl
      have e0' := keep_cell hbr d0
      have e1' := keep_cell hbr d1
      have hpk := HPN.out _ (List.getElem_mem hkl)
      by_cases hin : ps[k].1 < first ∨ first + n ≤ ps[k].1
      · have HK : Hid (∀ j (hj : j < k + 1) (hl : j < ps.length), ps[j].1 < first ∨ first + n ≤ ps[j].1) := fun j hj hl => by
          by_cases e : j = k
          · subst e; exact hin
          · exact HN.out j (by omega) hl
        generalize ps[k].1 = p at e0' hpk hin
        generalize ps[k].2 = r at e1'
        clear d0 d1
        obtain ⟨W5, hW5, hb5, hsz5, l0, l1, _, _⟩ := box2 wr (.int .u32 (p : Int)) (.int .i64 r) 46
        by_cases hpf : p < first
        · have hd1 : decide ((first : Int) ≤ (p : Int)) = false := by simp; omega
          have hd2 : decide (first ≤ p) = false := by simp; omega
          clear hin
          go_wp2
          go_roundw
          case rel => exact ⟨k + 1, by omega, by go_num, HK.out, (by (repeat (first | with_reducible assumption | with_reducible exact Below.refl _ _ | with_reducible refine Below.drew ?_ | with_reducible refine below_alloc ?_ _ | (with_reducible refine below_set ?_ ?_ _; rotate_left; focus (first | (simp; done) | (simp; omega))) | with_reducible refine below_tr ?_ (by with_reducible assumption))))⟩
          case measure => simp [intOf]; omega
        · obtain ⟨q, hq⟩ : ∃ q, q = p - first := ⟨_, rfl⟩
          have x1 : IntKind.u32.wrap ((p : Int) - (first : Int)) = (q : Int) := by rw [IntKind.wrap_u32]; omega
          have x2 : ((p : Int) - (first : Int)) % 4294967296 = (q : Int) := by omega
          have hd1 : first ≤ p := by omega
          have hd2 : n ≤ q := by omega
          clear hin hpf hq
          go_wp2
          go_roundw
          case rel => exact ⟨k + 1, by omega, by go_num, HK.out, (by (repeat (first | with_reducible assumption | with_reducible exact Below.refl _ _ | with_reducible refine Below.drew ?_ | with_reducible refine below_alloc ?_ _ | (with_reducible refine below_set ?_ ?_ _; rotate_left; focus (first | (simp; done) | (simp; omega))) | with_reducible refine below_tr ?_ (by with_reducible assumption))))⟩
          case measure => simp [intOf]; omega
      · generalize ps[k].1 = p at e0' hpk hin
        generalize ps[k].2 = r at e1'
        clear d0 d1
        obtain ⟨W5, hW5, hb5, hsz5, l0, l1, _, _⟩ := box2 wr (.int .u32 (p : Int)) (.int .i64 r) 46
        obtain ⟨q, hq⟩ : ∃ q, q = p - first := ⟨_, rfl⟩
        have x1 : IntKind.u32.wrap ((p : Int) - (first : Int)) = (q : Int) := by rw [IntKind.wrap_u32]; omega
        have x2 : ((p : Int) - (first : Int)) % 4294967296 = (q : Int) := by omega
        have hd1 : first ≤ p := by omega
        have hd2 : q < n := by omega
        clear hin hq
        go_wp2_with fail
        refine (awake9 _).mono ?_
        rintro e wz ⟨rfl, hbz⟩
        go_wp2
        go_ret
        exact ⟨rfl, (by (repeat (first | with_reducible assumption | with_reducible exact Below.refl _ _ | with_reducible refine Below.drew ?_ | with_reducible refine below_alloc ?_ _ | (with_reducible refine below_set ?_ ?_ _; rotate_left; focus (first | (simp; done) | (simp; omega))) | with_reducible refine below_tr ?_ (by with_reducible assumption))))⟩
    · have HM : Hid (n ≠ 0 → mid ps first (first + n - 1) = []) := fun hn0 => mid_nil (fun x hx => by
        obtain ⟨j, hj, rfl⟩ := List.getElem_of_mem hx
        have := HN.out j (by omega) hj
        omega)
      obtain rfl : k = ps.length := by omega
      have e0 := keep_cell hbr e0
      have e1 := keep_cell hbr e1
      have e2 := keep_cell hbr e2
      have e3 := keep_cell hbr e3
      have HS1 : Hid (SlG wr (.slice am ms.length pm) (.slice ac cs.length pc) (.slice ap ps.length pp) ms cs ps) := HSL.out.keep hbr
      clear hbr HX HN HSL
      go_wp2_with fail
      refine (again_map _ _ _ ms cs ps bs first n prot wr HS1.out HRC.out HWO.out h1 h2 HQ.out HM.out).mono ?_
      rintro e w4 ⟨am', nm', pm', ac', nc', pc', ap', np', pp', code, ms', cs', ps', rfl, ho4, hb4, hcase⟩
      obtain ⟨W5, hW5, hb5, hsz5, l0, l1, l2, l3, _⟩ := box4 w4 (.slice am' nm' pm') (.slice ac' nc' pc') (.int .u64 (bs : Int)) (.slice ap' np' pp') 29
      have hbw := below_tr (below_tr hbw hb4) hb5
      rcases hcase with hcode | ⟨rfl, hn, rfl, hun⟩
      · have hcd : (code != 0) = true := by simpa using hcode
        have HO : Hid _ := ho4
        clear ho4
        go_wp2_with fail
        refine (awake9 W5).mono ?_
        rintro e wz ⟨rfl, hbz⟩
        go_wp2
        go_ret
        exact ⟨rfl, (by (repeat (first | with_reducible assumption | with_reducible exact Below.refl _ _ | with_reducible refine Below.drew ?_ | with_reducible refine below_alloc ?_ _ | (with_reducible refine below_set ?_ ?_ _; rotate_left; focus (first | (simp; done) | (simp; omega))) | with_reducible refine below_tr ?_ (by with_reducible assumption))))⟩
      · have HU : Hid _ := hun
        have ho5 := ho4.keep hb5
        have hs5 := (HS1.out.keep hb4).keep hb5
        have e0 := keep_cell hb5 (keep_cell hb4 e0)
        have e1 := keep_cell hb5 (keep_cell hb4 e1)
        have e2 := keep_cell hb5 (keep_cell hb4 e2)
        have e3 := keep_cell hb5 (keep_cell hb4 e3)
        have hlt5 : w4.heap.size < W5.heap.size := by omega
        clear hun ho4 hb4 hb5
        go_wp2_with fail
        refine (HU.out _ W5 ho5).mono ?_
        rintro e w6 ⟨bm, um, qm, bc, uc, qc, bp, up, qp, rfl, ho6, hb6⟩
        clear hW5 hsz5
        obtain ⟨W7, hW7, hb7, hsz7, k0, k1, k2, k3, _⟩ := box4 w6 (.slice bm um qm) (.slice bc uc qc) (.int .u64 (bs : Int)) (.slice bp up qp) 29
        have hs7 := (hs5.keep hb6).keep hb7
        have ho7 := ho6.keep hb7
        have e0 := keep_cell hb7 (keep_cell hb6 e0)
        have e1 := keep_cell hb7 (keep_cell hb6 e1)
        have e2 := keep_cell hb7 (keep_cell hb6 e2)
        have e3 := keep_cell hb7 (keep_cell hb6 e3)
        have l0 := keep_cell hb7 (keep_cell hb6 l0)
        have l1 := keep_cell hb7 (keep_cell hb6 l1)
        have l2 := keep_cell hb7 (keep_cell hb6 l2)
        have l3 := keep_cell hb7 (keep_cell hb6 l3)
        have hbw := below_tr (below_tr hbw hb6) hb7
        have K13 := rsame13 _ _ _ _ _ _ ms cs ps ms cs ps bs bs W7 ho7.sl hs7
        rw [sameG_refl] at K13
        clear ho5 ho6 ho7 hs5 hs7 hb6 hb7 HU HS1
        go_wp2_with fail
        refine K13.mono ?_
        rintro e w8 ⟨rfl, hb8⟩
        have e3 := keep_cell hb8 e3
        have l3 := keep_cell hb8 l3
        have x1 : wrap64 ((ps.length : Int) + (n : Int)) = ((ps.length + n : Nat) : Int) := by unfold wrap64; omega
        have x2 : IntKind.i64.wrap (n : Int) = (n : Int) := by rw [IntKind.wrap_i64]; omega
        have hbw := below_tr hbw hb8
        clear K13 hW7
        go_wp2_with fail
        refine (awake9 w8).mono ?_
        rintro e wz ⟨rfl, hbz⟩
        go_wp2
        go_ret
        exact ⟨rfl, (by (repeat (first | with_reducible assumption | with_reducible exact Below.refl _ _ | with_reducible refine Below.drew ?_ | with_reducible refine below_alloc ?_ _ | (with_reducible refine below_set ?_ ?_ _; rotate_left; focus (first | (simp; done) | (simp; omega))) | with_reducible refine below_tr ?_ (by with_reducible assumption))))⟩
end Go.Proofs.Ytpaanfeleeomnaa
