/- What is proved here: pages of the host as the program and the document have them, in all cases. -/
import Derived.Test.YtolmcbnammhjjaaRmap
import Derived.Test.YtolmcbnammhjjaaRunmap
import Derived.Test.YtolmcbnammhjjaaRprot
import Derived.Test.YtolmcbnammhjjaaRinval
import Derived.Test.YtolmcbnammhjjaaProt
import Derived.Test.YtolmcbnammhjjaaMapOk
import Derived.Test.YtolmcbnammhjjaaMap
import Derived.Test.YtolmcbnammhjjaaUnmap
import Derived.Test.YtolmcbnammhjjaaFit9
import Derived.Test.YtolmcbnammhjjaaSame
import Derived.Test.YtolmcbnammhjjaaRsame
import Derived.Test.YtolmcbnammhjjaaAwake
import Derived.Test.YtolmcbnammhjjaaGrew
namespace Go.Proofs.Ytolmcbnammhjjaa
open Go.RowKit
set_option linter.unusedVariables false
theorem prot_fst (page last : Nat) (prot : Int) (x : Nat × Int) : (protX page last prot x).1 = x.1 := by unfold protX; split <;> rfl
theorem fit_prot {ms cs : List (Nat × Int)} (h : FitQ ms cs) (page last : Nat) (prot : Int) (hq : protOk prot = true) : FitQ (protL page last prot ms) cs := by
  obtain ⟨h1, h2, h3, h4, h5, h6⟩ := h
  have hqq : 0 ≤ prot ∧ prot ≤ 7 := by simpa [protOk] using hq
  refine ⟨by rw [protL, List.length_map]; exact h1, h2, ?_, h4, ?_, ?_⟩
  · rw [Srt, protL, List.pairwise_map]
    exact List.Pairwise.imp (fun {a b} hab => by rw [prot_fst, prot_fst]; exact hab) h3
  · intro x hx
    rw [protL, List.mem_map] at hx
    obtain ⟨y, hy, rfl⟩ := hx
    refine ⟨by rw [prot_fst]; exact (h5 y hy).1, ?_⟩
    unfold protX
    split
    · exact hqq
    · exact (h5 y hy).2
  · intro c hc
    obtain ⟨q1, q2, x, hx, e⟩ := h6 c hc
    exact ⟨q1, q2, protX page last prot x, List.mem_map.2 ⟨x, hx, rfl⟩, by rw [prot_fst]; exact e⟩
/-- Pages that rise, n of them from page on at most. -/
theorem srt_le {xs : List (Nat × Int)} (h : Srt xs) (a : Nat) : ∀ n, (∀ x ∈ xs, a ≤ x.1 ∧ x.1 < a + n) → xs.length ≤ n := by
  induction xs generalizing a with
  | nil => intro n _; simp
  | cons x xs ih =>
    intro n hx
    obtain ⟨h1, h2⟩ := List.pairwise_cons.1 h
    have g := hx x (by simp)
    have k := ih h2 (x.1 + 1) (a + n - (x.1 + 1)) (fun y hy => by
      have := h1 y hy
      have := hx y (List.mem_cons_of_mem _ hy)
      omega)
    simp
    omega
theorem mid_le {ms : List (Nat × Int)} (h : Srt ms) (page n : Nat) : (mid ms page (page + n - 1)).length ≤ n + (1 - n) := by
  refine srt_le (mid_srt h _ _) page _ (fun x hx => ?_)
  have := mid_mem.1 hx
  omega
/-- What a call on a memory tells: another memory's lists, and a number. -/
def DoesH (f : Nat) (args : Value → Value → Array Value) (ms cs zm zc : List (Nat × Int)) (code : Int) : Prop :=
  ∀ w vm vc, Sl .i64 w vm ms → Sl .u64 w vc cs → Calls Try.prog f (args vm vc) w fun e w' => ∃ vm' vc', e = .returned (.tuple #[.agg #[vm', vc'], .int .i64 code]) ∧ Sl .i64 w' vm' zm ∧ Sl .u64 w' vc' zc ∧ Below w.heap.size w w'
theorem does_own {f : Nat} {args : Value → Value → Array Value} {ms cs zm zc : List (Nat × Int)} {code : Int}
    (h : ∀ w vm vc, Sl .i64 w vm ms → Sl .u64 w vc cs → Calls Try.prog f (args vm vc) w fun e w' => ∃ vm' vc', e = .returned (.tuple #[.agg #[vm', vc'], .int .i64 code]) ∧ OwnH w.heap.size w' vm' vc' zm zc ∧ Below w.heap.size w w') : DoesH f args ms cs zm zc code :=
  fun w vm vc hm hc => (h w vm vc hm hc).mono fun e w' ⟨vm', vc', he, ho, hb⟩ => ⟨vm', vc', he, ho.m, ho.c, hb⟩
theorem does_row {f : Nat} {args : Value → Value → Array Value} {ms cs zm : List (Nat × Int)} {code : Int}
    (h : ∀ w vm vc, Sl .i64 w vm ms → Sl .u64 w vc cs → Calls Try.prog f (args vm vc) w fun e w' => ∃ vm', e = .returned (.tuple #[.agg #[vm', vc], .int .i64 code]) ∧ w'.ownsRow w.heap.size 54 2 vm' zm.length (rowOf .i64 zm) ∧ Below w.heap.size w w') : DoesH f args ms cs zm cs code :=
  fun w vm vc hm hc => (h w vm vc hm hc).mono fun e w' ⟨vm', he, ho, hb⟩ => ⟨vm', vc, he, own_sl ho, hc.keep hb, hb⟩
theorem does_same {f : Nat} {args : Value → Value → Array Value} {ms cs : List (Nat × Int)} {code : Int}
    (h : ∀ w vm vc, Sl .i64 w vm ms → Sl .u64 w vc cs → Calls Try.prog f (args vm vc) w fun e w' => e = .returned (.tuple #[.agg #[vm, vc], .int .i64 code]) ∧ Below w.heap.size w w') : DoesH f args ms cs ms cs code :=
  fun w vm vc hm hc => (h w vm vc hm hc).mono fun e w' ⟨he, hb⟩ => ⟨vm, vc, he, hm.keep hb, hc.keep hb, hb⟩
theorem sl_shape {k : IntKind} {w : World} {v : Value} {xs : List (Nat × Int)} (h : Sl k w v xs) : ∃ a n p, v = .slice a n p := by obtain ⟨a, p, h, _⟩ := h; exact ⟨_, _, _, h⟩
theorem u64_page {ms cs : List (Nat × Int)} (h : FitQ ms cs) : ∀ y ∈ ms, y.1 < 18446744073709551616 := fun y hy => by have := (h.2.2.2.2.1 y hy).1; omega
/-- Map, in all cases. -/
theorem map_pair {ms cs : List (Nat × Int)} (h : FitQ ms cs) (page n : Nat) (prot : Int) (h1 : page < 18446744073709551616) (h2 : n < 18446744073709551616) : ∃ zm code, FitQ zm cs ∧
    DoesH 14 (fun vm vc => #[.agg #[vm, vc], .int .u64 (page : Int), .int .u64 (n : Int), .int .i64 prot]) ms cs zm cs code ∧ DoesH 15 (fun vm vc => #[.agg #[vm, vc], .int .u64 (page : Int), .int .u64 (n : Int), .int .i64 prot]) ms cs zm cs code := by
  have lm := h.1
  have lc := h.2.1
  have hrm := u64_page h
  cases hpq : (pagesOk page n && protOk prot) with
  | false => exact ⟨ms, 22, h, does_own fun w vm vc hm hc => map14_inval vm vc ms cs page n prot w hm hc (by omega) (by omega) h1 h2 hpq, does_same fun w vm vc hm hc => rmap15_no vm vc page n prot w (sl_shape hm) (sl_shape hc) h1 h2 hpq⟩
  | true =>
    obtain ⟨hp, hq⟩ : pagesOk page n = true ∧ protOk prot = true := by simpa using hpq
    have hpp : n ≠ 0 ∧ page + n ≤ 1125899906842624 := by simpa [pagesOk] using hp
    by_cases hmid : mid ms page (page + n - 1) = []
    · have hout : ∀ y ∈ ms, y.1 < page ∨ page + n ≤ y.1 := fun y hy => by
        by_cases hy1 : y.1 < page ∨ page + n ≤ y.1
        · exact hy1
        · have : y ∈ mid ms page (page + n - 1) := mid_mem.2 ⟨hy, by omega, by omega⟩
          rw [hmid] at this; simp at this
      by_cases hroom : ms.length + n ≤ 64
      · exact ⟨_, 0, fit_map h page n prot hp hq hmid hroom, does_own fun w vm vc hm hc => map14_ok vm vc ms cs page n prot w hm hc (by omega) (by omega) h.2.2.1 hp hq hmid hroom, does_row fun w vm vc hm hc => rmap15 vm vc ms page n prot w hm (sl_shape hc) lm hrm hp hq h.2.2.1 hout hroom⟩
      · exact ⟨ms, 105, h, does_own fun w vm vc hm hc => map14_full vm vc ms cs page n prot w hm hc (by omega) (by omega) h.2.2.1 hp hq (by rw [hmid]; rfl) (by omega), does_same fun w vm vc hm hc => rmap15_full vm vc ms page n prot w hm (sl_shape hc) lm hrm hp hq hout (by omega)⟩
    · have hne : (mid ms page (page + n - 1)).length ≠ 0 := fun e => hmid (List.eq_nil_of_length_eq_zero e)
      have hin : ∃ y ∈ ms, page ≤ y.1 ∧ y.1 < page + n := by
        obtain ⟨y, hy⟩ := List.exists_mem_of_ne_nil _ hmid
        have := mid_mem.1 hy
        exact ⟨y, this.1, this.2.1, by omega⟩
      exact ⟨ms, 17, h, does_own fun w vm vc hm hc => map14_there vm vc ms cs page n prot w hm hc (by omega) (by omega) h.2.2.1 hp hq hne, does_same fun w vm vc hm hc => rmap15_there vm vc ms page n prot w hm (sl_shape hc) lm hrm hp hq hin⟩
/-- Unmap, in all cases. -/
theorem unmap_pair {ms cs : List (Nat × Int)} (h : FitQ ms cs) (hrc : ∀ y ∈ cs, y.1 < 18446744073709551616) (page n : Nat) (h1 : page < 18446744073709551616) (h2 : n < 18446744073709551616) : ∃ zm zc code, FitQ zm zc ∧ (∀ y ∈ zc, y.1 < 18446744073709551616) ∧
    DoesH 16 (fun vm vc => #[.agg #[vm, vc], .int .u64 (page : Int), .int .u64 (n : Int)]) ms cs zm zc code ∧ DoesH 17 (fun vm vc => #[.agg #[vm, vc], .int .u64 (page : Int), .int .u64 (n : Int)]) ms cs zm zc code := by
  have lm := h.1
  have lc := h.2.1
  have hrm := u64_page h
  have hq0 : protOk 0 = true := by decide
  cases hp : pagesOk page n with
  | false => exact ⟨ms, cs, 22, h, hrc, does_own fun w vm vc hm hc => unmap16_no vm vc ms cs page n w hm hc (by omega) (by omega) h1 h2 hp, does_same fun w vm vc hm hc => runmap17_no vm vc page n w (sl_shape hm) (sl_shape hc) h1 h2 (by rw [hp]; rfl)⟩
  | true =>
    have hpp : n ≠ 0 ∧ page + n ≤ 1125899906842624 := by simpa [pagesOk] using hp
    refine ⟨_, _, 0, fit_unmap h page n hpp.1, ?_, does_own fun w vm vc hm hc => unmap16_ok vm vc ms cs page n w hm hc h.2.2.1 h.2.2.2.1 (by omega) (by omega) hp, does_own fun w vm vc hm hc => ?_⟩
    · intro y hy
      rcases List.mem_append.1 hy with g | g
      · exact hrc y (lo_mem.1 g).1
      · exact hrc y (hi_mem.1 g).1
    · have k := runmap17 vm vc ms cs page n (page + n - 1) w hm hc (by omega) (by omega) hrm hrc hp rfl
      rw [outM_eq h.2.2.1 (by omega), outC_eq h.2.2.2.1 (by omega)] at k
      exact k
/-- Protect, in all cases. -/
theorem prot_pair {ms cs : List (Nat × Int)} (h : FitQ ms cs) (page n : Nat) (prot : Int) (h1 : page < 18446744073709551616) (h2 : n < 18446744073709551616) : ∃ zm code, FitQ zm cs ∧
    DoesH 18 (fun vm vc => #[.agg #[vm, vc], .int .u64 (page : Int), .int .u64 (n : Int), .int .i64 prot]) ms cs zm cs code ∧ DoesH 19 (fun vm vc => #[.agg #[vm, vc], .int .u64 (page : Int), .int .u64 (n : Int), .int .i64 prot]) ms cs zm cs code := by
  have lm := h.1
  have lc := h.2.1
  have hrm := u64_page h
  cases hpq : (pagesOk page n && protOk prot) with
  | false => exact ⟨ms, 22, h, does_own fun w vm vc hm hc => protect18_inval vm vc ms cs page n prot w hm hc (by omega) (by omega) h1 h2 hpq, does_same fun w vm vc hm hc => rprotect19_no vm vc page n prot w (sl_shape hm) (sl_shape hc) h1 h2 hpq⟩
  | true =>
    obtain ⟨hp, hq⟩ : pagesOk page n = true ∧ protOk prot = true := by simpa using hpq
    have hpp : n ≠ 0 ∧ page + n ≤ 1125899906842624 := by simpa [pagesOk] using hp
    by_cases hok : (mid ms page (page + n - 1)).length = n
    · exact ⟨_, 0, fit_prot h page (page + n - 1) prot hq, does_own fun w vm vc hm hc => protect18_ok vm vc ms cs page n prot w hm hc (by omega) (by omega) _ h.2.2.1 hp hq rfl hok, does_row fun w vm vc hm hc => rprotect19 vm vc ms cs page n _ prot w hm hc (by omega) hrm hp hq rfl hok⟩
    · have hlt : (mid ms page (page + n - 1)).length < n := by
        have := mid_le h.2.2.1 page n
        omega
      exact ⟨ms, 2, h, does_own fun w vm vc hm hc => protect18_none vm vc ms cs page n prot w hm hc (by omega) (by omega) _ h.2.2.1 hp hq rfl hok, does_same fun w vm vc hm hc => rprotect19_none vm vc ms cs page n _ prot w hm hc (by omega) hrm hp hq rfl hlt⟩
end Go.Proofs.Ytolmcbnammhjjaa
namespace Go.Proofs.Ytolmcbnammhjjaa
open Go.RowKit
set_option linter.unusedVariables false
set_option maxHeartbeats 4000000 in
set_option maxRecDepth 100000 in
theorem pages_walk (vm vc gm gc : Value) (ms cs ns ds : List (Nat × Int)) (page n : Nat) (prot : Int) (w : World) (hm : Sl .i64 w vm ms) (hc : Sl .u64 w vc cs) (hrc : ∀ y ∈ cs, y.1 < 18446744073709551616) (hgm : Sl .i64 w gm ns) (hgc : Sl .u64 w gc ds)
    (h1 : page < 18446744073709551616) (h2 : n < 18446744073709551616) :
    Calls Try.prog 3 #[.agg #[vm, vc], .agg #[gm, gc], .int .u64 (page : Int), .int .u64 (n : Int), .int .i64 prot] w fun e w' => e = .returned (.bool true) ∧ Below w.heap.size w w' := by
  obtain ⟨X, hX, hx, hxs, c0, c1, _, _⟩ := box2 w vm vc 25
  obtain ⟨W, hW, hb, hsz, b0, b1, _, _⟩ := box2 X gm gc 25
  rw [hxs] at b0 b1
  have c0 := keep_cell hb c0
  have c1 := keep_cell hb c1
  have hb := below_tr hx hb
  obtain ⟨am, pm, rfl, lpm1, lpm2⟩ : ∃ a p, vm = .slice a ms.length p ∧ ms.length ≤ p ∧ p ≤ 9223372036854775807 := by obtain ⟨a, p, h, h1, h2, _⟩ := id hm; exact ⟨_, _, h, h1, h2⟩
  obtain ⟨ac, pc, rfl, lpc1, lpc2⟩ : ∃ a p, vc = .slice a cs.length p ∧ cs.length ≤ p ∧ p ≤ 9223372036854775807 := by obtain ⟨a, p, h, h1, h2, _⟩ := id hc; exact ⟨_, _, h, h1, h2⟩
  obtain ⟨bm, qm, rfl, lqm1, lqm2⟩ : ∃ a p, gm = .slice a ns.length p ∧ ns.length ≤ p ∧ p ≤ 9223372036854775807 := by obtain ⟨a, p, h, h1, h2, _⟩ := id hgm; exact ⟨_, _, h, h1, h2⟩
  obtain ⟨bc, qc, rfl, lqc1, lqc2⟩ : ∃ a p, gc = .slice a ds.length p ∧ ds.length ≤ p ∧ p ≤ 9223372036854775807 := by obtain ⟨a, p, h, h1, h2, _⟩ := id hgc; exact ⟨_, _, h, h1, h2⟩
  have K8 : Hid (∀ w', Calls Try.prog 8 #[.agg #[.slice am ms.length pm, .slice ac cs.length pc]] w' fun e w'' => e = .returned (.bool (decide (ms.length ≤ 70 ∧ cs.length ≤ 200))) ∧ Below w'.heap.size w' w'') := fun w' => few8 am ac ms.length pm cs.length pc w' (by omega) (by omega)
  have J8 : Hid (∀ w', Calls Try.prog 8 #[.agg #[.slice bm ns.length qm, .slice bc ds.length qc]] w' fun e w'' => e = .returned (.bool (decide (ns.length ≤ 70 ∧ ds.length ≤ 200))) ∧ Below w'.heap.size w' w'') := fun w' => few8 bm bc ns.length qm ds.length qc w' (by omega) (by omega)
  have K13 : Hid (∀ w', Calls Try.prog 13 #[] w' fun e w'' => e = .returned (.bool true) ∧ Below w'.heap.size w' w'') := awake13
  have hrc' : ∀ (xs : List (Nat × Int)), (∀ y ∈ xs, y.1 < 18446744073709551616) → ∀ i, (xs.getD i (0, 0)).1 < 18446744073709551616 := fun xs hxs i => by
    by_cases hi : i < xs.length
    · rw [getD_at hi]; exact hxs _ (List.getElem_mem hi)
    · rw [List.getD_eq_getElem?_getD, List.getElem?_eq_none (by omega)]; decide
  have K9 : Hid (∀ w', Below W.heap.size W w' → Calls Try.prog 9 #[.agg #[.slice am ms.length pm, .slice ac cs.length pc]] w' fun e w'' => e = .returned (.bool (fitB ms cs)) ∧ Below w'.heap.size w' w'') := fun w' hb' => fit9 _ _ ms cs w' (hm.keep (below_tr hb hb')) (hc.keep (below_tr hb hb')) hrc
  have K10 : Hid (∀ w', Below W.heap.size W w' → Calls Try.prog 10 #[.agg #[.slice am ms.length pm, .slice ac cs.length pc]] w' fun e w'' => e = .returned (.bool (fitB ms cs)) ∧ Below w'.heap.size w' w'') := fun w' hb' => rfit10 _ _ ms cs w' (hm.keep (below_tr hb hb')) (hc.keep (below_tr hb hb')) (hrc' cs hrc)
  clear lpm1 lpm2 lpc1 lpc2 lqm1 lqm2 lqc1 lqc2 hsz
  haveI : Nonempty (Grew W) := ⟨⟨W, Below.refl _ _⟩⟩
  have z0 := grew_cell c0
  have z1 := grew_cell c1
  have z2 := grew_cell b0
  have z3 := grew_cell b1
  by_cases fh : ms.length ≤ 70 ∧ cs.length ≤ 200
  case neg =>
    rw [decide_eq_false fh] at K8
    have Q8 : Hid (∀ p : Grew W, Calls Try.prog 8 #[.agg #[.slice am ms.length pm, .slice ac cs.length pc]] p.w fun e w'' => e = .returned (.bool false) ∧ ∃ q : Grew W, w'' = q.w) := fun p => Calls.grew (K8.out p.w)
    clear hm hc hgm hgc fh
    go_enter Try.func3, Try.ntmps3
    go_wp2
    refine wp_region_quiet_grew (by kernel_rfl) (by kernel_rfl) ?_
    repeat (go_big_quiet_step (first | with_reducible exact Q8.out _))
    refine wpQuiet_nil ?_
    rintro _ ⟨pq, rfl⟩
    have hbq := pq.bel
    obtain ⟨w1, hw1⟩ : ∃ x, x = pq.w := ⟨_, rfl⟩
    rw [← hw1] at hbq ⊢
    clear hw1 pq z0 z1 z2 z3 this Q8
    have e0 := keep_cell hbq c0
    have e1 := keep_cell hbq c1
    have e2 := keep_cell hbq b0
    have e3 := keep_cell hbq b1
    clear c0 c1 b0 b1

    go_wp2_with fail
    refine (K8.out w1).mono ?_
    rintro e w2 ⟨rfl, hb2⟩
    go_wp2_with fail
    refine (K13.out w2).mono ?_
    rintro e wz ⟨rfl, hbz⟩
    go_wp2
    go_ret
    exact ⟨rfl, (by (repeat (first | with_reducible assumption | with_reducible exact Below.refl _ _ | with_reducible refine Below.drew ?_ | with_reducible refine below_alloc ?_ _ | (with_reducible refine below_set ?_ ?_ _; rotate_left; focus (first | (simp; done) | (simp; omega))) | with_reducible refine below_tr ?_ (by with_reducible assumption))))⟩
  rw [decide_eq_true fh] at K8
  by_cases fg : ns.length ≤ 70 ∧ ds.length ≤ 200
  case neg =>
    rw [decide_eq_false fg] at J8
    have Q8 : Hid (∀ p : Grew W, Calls Try.prog 8 #[.agg #[.slice am ms.length pm, .slice ac cs.length pc]] p.w fun e w'' => e = .returned (.bool true) ∧ ∃ q : Grew W, w'' = q.w) := fun p => Calls.grew (K8.out p.w)
    have P8 : Hid (∀ p : Grew W, Calls Try.prog 8 #[.agg #[.slice bm ns.length qm, .slice bc ds.length qc]] p.w fun e w'' => e = .returned (.bool false) ∧ ∃ q : Grew W, w'' = q.w) := fun p => Calls.grew (J8.out p.w)
    clear hm hc hgm hgc fh fg
    go_enter Try.func3, Try.ntmps3
    go_wp2
    refine wp_region_quiet_grew (by kernel_rfl) (by kernel_rfl) ?_
    repeat (go_big_quiet_step (first | with_reducible exact Q8.out _ | with_reducible exact P8.out _))
    refine wpQuiet_nil ?_
    rintro _ ⟨pq, rfl⟩
    have hbq := pq.bel
    obtain ⟨w1, hw1⟩ : ∃ x, x = pq.w := ⟨_, rfl⟩
    rw [← hw1] at hbq ⊢
    clear hw1 pq z0 z1 z2 z3 this Q8 P8
    have e0 := keep_cell hbq c0
    have e1 := keep_cell hbq c1
    have e2 := keep_cell hbq b0
    have e3 := keep_cell hbq b1
    clear c0 c1 b0 b1

    go_wp2_with fail
    refine (K8.out w1).mono ?_
    rintro e w2 ⟨rfl, hb2⟩
    have e2 := keep_cell hb2 e2
    have e3 := keep_cell hb2 e3
    go_wp2_with fail
    refine (J8.out w2).mono ?_
    rintro e w3 ⟨rfl, hb3⟩
    go_wp2_with fail
    refine (K13.out w3).mono ?_
    rintro e wz ⟨rfl, hbz⟩
    go_wp2
    go_ret
    exact ⟨rfl, (by (repeat (first | with_reducible assumption | with_reducible exact Below.refl _ _ | with_reducible refine Below.drew ?_ | with_reducible refine below_alloc ?_ _ | (with_reducible refine below_set ?_ ?_ _; rotate_left; focus (first | (simp; done) | (simp; omega))) | with_reducible refine below_tr ?_ (by with_reducible assumption))))⟩
  rw [decide_eq_true fg] at J8
  have Q8 : Hid (∀ p : Grew W, Calls Try.prog 8 #[.agg #[.slice am ms.length pm, .slice ac cs.length pc]] p.w fun e w'' => e = .returned (.bool true) ∧ ∃ q : Grew W, w'' = q.w) := fun p => Calls.grew (K8.out p.w)
  have P8 : Hid (∀ p : Grew W, Calls Try.prog 8 #[.agg #[.slice bm ns.length qm, .slice bc ds.length qc]] p.w fun e w'' => e = .returned (.bool true) ∧ ∃ q : Grew W, w'' = q.w) := fun p => Calls.grew (J8.out p.w)
  have Q11 : Hid (∀ p : Grew W, Calls Try.prog 11 #[.agg #[.slice am ms.length pm, .slice ac cs.length pc], .agg #[.slice bm ns.length qm, .slice bc ds.length qc]] p.w fun e w'' => e = .returned (.bool (decide (ms = ns ∧ cs = ds))) ∧ ∃ q : Grew W, w'' = q.w) := fun p => Calls.grew (same11 _ _ _ _ ms cs ns ds p.w (hm.keep (below_tr hb p.bel)) (hc.keep (below_tr hb p.bel)) (hgm.keep (below_tr hb p.bel)) (hgc.keep (below_tr hb p.bel)) (by omega) (by omega))
  have Q12 : Hid (∀ p : Grew W, Calls Try.prog 12 #[.agg #[.slice am ms.length pm, .slice ac cs.length pc], .agg #[.slice bm ns.length qm, .slice bc ds.length qc]] p.w fun e w'' => e = .returned (.bool (decide (ms = ns ∧ cs = ds))) ∧ ∃ q : Grew W, w'' = q.w) := fun p => Calls.grew (rsame12 _ _ _ _ ms cs ns ds p.w (hm.keep (below_tr hb p.bel)) (hc.keep (below_tr hb p.bel)) (hgm.keep (below_tr hb p.bel)) (hgc.keep (below_tr hb p.bel)))
  have P11 : Hid (∀ p : Grew W, Calls Try.prog 11 #[.agg #[.slice am ms.length pm, .slice ac cs.length pc], .agg #[.slice am ms.length pm, .slice ac cs.length pc]] p.w fun e w'' => e = .returned (.bool true) ∧ ∃ q : Grew W, w'' = q.w) := fun p => by
    have h := same11 _ _ _ _ ms cs ms cs p.w (hm.keep (below_tr hb p.bel)) (hc.keep (below_tr hb p.bel)) (hm.keep (below_tr hb p.bel)) (hc.keep (below_tr hb p.bel)) (by omega) (by omega)
    rw [decide_eq_true (⟨rfl, rfl⟩ : ms = ms ∧ cs = cs)] at h
    exact Calls.grew h
  generalize decide (ms = ns ∧ cs = ds) = S at Q11 Q12
  cases hfit : fitB ms cs with
  | false =>
    rw [hfit] at K9 K10
    have Q9 : Hid (∀ p : Grew W, Calls Try.prog 9 #[.agg #[.slice am ms.length pm, .slice ac cs.length pc]] p.w fun e w'' => e = .returned (.bool false) ∧ ∃ q : Grew W, w'' = q.w) := fun p => Calls.grew (K9.out p.w p.bel)
    have Q10 : Hid (∀ p : Grew W, Calls Try.prog 10 #[.agg #[.slice am ms.length pm, .slice ac cs.length pc]] p.w fun e w'' => e = .returned (.bool false) ∧ ∃ q : Grew W, w'' = q.w) := fun p => Calls.grew (K10.out p.w p.bel)
    clear hm hc hgm hgc fh fg hfit
    cases S <;> go_enter Try.func3, Try.ntmps3 <;> go_wp2
    all_goals
      refine wp_region_quiet_grew (by kernel_rfl) (by kernel_rfl) ?_
      repeat (go_big_quiet_step (first | with_reducible exact Q8.out _ | with_reducible exact P8.out _ | with_reducible exact Q9.out _ | with_reducible exact Q10.out _ | with_reducible exact Q11.out _ | with_reducible exact Q12.out _ | with_reducible exact P11.out _))
      refine wpQuiet_nil ?_
      rintro _ ⟨pq, rfl⟩
      have hbq := pq.bel
      obtain ⟨w1, hw1⟩ : ∃ x, x = pq.w := ⟨_, rfl⟩
      rw [← hw1] at hbq ⊢
      clear hw1 pq z0 z1 z2 z3 this Q8 P8 Q9 Q10 Q11 Q12 P11
      have e0 := keep_cell hbq c0
      have e1 := keep_cell hbq c1
      have e2 := keep_cell hbq b0
      have e3 := keep_cell hbq b1
      clear c0 c1 b0 b1

      go_wp2_with fail
      refine (K10.out w1 hbq).mono ?_
      rintro e w2 ⟨rfl, hb2⟩
      go_wp2_with fail
      refine (K13.out w2).mono ?_
      rintro e wz ⟨rfl, hbz⟩
      go_wp2
      go_ret
      exact ⟨rfl, (by (repeat (first | with_reducible assumption | with_reducible exact Below.refl _ _ | with_reducible refine Below.drew ?_ | with_reducible refine below_alloc ?_ _ | (with_reducible refine below_set ?_ ?_ _; rotate_left; focus (first | (simp; done) | (simp; omega))) | with_reducible refine below_tr ?_ (by with_reducible assumption))))⟩
  | true =>
  rw [hfit] at K9 K10
  have HQ := q_fitB hfit
  have Q9 : Hid (∀ p : Grew W, Calls Try.prog 9 #[.agg #[.slice am ms.length pm, .slice ac cs.length pc]] p.w fun e w'' => e = .returned (.bool true) ∧ ∃ q : Grew W, w'' = q.w) := fun p => Calls.grew (K9.out p.w p.bel)
  have Q10 : Hid (∀ p : Grew W, Calls Try.prog 10 #[.agg #[.slice am ms.length pm, .slice ac cs.length pc]] p.w fun e w'' => e = .returned (.bool true) ∧ ∃ q : Grew W, w'' = q.w) := fun p => Calls.grew (K10.out p.w p.bel)
  obtain ⟨zm, code, fz, D14, D15⟩ := map_pair HQ page n prot h1 h2
  obtain ⟨ym, yc, code2, fy, ry, D16, D17⟩ := unmap_pair HQ hrc page n h1 h2
  obtain ⟨xm, code3, fx, D18, D19⟩ := prot_pair HQ page n prot h1 h2
  have K14 : Hid (∀ w', Below w.heap.size w w' → Calls Try.prog 14 #[.agg #[.slice am ms.length pm, .slice ac cs.length pc], .int .u64 (page : Int), .int .u64 (n : Int), .int .i64 prot] w' fun e w'' => ∃ vm' vc', e = .returned (.tuple #[.agg #[vm', vc'], .int .i64 code]) ∧ Sl .i64 w'' vm' zm ∧ Sl .u64 w'' vc' cs ∧ Below w'.heap.size w' w'') := fun w' hb' => D14 w' _ _ (hm.keep hb') (hc.keep hb')
  have K15 : Hid (∀ w', Below w.heap.size w w' → Calls Try.prog 15 #[.agg #[.slice am ms.length pm, .slice ac cs.length pc], .int .u64 (page : Int), .int .u64 (n : Int), .int .i64 prot] w' fun e w'' => ∃ vm' vc', e = .returned (.tuple #[.agg #[vm', vc'], .int .i64 code]) ∧ Sl .i64 w'' vm' zm ∧ Sl .u64 w'' vc' cs ∧ Below w'.heap.size w' w'') := fun w' hb' => D15 w' _ _ (hm.keep hb') (hc.keep hb')
  have K16 : Hid (∀ w', Below w.heap.size w w' → Calls Try.prog 16 #[.agg #[.slice am ms.length pm, .slice ac cs.length pc], .int .u64 (page : Int), .int .u64 (n : Int)] w' fun e w'' => ∃ vm' vc', e = .returned (.tuple #[.agg #[vm', vc'], .int .i64 code2]) ∧ Sl .i64 w'' vm' ym ∧ Sl .u64 w'' vc' yc ∧ Below w'.heap.size w' w'') := fun w' hb' => D16 w' _ _ (hm.keep hb') (hc.keep hb')
  have K17 : Hid (∀ w', Below w.heap.size w w' → Calls Try.prog 17 #[.agg #[.slice am ms.length pm, .slice ac cs.length pc], .int .u64 (page : Int), .int .u64 (n : Int)] w' fun e w'' => ∃ vm' vc', e = .returned (.tuple #[.agg #[vm', vc'], .int .i64 code2]) ∧ Sl .i64 w'' vm' ym ∧ Sl .u64 w'' vc' yc ∧ Below w'.heap.size w' w'') := fun w' hb' => D17 w' _ _ (hm.keep hb') (hc.keep hb')
  have K18 : Hid (∀ w', Below w.heap.size w w' → Calls Try.prog 18 #[.agg #[.slice am ms.length pm, .slice ac cs.length pc], .int .u64 (page : Int), .int .u64 (n : Int), .int .i64 prot] w' fun e w'' => ∃ vm' vc', e = .returned (.tuple #[.agg #[vm', vc'], .int .i64 code3]) ∧ Sl .i64 w'' vm' xm ∧ Sl .u64 w'' vc' cs ∧ Below w'.heap.size w' w'') := fun w' hb' => D18 w' _ _ (hm.keep hb') (hc.keep hb')
  have K19 : Hid (∀ w', Below w.heap.size w w' → Calls Try.prog 19 #[.agg #[.slice am ms.length pm, .slice ac cs.length pc], .int .u64 (page : Int), .int .u64 (n : Int), .int .i64 prot] w' fun e w'' => ∃ vm' vc', e = .returned (.tuple #[.agg #[vm', vc'], .int .i64 code3]) ∧ Sl .i64 w'' vm' xm ∧ Sl .u64 w'' vc' cs ∧ Below w'.heap.size w' w'') := fun w' hb' => D19 w' _ _ (hm.keep hb') (hc.keep hb')
  have K12 : Hid (∀ va vb va' vb' (xs ys : List (Nat × Int)) w', Sl .i64 w' va xs → Sl .u64 w' vb ys → Sl .i64 w' va' xs → Sl .u64 w' vb' ys → Calls Try.prog 12 #[.agg #[va, vb], .agg #[va', vb']] w' fun e w'' => e = .returned (.bool true) ∧ Below w'.heap.size w' w'') := fun va vb va' vb' xs ys w' a1 a2 a3 a4 => by
    have h := rsame12 va vb va' vb' xs ys xs ys w' a1 a2 a3 a4
    rw [decide_eq_true (⟨rfl, rfl⟩ : xs = xs ∧ ys = ys)] at h
    exact h
  have F10 : ∀ (xs ys : List (Nat × Int)), FitQ xs ys → (∀ y ∈ ys, y.1 < 18446744073709551616) → ∀ va vb w', Sl .i64 w' va xs → Sl .u64 w' vb ys → Calls Try.prog 10 #[.agg #[va, vb]] w' fun e w'' => e = .returned (.bool true) ∧ Below w'.heap.size w' w'' := fun xs ys f r va vb w' a1 a2 => by
    have h := rfit10 va vb xs ys w' a1 a2 (hrc' ys r)
    rw [fitB_q f] at h
    exact h
  have FZ : Hid (∀ va vb w', Sl .i64 w' va zm → Sl .u64 w' vb cs → Calls Try.prog 10 #[.agg #[va, vb]] w' fun e w'' => e = .returned (.bool true) ∧ Below w'.heap.size w' w'') := F10 zm cs fz hrc
  have FY : Hid (∀ va vb w', Sl .i64 w' va ym → Sl .u64 w' vb yc → Calls Try.prog 10 #[.agg #[va, vb]] w' fun e w'' => e = .returned (.bool true) ∧ Below w'.heap.size w' w'') := F10 ym yc fy ry
  have FX : Hid (∀ va vb w', Sl .i64 w' va xm → Sl .u64 w' vb cs → Calls Try.prog 10 #[.agg #[va, vb]] w' fun e w'' => e = .returned (.bool true) ∧ Below w'.heap.size w' w'') := F10 xm cs fx hrc
  clear hgm hgc fh fg hfit HQ D14 D15 D16 D17 D18 D19 F10 hrc' fz fy ry fx hrc h1 h2 hm hc
  cases S <;> go_enter Try.func3, Try.ntmps3 <;> go_wp2
  all_goals
    refine wp_region_quiet_grew (by kernel_rfl) (by kernel_rfl) ?_
    repeat (go_big_quiet_step (first | with_reducible exact Q8.out _ | with_reducible exact P8.out _ | with_reducible exact Q9.out _ | with_reducible exact Q10.out _ | with_reducible exact Q11.out _ | with_reducible exact Q12.out _ | with_reducible exact P11.out _))
    refine wpQuiet_nil ?_
    rintro _ ⟨pq, rfl⟩
    have hbq := pq.bel
    obtain ⟨w1, hw1⟩ : ∃ x, x = pq.w := ⟨_, rfl⟩
    rw [← hw1] at hbq ⊢
    clear hw1 pq z0 z1 z2 z3 this Q8 P8 Q9 Q10 Q11 Q12 P11
    have e0 := keep_cell hbq c0
    have e1 := keep_cell hbq c1
    have e2 := keep_cell hbq b0
    have e3 := keep_cell hbq b1
    clear c0 c1 b0 b1

    go_wp2_with fail
    refine (K10.out w1 hbq).mono ?_
    rintro e w2 ⟨rfl, hb2⟩
    have hbw2 := below_tr (below_tr hb hbq) hb2
    clear K10 K9 e2 e3
    have e0 := keep_cell hb2 e0
    have e1 := keep_cell hb2 e1
    go_wp2_with fail
    refine (K14.out w2 hbw2).mono ?_
    rintro e w3 ⟨vm14, vc14, rfl, sm14, sc14, hb3⟩
    obtain ⟨am14, nm14, pm14, rfl⟩ := sl_shape sm14
    obtain ⟨ac14, nc14, pc14, rfl⟩ := sl_shape sc14
    obtain ⟨w4, hW4, hb4, hs4, l14, r14, _, _⟩ := box2 w3 (.slice am14 nm14 pm14) (.slice ac14 nc14 pc14) 25
    have hbb := below_tr hb3 hb4
    have hbw4 := below_tr hbw2 hbb
    have sm14 := sm14.keep hb4
    have sc14 := sc14.keep hb4
    have e0 := keep_cell hbb e0
    have e1 := keep_cell hbb e1
    clear hb3 hb4 hbb hs4 hbw2 K14
    go_wp2_with fail
    refine (K15.out w4 hbw4).mono ?_
    rintro e w5 ⟨vm15, vc15, rfl, sm15, sc15, hb5⟩
    obtain ⟨am15, nm15, pm15, rfl⟩ := sl_shape sm15
    obtain ⟨ac15, nc15, pc15, rfl⟩ := sl_shape sc15
    obtain ⟨w6, hW6, hb6, hs6, l15, r15, _, _⟩ := box2 w5 (.slice am15 nm15 pm15) (.slice ac15 nc15 pc15) 25
    have hbb := below_tr hb5 hb6
    have hbw6 := below_tr hbw4 hbb
    have sm15 := sm15.keep hb6
    have sc15 := sc15.keep hb6
    have e0 := keep_cell hbb e0
    have e1 := keep_cell hbb e1
    have l14 := keep_cell hbb l14
    have r14 := keep_cell hbb r14
    have sm14 := sm14.keep hbb
    have sc14 := sc14.keep hbb
    clear hb5 hb6 hbb hs6 hbw4 K15
    go_wp2_with fail
    refine (K16.out w6 hbw6).mono ?_
    rintro e w7 ⟨vm16, vc16, rfl, sm16, sc16, hb7⟩
    obtain ⟨am16, nm16, pm16, rfl⟩ := sl_shape sm16
    obtain ⟨ac16, nc16, pc16, rfl⟩ := sl_shape sc16
    obtain ⟨w8, hW8, hb8, hs8, l16, r16, _, _⟩ := box2 w7 (.slice am16 nm16 pm16) (.slice ac16 nc16 pc16) 25
    have hbb := below_tr hb7 hb8
    have hbw8 := below_tr hbw6 hbb
    have sm16 := sm16.keep hb8
    have sc16 := sc16.keep hb8
    have e0 := keep_cell hbb e0
    have e1 := keep_cell hbb e1
    have l14 := keep_cell hbb l14
    have r14 := keep_cell hbb r14
    have l15 := keep_cell hbb l15
    have r15 := keep_cell hbb r15
    have sm14 := sm14.keep hbb
    have sc14 := sc14.keep hbb
    have sm15 := sm15.keep hbb
    have sc15 := sc15.keep hbb
    clear hb7 hb8 hbb hs8 hbw6 K16
    go_wp2_with fail
    refine (K17.out w8 hbw8).mono ?_
    rintro e w9 ⟨vm17, vc17, rfl, sm17, sc17, hb9⟩
    obtain ⟨am17, nm17, pm17, rfl⟩ := sl_shape sm17
    obtain ⟨ac17, nc17, pc17, rfl⟩ := sl_shape sc17
    obtain ⟨w10, hW10, hb10, hs10, l17, r17, _, _⟩ := box2 w9 (.slice am17 nm17 pm17) (.slice ac17 nc17 pc17) 25
    have hbb := below_tr hb9 hb10
    have hbw10 := below_tr hbw8 hbb
    have sm17 := sm17.keep hb10
    have sc17 := sc17.keep hb10
    have e0 := keep_cell hbb e0
    have e1 := keep_cell hbb e1
    have l14 := keep_cell hbb l14
    have r14 := keep_cell hbb r14
    have l15 := keep_cell hbb l15
    have r15 := keep_cell hbb r15
    have l16 := keep_cell hbb l16
    have r16 := keep_cell hbb r16
    have sm14 := sm14.keep hbb
    have sc14 := sc14.keep hbb
    have sm15 := sm15.keep hbb
    have sc15 := sc15.keep hbb
    have sm16 := sm16.keep hbb
    have sc16 := sc16.keep hbb
    clear hb9 hb10 hbb hs10 hbw8 K17
    go_wp2_with fail
    refine (K18.out w10 hbw10).mono ?_
    rintro e w11 ⟨vm18, vc18, rfl, sm18, sc18, hb11⟩
    obtain ⟨am18, nm18, pm18, rfl⟩ := sl_shape sm18
    obtain ⟨ac18, nc18, pc18, rfl⟩ := sl_shape sc18
    obtain ⟨w12, hW12, hb12, hs12, l18, r18, _, _⟩ := box2 w11 (.slice am18 nm18 pm18) (.slice ac18 nc18 pc18) 25
    have hbb := below_tr hb11 hb12
    have hbw12 := below_tr hbw10 hbb
    have sm18 := sm18.keep hb12
    have sc18 := sc18.keep hb12
    have e0 := keep_cell hbb e0
    have e1 := keep_cell hbb e1
    have l14 := keep_cell hbb l14
    have r14 := keep_cell hbb r14
    have l15 := keep_cell hbb l15
    have r15 := keep_cell hbb r15
    have l16 := keep_cell hbb l16
    have r16 := keep_cell hbb r16
    have l17 := keep_cell hbb l17
    have r17 := keep_cell hbb r17
    have sm14 := sm14.keep hbb
    have sc14 := sc14.keep hbb
    have sm15 := sm15.keep hbb
    have sc15 := sc15.keep hbb
    have sm16 := sm16.keep hbb
    have sc16 := sc16.keep hbb
    have sm17 := sm17.keep hbb
    have sc17 := sc17.keep hbb
    clear hb11 hb12 hbb hs12 hbw10 K18
    go_wp2_with fail
    refine (K19.out w12 hbw12).mono ?_
    rintro e w13 ⟨vm19, vc19, rfl, sm19, sc19, hb13⟩
    obtain ⟨am19, nm19, pm19, rfl⟩ := sl_shape sm19
    obtain ⟨ac19, nc19, pc19, rfl⟩ := sl_shape sc19
    obtain ⟨w14, hW14, hb14, hs14, l19, r19, _, _⟩ := box2 w13 (.slice am19 nm19 pm19) (.slice ac19 nc19 pc19) 25
    have hbb := below_tr hb13 hb14
    have hbw14 := below_tr hbw12 hbb
    have sm19 := sm19.keep hb14
    have sc19 := sc19.keep hb14
    have l14 := keep_cell hbb l14
    have r14 := keep_cell hbb r14
    have l15 := keep_cell hbb l15
    have r15 := keep_cell hbb r15
    have l16 := keep_cell hbb l16
    have r16 := keep_cell hbb r16
    have l17 := keep_cell hbb l17
    have r17 := keep_cell hbb r17
    have l18 := keep_cell hbb l18
    have r18 := keep_cell hbb r18
    have sm14 := sm14.keep hbb
    have sc14 := sc14.keep hbb
    have sm15 := sm15.keep hbb
    have sc15 := sc15.keep hbb
    have sm16 := sm16.keep hbb
    have sc16 := sc16.keep hbb
    have sm17 := sm17.keep hbb
    have sc17 := sc17.keep hbb
    have sm18 := sm18.keep hbb
    have sc18 := sc18.keep hbb
    clear hb13 hb14 hbb hs14 hbw12 K19
    go_wp2_with fail
    refine (K12.out _ _ _ _ _ _ w14 sm14 sc14 sm15 sc15).mono ?_
    rintro e w15 ⟨rfl, hbb⟩
    have hbw15 := below_tr hbw14 hbb
    have l14 := keep_cell hbb l14
    have r14 := keep_cell hbb r14
    have l16 := keep_cell hbb l16
    have r16 := keep_cell hbb r16
    have l17 := keep_cell hbb l17
    have r17 := keep_cell hbb r17
    have l18 := keep_cell hbb l18
    have r18 := keep_cell hbb r18
    have l19 := keep_cell hbb l19
    have r19 := keep_cell hbb r19
    have sm14 := sm14.keep hbb
    have sc14 := sc14.keep hbb
    have sm16 := sm16.keep hbb
    have sc16 := sc16.keep hbb
    have sm17 := sm17.keep hbb
    have sc17 := sc17.keep hbb
    have sm18 := sm18.keep hbb
    have sc18 := sc18.keep hbb
    have sm19 := sm19.keep hbb
    have sc19 := sc19.keep hbb
    clear hbb hbw14
    go_wp2_with fail
    refine (K12.out _ _ _ _ _ _ w15 sm16 sc16 sm17 sc17).mono ?_
    rintro e w16 ⟨rfl, hbb⟩
    have hbw16 := below_tr hbw15 hbb
    have l14 := keep_cell hbb l14
    have r14 := keep_cell hbb r14
    have l16 := keep_cell hbb l16
    have r16 := keep_cell hbb r16
    have l18 := keep_cell hbb l18
    have r18 := keep_cell hbb r18
    have l19 := keep_cell hbb l19
    have r19 := keep_cell hbb r19
    have sm14 := sm14.keep hbb
    have sc14 := sc14.keep hbb
    have sm16 := sm16.keep hbb
    have sc16 := sc16.keep hbb
    have sm18 := sm18.keep hbb
    have sc18 := sc18.keep hbb
    have sm19 := sm19.keep hbb
    have sc19 := sc19.keep hbb
    clear hbb hbw15
    go_wp2_with fail
    refine (K12.out _ _ _ _ _ _ w16 sm18 sc18 sm19 sc19).mono ?_
    rintro e w17 ⟨rfl, hbb⟩
    have hbw17 := below_tr hbw16 hbb
    have l14 := keep_cell hbb l14
    have r14 := keep_cell hbb r14
    have l16 := keep_cell hbb l16
    have r16 := keep_cell hbb r16
    have l18 := keep_cell hbb l18
    have r18 := keep_cell hbb r18
    have sm14 := sm14.keep hbb
    have sc14 := sc14.keep hbb
    have sm16 := sm16.keep hbb
    have sc16 := sc16.keep hbb
    have sm18 := sm18.keep hbb
    have sc18 := sc18.keep hbb
    clear hbb hbw16
    go_wp2_with fail
    refine (FZ.out _ _ w17 sm14 sc14).mono ?_
    rintro e w18 ⟨rfl, hbb⟩
    have hbw18 := below_tr hbw17 hbb
    have l16 := keep_cell hbb l16
    have r16 := keep_cell hbb r16
    have l18 := keep_cell hbb l18
    have r18 := keep_cell hbb r18
    have sm16 := sm16.keep hbb
    have sc16 := sc16.keep hbb
    have sm18 := sm18.keep hbb
    have sc18 := sc18.keep hbb
    clear hbb hbw17
    go_wp2_with fail
    refine (FY.out _ _ w18 sm16 sc16).mono ?_
    rintro e w19 ⟨rfl, hbb⟩
    have hbw19 := below_tr hbw18 hbb
    have l18 := keep_cell hbb l18
    have r18 := keep_cell hbb r18
    have sm18 := sm18.keep hbb
    have sc18 := sc18.keep hbb
    clear hbb hbw18
    go_wp2_with fail
    refine (FX.out _ _ w19 sm18 sc18).mono ?_
    rintro e w20 ⟨rfl, hbb⟩
    have hbw20 := below_tr hbw19 hbb
    clear hbb hbw19
    go_wp2_with fail
    refine (K13.out w20).mono ?_
    rintro e wz ⟨rfl, hbz⟩
    go_wp2
    go_ret
    exact ⟨rfl, (by (repeat (first | with_reducible assumption | with_reducible exact Below.refl _ _ | with_reducible refine Below.drew ?_ | with_reducible refine below_alloc ?_ _ | (with_reducible refine below_set ?_ ?_ _; rotate_left; focus (first | (simp; done) | (simp; omega))) | with_reducible refine below_tr ?_ (by with_reducible assumption))))⟩
end Go.Proofs.Ytolmcbnammhjjaa
