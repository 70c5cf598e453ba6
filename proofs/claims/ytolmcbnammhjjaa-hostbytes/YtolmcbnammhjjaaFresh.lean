/- What is proved here: the law HostFresh, walked. -/
import Derived.Test.YtolmcbnammhjjaaPlain
import Derived.Test.YtolmcbnammhjjaaAwake
import Derived.Test.YtolmcbnammhjjaaUnmap
namespace Go.Proofs.Ytolmcbnammhjjaa
open Go.RowKit
set_option linter.unusedVariables false
theorem or1_odd (prot : Int) : bits .and .i64 (bits .or .i64 prot 1) 1 ≠ 0 := by
  have key : ∀ x : BitVec 64, BitVec.ofInt 64 (IntKind.i64.wrap ((x ||| 1#64).toNat : Int)) &&& BitVec.ofInt 64 1 = 1#64 := by
    intro x
    have e : BitVec.ofInt 64 (IntKind.i64.wrap ((x ||| 1#64).toNat : Int)) = x ||| 1#64 := by
      apply BitVec.eq_of_toNat_eq
      rw [BitVec.toNat_ofInt, IntKind.wrap_i64]
      have := (x ||| 1#64).isLt
      omega
    rw [e]
    apply BitVec.eq_of_getLsbD_eq
    intro i hi
    simp only [BitVec.getLsbD_and, BitVec.getLsbD_or]
    cases hx : x.getLsbD i <;> cases h1 : (1#64 : BitVec 64).getLsbD i <;> simp_all
  show IntKind.i64.wrap ((BitVec.ofInt 64 (IntKind.i64.wrap ((BitVec.ofInt 64 prot ||| BitVec.ofInt 64 1).toNat : Int)) &&& BitVec.ofInt 64 1).toNat : Int) ≠ 0
  rw [show (BitVec.ofInt 64 1 : BitVec 64) = 1#64 by rfl] at key ⊢
  rw [key]
  decide
theorem faultFrom_zero (ms : List (Nat × Int)) (a : Nat) (need : Int) : ∀ (m i : Nat), (∀ j, i ≤ j → j < i + m → faultK ms a j need = 0) → faultFrom ms a need i m = (0, 0)
  | 0, i, _ => rfl
  | m + 1, i, h => by
    rw [faultFrom, if_pos (h i (by omega) (by omega))]
    exact faultFrom_zero ms a need m (i + 1) (fun j h1 h2 => h j (by omega) (by omega))
theorem faultK_zero {ms : List (Nat × Int)} (hs : Srt ms) {a j : Nat} {need : Int} {x : Nat × Int} (hx : x ∈ ms) (hp : x.1 = (a + j) / 16384) (hr : bits .and .i64 x.2 need ≠ 0) (hl : a + j < 18446744073709551616) : faultK ms a j need = 0 := by
  have e : (a + j) % 18446744073709551616 = a + j := Nat.mod_eq_of_lt hl
  rw [faultK, e, ← hp, find_mem hs hx]
  simp only
  rw [if_neg (by omega), if_neg hr]
theorem loadN_zero {cs : List (Nat × Int)} {a n : Nat} (h1 : ∀ x ∈ cs, x.1 ≠ cellOf a) (h2 : ∀ x ∈ cs, x.1 ≠ cellOf (a + n - 1)) : loadN cs a n = 0 := by
  have e1 : wordN cs (cellOf a) = 0 := by rw [wordN, wordOf_no h1]; rfl
  have e2 : wordN cs (cellOf (a + n - 1)) = 0 := by rw [wordN, wordOf_no h2]; rfl
  have e3 : lowPart cs a (a + n - 1) = 0 := by rw [lowPart, e1]; simp
  have e4 : highPart cs a (a + n - 1) = 0 := by rw [highPart, e2]; simp
  rw [loadN, e3, e4]
  split <;> rfl
/-- What HostFresh asks of a page that went and came. -/
theorem fresh_facts {ms cs : List (Nat × Int)} (h : FitQ ms cs) (page at_ : Nat) (pr : Int) (hp : pagesOk page 1 = true) (hq : protOk pr = true) (hr : bits .and .i64 pr 1 ≠ 0)
    (hroom : (lo ms page ++ hi ms page).length + 1 ≤ 64) :
    FitQ (lo ms page ++ hi ms page) (lo cs (page * 16384) ++ hi cs (page * 16384 + 16383)) ∧ mid (lo ms page ++ hi ms page) page page = [] ∧
    FitQ (lo (lo ms page ++ hi ms page) page ++ added page pr 1 ++ hi (lo ms page ++ hi ms page) page) (lo cs (page * 16384) ++ hi cs (page * 16384 + 16383)) ∧
    (faultFrom (lo (lo ms page ++ hi ms page) page ++ added page pr 1 ++ hi (lo ms page ++ hi ms page) page) (page * 16384 + at_ % 16376) 1 0 8).1 = 0 ∧
    loadN (lo cs (page * 16384) ++ hi cs (page * 16384 + 16383)) (page * 16384 + at_ % 16376) 8 = 0 ∧
    (mid (lo (lo ms page ++ hi ms page) page ++ added page pr 1 ++ hi (lo ms page ++ hi ms page) page) page page).length ≠ 0 := by
  have q1 : FitQ (lo ms page ++ hi ms page) (lo cs (page * 16384) ++ hi cs (page * 16384 + 16383)) := fit_unmap h page 1 (by omega)
  have m1 : mid (lo ms page ++ hi ms page) page page = [] := mid_nil (fun x hx => by
    rcases List.mem_append.1 hx with g | g
    · exact Or.inl (lo_mem.1 g).2
    · exact Or.inr (hi_mem.1 g).2)
  have q2 := fit_map q1 page 1 pr hp hq m1 hroom
  rw [Nat.add_sub_cancel] at q2
  have hpp : page + 1 ≤ 1125899906842624 := by have : (1 : Nat) ≠ 0 ∧ page + 1 ≤ 1125899906842624 := by simpa [pagesOk] using hp
                                               exact this.2
  have hmem : (page, pr) ∈ lo (lo ms page ++ hi ms page) page ++ added page pr 1 ++ hi (lo ms page ++ hi ms page) page :=
    List.mem_append_left _ (List.mem_append_right _ (added_mem.2 ⟨0, by omega, by simp⟩))
  have hlt : at_ % 16376 < 16376 := Nat.mod_lt _ (by omega)
  have hno : ∀ c, page * 16384 ≤ c → c ≤ page * 16384 + 16383 → ∀ x ∈ lo cs (page * 16384) ++ hi cs (page * 16384 + 16383), x.1 ≠ c := by
    intro c hc1 hc2 x hx
    rcases List.mem_append.1 hx with g | g
    · have := (lo_mem.1 g).2; omega
    · have := (hi_mem.1 g).2; omega
  refine ⟨q1, m1, q2, ?_, ?_, ?_⟩
  · rw [faultFrom_zero]
    intro j h1 h2
    exact faultK_zero q2.2.2.1 hmem (by simp only; omega) hr (by omega)
  · refine loadN_zero (hno _ ?_ ?_) (hno _ ?_ ?_) <;> unfold cellOf <;> omega
  · intro e
    have : (page, pr) ∈ mid (lo (lo ms page ++ hi ms page) page ++ added page pr 1 ++ hi (lo ms page ++ hi ms page) page) page page := mid_mem.2 ⟨hmem, Nat.le_refl _, Nat.le_refl _⟩
    rw [List.eq_nil_of_length_eq_zero e] at this
    simp at this
set_option maxHeartbeats 4000000 in
set_option maxRecDepth 100000 in
theorem fresh_walk (vm vc : Value) (ms cs : List (Nat × Int)) (page at_ : Nat) (prot : Int) (w : World) (hm : Sl .i64 w vm ms) (hc : Sl .u64 w vc cs) (hrc : ∀ y ∈ cs, y.1 < 18446744073709551616) (hw : Words cs)
    (h1 : page < 18446744073709551616) (h2 : at_ < 18446744073709551616) :
    Calls Try.prog 6 #[.agg #[vm, vc], .int .u64 (page : Int), .int .u64 (at_ : Int), .int .i64 prot] w fun e w' => e = .returned (.bool true) ∧ Below w.heap.size w w' := by
  obtain ⟨W, hW, hb, hsz, c0, c1, _, _⟩ := box2 w vm vc 25
  obtain ⟨am, pm, rfl, lpm1, lpm2⟩ : ∃ a p, vm = .slice a ms.length p ∧ ms.length ≤ p ∧ p ≤ 9223372036854775807 := by obtain ⟨a, p, h, h1, h2, _⟩ := id hm; exact ⟨_, _, h, h1, h2⟩
  obtain ⟨ac, pc, rfl, lpc1, lpc2⟩ : ∃ a p, vc = .slice a cs.length p ∧ cs.length ≤ p ∧ p ≤ 9223372036854775807 := by obtain ⟨a, p, h, h1, h2, _⟩ := id hc; exact ⟨_, _, h, h1, h2⟩
  have K8 := few8 am ac ms.length pm cs.length pc W (by omega) (by omega)
  have K13 : Hid (∀ w', Calls Try.prog 13 #[] w' fun e w'' => e = .returned (.bool true) ∧ Below w'.heap.size w' w'') := awake13
  have hrc' : ∀ i, (cs.getD i (0, 0)).1 < 18446744073709551616 := fun i => by
    by_cases hi : i < cs.length
    · rw [getD_at hi]; exact hrc _ (List.getElem_mem hi)
    · rw [List.getD_eq_getElem?_getD, List.getElem?_eq_none (by omega)]; decide
  have K10 : Hid (∀ w', Below W.heap.size W w' → Calls Try.prog 10 #[.agg #[.slice am ms.length pm, .slice ac cs.length pc]] w' fun e w'' => e = .returned (.bool (fitB ms cs)) ∧ Below w'.heap.size w' w'') := fun w' hb' =>
    rfit10 _ _ ms cs w' (hm.keep (below_tr hb hb')) (hc.keep (below_tr hb hb')) hrc'
  clear lpm1 lpm2 lpc1 lpc2
  by_cases hfew : ms.length ≤ 70 ∧ cs.length ≤ 200
  case neg =>
    rw [decide_eq_false hfew] at K8
    have HM : Hid (Sl .i64 w (.slice am ms.length pm) ms ∧ Sl .u64 w (.slice ac cs.length pc) cs) := ⟨hm, hc⟩
    clear hfew hm hc
    go_enter Try.func6, Try.ntmps6
    go_wp2_with fail
    refine K8.mono ?_
    rintro e w1 ⟨rfl, hb1⟩
    go_wp2_with fail
    refine (K13.out w1).mono ?_
    rintro e wz ⟨rfl, hbz⟩
    go_wp2
    go_ret
    exact ⟨rfl, (by (repeat (first | with_reducible assumption | with_reducible exact Below.refl _ _ | with_reducible refine Below.drew ?_ | with_reducible refine below_alloc ?_ _ | (with_reducible refine below_set ?_ ?_ _; rotate_left; focus (first | (simp; done) | (simp; omega))) | with_reducible refine below_tr ?_ (by with_reducible assumption))))⟩
  rw [decide_eq_true hfew] at K8
  cases hfit : fitB ms cs with
  | false =>
    rw [hfit] at K10
    clear hfew hm hc hfit
    go_enter Try.func6, Try.ntmps6
    go_wp2_with fail
    refine K8.mono ?_
    rintro e w1 ⟨rfl, hb1⟩
    have e0 := keep_cell hb1 c0
    have e1 := keep_cell hb1 c1
    clear K8
    go_wp2_with fail
    refine (K10.out w1 hb1).mono ?_
    rintro e w2 ⟨rfl, hb2⟩
    go_wp2_with fail
    refine (K13.out w2).mono ?_
    rintro e wz ⟨rfl, hbz⟩
    go_wp2
    go_ret
    exact ⟨rfl, (by (repeat (first | with_reducible assumption | with_reducible exact Below.refl _ _ | with_reducible refine Below.drew ?_ | with_reducible refine below_alloc ?_ _ | (with_reducible refine below_set ?_ ?_ _; rotate_left; focus (first | (simp; done) | (simp; omega))) | with_reducible refine below_tr ?_ (by with_reducible assumption))))⟩
  | true =>
  rw [hfit] at K10
  have HQ := q_fitB hfit
  clear hfit
  have lms : ms.length ≤ 1073741824 := by omega
  have lcs : cs.length ≤ 1073741824 := by omega
  obtain ⟨pr, hpr⟩ : ∃ pr, bits .or .i64 prot 1 = pr := ⟨_, rfl⟩
  have HODD : Hid (bits .and .i64 pr 1 ≠ 0) := by rw [← hpr]; exact or1_odd prot
  cases hp : pagesOk page 1 with
  | false =>
    have K16 : Hid (∀ w', Below W.heap.size W w' → Calls Try.prog 16 #[.agg #[.slice am ms.length pm, .slice ac cs.length pc], .int .u64 (page : Int), .int .u64 1] w' fun e w'' => ∃ vm' vc', e = .returned (.tuple #[.agg #[vm', vc'], .int .i64 22]) ∧ OwnH w'.heap.size w'' vm' vc' ms cs ∧ Below w'.heap.size w' w'') := fun w' hb' =>
      unmap16_no _ _ ms cs page 1 w' (hm.keep (below_tr hb hb')) (hc.keep (below_tr hb hb')) lms lcs h1 (by omega) hp
    have K14 : Hid (∀ B vm' vc' w', OwnH B w' vm' vc' ms cs → Calls Try.prog 14 #[.agg #[vm', vc'], .int .u64 (page : Int), .int .u64 1, .int .i64 pr] w' fun e w'' => ∃ vm' vc', e = .returned (.tuple #[.agg #[vm', vc'], .int .i64 22]) ∧ OwnH w'.heap.size w'' vm' vc' ms cs ∧ Below w'.heap.size w' w'') := fun B vm' vc' w' ho =>
      map14_inval vm' vc' ms cs page 1 pr w' ho.m ho.c lms lcs h1 (by omega) (by rw [hp]; rfl)
    clear hm hc hfew hw HQ lms lcs hrc hrc' HODD hp
    go_enter Try.func6, Try.ntmps6
    go_wp2_with fail
    refine K8.mono ?_
    rintro e w1 ⟨rfl, hb1⟩
    have e0 := keep_cell hb1 c0
    have e1 := keep_cell hb1 c1
    clear K8
    go_wp2_with fail
    refine (K10.out w1 hb1).mono ?_
    rintro e w2 ⟨rfl, hb2⟩
    clear K10
    have e0 := keep_cell hb2 e0
    have e1 := keep_cell hb2 e1
    have hbW := below_tr hb1 hb2
    go_wp2_with fail
    refine (K16.out w2 hbW).mono ?_
    rintro e w3 ⟨vm3, vc3, rfl, ho3, hb3⟩
    obtain ⟨am3, nm3, pm3, ac3, nc3, pc3, rfl, rfl⟩ := ho3.shape
    obtain ⟨W4, hW4, hb4, _, d0, d1, _, _⟩ := box2 w3 (.slice am3 nm3 pm3) (.slice ac3 nc3 pc3) 25
    go_wp2_with fail
    refine (K14.out _ _ _ W4 (ho3.keep hb4)).mono ?_
    rintro e w5 ⟨vm5, vc5, rfl, ho5, hb5⟩
    obtain ⟨am5, nm5, pm5, ac5, nc5, pc5, rfl, rfl⟩ := ho5.shape
    obtain ⟨W6, hW6, hb6, _, d0', d1', _, _⟩ := box2 w5 (.slice am5 nm5 pm5) (.slice ac5 nc5 pc5) 25
    go_wp2_with fail
    refine (K13.out W6).mono ?_
    rintro e wz ⟨rfl, hbz⟩
    go_wp2
    go_ret
    exact ⟨rfl, (by (repeat (first | with_reducible assumption | with_reducible exact Below.refl _ _ | with_reducible refine Below.drew ?_ | with_reducible refine below_alloc ?_ _ | (with_reducible refine below_set ?_ ?_ _; rotate_left; focus (first | (simp; done) | (simp; omega))) | with_reducible refine below_tr ?_ (by with_reducible assumption))))⟩
  | true =>
  have hpp : page + 1 ≤ 1125899906842624 := by
    have h : (1 : Nat) ≠ 0 ∧ page + 1 ≤ 1125899906842624 := by simpa [pagesOk] using hp
    exact h.2
  obtain ⟨ms1, hms1⟩ : ∃ x, x = lo ms page ++ hi ms page := ⟨_, rfl⟩
  obtain ⟨cs1, hcs1⟩ : ∃ x, x = lo cs (page * 16384) ++ hi cs (page * 16384 + 16383) := ⟨_, rfl⟩
  have K16 : Hid (∀ w', Below W.heap.size W w' → Calls Try.prog 16 #[.agg #[.slice am ms.length pm, .slice ac cs.length pc], .int .u64 (page : Int), .int .u64 1] w' fun e w'' => ∃ vm' vc', e = .returned (.tuple #[.agg #[vm', vc'], .int .i64 0]) ∧ OwnH w'.heap.size w'' vm' vc' ms1 cs1 ∧ Below w'.heap.size w' w'') := fun w' hb' => by
    have h := unmap16_ok _ _ ms cs page 1 w' (hm.keep (below_tr hb hb')) (hc.keep (below_tr hb hb')) HQ.2.2.1 HQ.2.2.2.1 lms lcs hp
    rw [Nat.add_sub_cancel, ← hms1, ← hcs1] at h
    exact h
  have q1 : FitQ ms1 cs1 := by rw [hms1, hcs1]; exact fit_unmap HQ page 1 (by omega)
  have w1' : Words cs1 := by rw [hcs1]; exact words_app (words_lo hw _) (words_hi hw _)
  have l1 := q1.1
  have l2 := q1.2.1
  cases hq : protOk pr with
  | false =>
    have K14 : Hid (∀ B vm' vc' w', OwnH B w' vm' vc' ms1 cs1 → Calls Try.prog 14 #[.agg #[vm', vc'], .int .u64 (page : Int), .int .u64 1, .int .i64 pr] w' fun e w'' => ∃ vm' vc', e = .returned (.tuple #[.agg #[vm', vc'], .int .i64 22]) ∧ OwnH w'.heap.size w'' vm' vc' ms1 cs1 ∧ Below w'.heap.size w' w'') := fun B vm' vc' w' ho =>
      map14_inval vm' vc' ms1 cs1 page 1 pr w' ho.m ho.c (by omega) (by omega) h1 (by omega) (by rw [hp, hq]; rfl)
    clear hm hc hfew hw HQ lms lcs hrc hrc' HODD hp hpp hms1 hcs1 q1 w1' l1 l2 hq
    go_enter Try.func6, Try.ntmps6
    go_wp2_with fail
    refine K8.mono ?_
    rintro e w1 ⟨rfl, hb1⟩
    have e0 := keep_cell hb1 c0
    have e1 := keep_cell hb1 c1
    clear K8
    go_wp2_with fail
    refine (K10.out w1 hb1).mono ?_
    rintro e w2 ⟨rfl, hb2⟩
    clear K10
    have e0 := keep_cell hb2 e0
    have e1 := keep_cell hb2 e1
    have hbW := below_tr hb1 hb2
    go_wp2_with fail
    refine (K16.out w2 hbW).mono ?_
    rintro e w3 ⟨vm3, vc3, rfl, ho3, hb3⟩
    obtain ⟨am3, nm3, pm3, ac3, nc3, pc3, rfl, rfl⟩ := ho3.shape
    obtain ⟨W4, hW4, hb4, _, d0, d1, _, _⟩ := box2 w3 (.slice am3 nm3 pm3) (.slice ac3 nc3 pc3) 25
    go_wp2_with fail
    refine (K14.out _ _ _ W4 (ho3.keep hb4)).mono ?_
    rintro e w5 ⟨vm5, vc5, rfl, ho5, hb5⟩
    obtain ⟨am5, nm5, pm5, ac5, nc5, pc5, rfl, rfl⟩ := ho5.shape
    obtain ⟨W6, hW6, hb6, _, d0', d1', _, _⟩ := box2 w5 (.slice am5 nm5 pm5) (.slice ac5 nc5 pc5) 25
    go_wp2_with fail
    refine (K13.out W6).mono ?_
    rintro e wz ⟨rfl, hbz⟩
    go_wp2
    go_ret
    exact ⟨rfl, (by (repeat (first | with_reducible assumption | with_reducible exact Below.refl _ _ | with_reducible refine Below.drew ?_ | with_reducible refine below_alloc ?_ _ | (with_reducible refine below_set ?_ ?_ _; rotate_left; focus (first | (simp; done) | (simp; omega))) | with_reducible refine below_tr ?_ (by with_reducible assumption))))⟩
  | true =>
  have m1 : mid ms1 page (page + 1 - 1) = [] := by
    rw [hms1]
    exact mid_nil (fun x hx => by
      rcases List.mem_append.1 hx with g | g
      · exact Or.inl (lo_mem.1 g).2
      · exact Or.inr (hi_mem.1 g).2)
  by_cases hroom : ms1.length + 1 ≤ 64
  case neg =>
    have K14 : Hid (∀ B vm' vc' w', OwnH B w' vm' vc' ms1 cs1 → Calls Try.prog 14 #[.agg #[vm', vc'], .int .u64 (page : Int), .int .u64 1, .int .i64 pr] w' fun e w'' => ∃ vm' vc', e = .returned (.tuple #[.agg #[vm', vc'], .int .i64 105]) ∧ OwnH w'.heap.size w'' vm' vc' ms1 cs1 ∧ Below w'.heap.size w' w'') := fun B vm' vc' w' ho =>
      map14_full vm' vc' ms1 cs1 page 1 pr w' ho.m ho.c (by omega) (by omega) q1.2.2.1 hp hq (by rw [m1]; rfl) (by omega)
    clear hm hc hfew hw HQ lms lcs hrc hrc' HODD hp hpp hms1 hcs1 q1 w1' l1 l2 hq m1 hroom
    go_enter Try.func6, Try.ntmps6
    go_wp2_with fail
    refine K8.mono ?_
    rintro e w1 ⟨rfl, hb1⟩
    have e0 := keep_cell hb1 c0
    have e1 := keep_cell hb1 c1
    clear K8
    go_wp2_with fail
    refine (K10.out w1 hb1).mono ?_
    rintro e w2 ⟨rfl, hb2⟩
    clear K10
    have e0 := keep_cell hb2 e0
    have e1 := keep_cell hb2 e1
    have hbW := below_tr hb1 hb2
    go_wp2_with fail
    refine (K16.out w2 hbW).mono ?_
    rintro e w3 ⟨vm3, vc3, rfl, ho3, hb3⟩
    obtain ⟨am3, nm3, pm3, ac3, nc3, pc3, rfl, rfl⟩ := ho3.shape
    obtain ⟨W4, hW4, hb4, _, d0, d1, _, _⟩ := box2 w3 (.slice am3 nm3 pm3) (.slice ac3 nc3 pc3) 25
    go_wp2_with fail
    refine (K14.out _ _ _ W4 (ho3.keep hb4)).mono ?_
    rintro e w5 ⟨vm5, vc5, rfl, ho5, hb5⟩
    obtain ⟨am5, nm5, pm5, ac5, nc5, pc5, rfl, rfl⟩ := ho5.shape
    obtain ⟨W6, hW6, hb6, _, d0', d1', _, _⟩ := box2 w5 (.slice am5 nm5 pm5) (.slice ac5 nc5 pc5) 25
    go_wp2_with fail
    refine (K13.out W6).mono ?_
    rintro e wz ⟨rfl, hbz⟩
    go_wp2
    go_ret
    exact ⟨rfl, (by (repeat (first | with_reducible assumption | with_reducible exact Below.refl _ _ | with_reducible refine Below.drew ?_ | with_reducible refine below_alloc ?_ _ | (with_reducible refine below_set ?_ ?_ _; rotate_left; focus (first | (simp; done) | (simp; omega))) | with_reducible refine below_tr ?_ (by with_reducible assumption))))⟩
  obtain ⟨_, _, q2, hff, hld, hmid⟩ := fresh_facts HQ page at_ pr hp hq HODD.out (by rw [← hms1]; exact hroom)
  rw [← hms1, ← hcs1] at q2
  rw [← hms1] at hff hmid
  rw [← hcs1] at hld
  obtain ⟨ms2, hms2⟩ : ∃ x, x = lo ms1 page ++ added page pr 1 ++ hi ms1 page := ⟨_, rfl⟩
  rw [← hms2] at q2 hff hmid
  have l3 := q2.1
  obtain ⟨A, hA⟩ : ∃ A, A = page * 16384 + at_ % 16376 := ⟨_, rfl⟩
  rw [← hA] at hff hld
  have hAlt : A < 18446744073709551616 := by omega
  have K14 : Hid (∀ B vm' vc' w', OwnH B w' vm' vc' ms1 cs1 → Calls Try.prog 14 #[.agg #[vm', vc'], .int .u64 (page : Int), .int .u64 1, .int .i64 pr] w' fun e w'' => ∃ vm' vc', e = .returned (.tuple #[.agg #[vm', vc'], .int .i64 0]) ∧ OwnH w'.heap.size w'' vm' vc' ms2 cs1 ∧ Below w'.heap.size w' w'') := fun B vm' vc' w' ho => by
    have h := map14_ok vm' vc' ms1 cs1 page 1 pr w' ho.m ho.c (by omega) (by omega) q1.2.2.1 hp hq m1 hroom
    rw [Nat.add_sub_cancel, ← hms2] at h
    exact h
  have K20 : Hid (∀ B vm' vc' w', OwnH B w' vm' vc' ms2 cs1 → Calls Try.prog 20 #[.agg #[vm', vc'], .int .u64 (A : Int), .int .i64 8] w' fun e w'' => e = .returned (.tuple #[.int .u64 0, .agg #[.int .i64 0, .int .u64 0]]) ∧ Below w'.heap.size w' w'') := fun B vm' vc' w' ho => by
    have h := load20_ok vm' vc' ms2 cs1 A 8 w' ho.m ho.c q2.2.2.1 q2.2.2.2.1 (by omega) (by omega) w1' hAlt (by omega) (by omega) hff
    rw [hld] at h
    exact h
  have K14b : Hid (∀ B vm' vc' w', OwnH B w' vm' vc' ms2 cs1 → Calls Try.prog 14 #[.agg #[vm', vc'], .int .u64 (page : Int), .int .u64 1, .int .i64 pr] w' fun e w'' => ∃ vm' vc', e = .returned (.tuple #[.agg #[vm', vc'], .int .i64 17]) ∧ OwnH w'.heap.size w'' vm' vc' ms2 cs1 ∧ Below w'.heap.size w' w'') := fun B vm' vc' w' ho =>
    map14_there vm' vc' ms2 cs1 page 1 pr w' ho.m ho.c (by omega) (by omega) q2.2.2.1 hp hq (by rw [Nat.add_sub_cancel]; exact hmid)
  have hrc1 : ∀ y ∈ cs1, y.1 < 18446744073709551616 := fun y hy => by
    rw [hcs1] at hy
    rcases List.mem_append.1 hy with g | g
    · exact hrc _ (lo_mem.1 g).1
    · exact hrc _ (hi_mem.1 g).1
  have K10b : Hid (∀ B vm' vc' w', OwnH B w' vm' vc' ms2 cs1 → Calls Try.prog 10 #[.agg #[vm', vc']] w' fun e w'' => e = .returned (.bool true) ∧ Below w'.heap.size w' w'') := fun B vm' vc' w' ho => by
    have h := rfit10 vm' vc' ms2 cs1 w' ho.m ho.c (fun i => by
      by_cases hi : i < cs1.length
      · rw [getD_at hi]
        exact hrc1 _ (List.getElem_mem hi)
      · rw [List.getD_eq_getElem?_getD, List.getElem?_eq_none (by omega)]; decide)
    rw [fitB_q q2] at h
    exact h
  have x1 : IntKind.u64.wrap ((page : Int) * 16384) = ((page * 16384 : Nat) : Int) := by rw [IntKind.wrap_u64]; omega
  have x2 : ((at_ : Int)).tmod 16376 = ((at_ % 16376 : Nat) : Int) := by rw [Int.tmod_eq_emod_of_nonneg (by omega)]; omega
  obtain ⟨P, hP⟩ : ∃ P, P = page * 16384 := ⟨_, rfl⟩
  obtain ⟨R, hR⟩ : ∃ R, R = at_ % 16376 := ⟨_, rfl⟩
  rw [← hP] at x1
  rw [← hR] at x2
  have x3 : IntKind.u64.wrap ((P : Int) + (R : Int)) = (A : Int) := by rw [IntKind.wrap_u64]; omega
  clear hm hc hfew hw HQ lms lcs hrc hrc' HODD hp hpp hms1 hcs1 q1 w1' l1 l2 hq m1 hroom q2 hff hld hmid hms2 l3 hA hAlt hP hR h1 h2 hrc1
  go_enter Try.func6, Try.ntmps6
  go_wp2_with fail
  refine K8.mono ?_
  rintro e w1 ⟨rfl, hb1⟩
  have e0 := keep_cell hb1 c0
  have e1 := keep_cell hb1 c1
  clear K8
  go_wp2_with fail
  refine (K10.out w1 hb1).mono ?_
  rintro e w2 ⟨rfl, hb2⟩
  clear K10
  have e0 := keep_cell hb2 e0
  have e1 := keep_cell hb2 e1
  have hbW := below_tr hb1 hb2
  go_wp2_with fail
  refine (K16.out w2 hbW).mono ?_
  rintro e w3 ⟨vm3, vc3, rfl, ho3, hb3⟩
  obtain ⟨am3, nm3, pm3, ac3, nc3, pc3, rfl, rfl⟩ := ho3.shape
  obtain ⟨W4, hW4, hb4, _, d0, d1, _, _⟩ := box2 w3 (.slice am3 nm3 pm3) (.slice ac3 nc3 pc3) 25
  go_wp2_with fail
  refine (K14.out _ _ _ W4 (ho3.keep hb4)).mono ?_
  rintro e w5 ⟨vm5, vc5, rfl, ho5, hb5⟩
  clear e0 e1 d0 d1
  obtain ⟨am5, nm5, pm5, ac5, nc5, pc5, rfl, rfl⟩ := ho5.shape
  obtain ⟨W6, hW6, hb6, _, d0, d1, _, _⟩ := box2 w5 (.slice am5 nm5 pm5) (.slice ac5 nc5 pc5) 25
  go_wp2_with fail
  refine (K20.out _ _ _ W6 (ho5.keep hb6)).mono ?_
  rintro e w7 ⟨rfl, hb7⟩
  have d0 := keep_cell hb7 d0
  have d1 := keep_cell hb7 d1
  obtain ⟨W8, hW8, hb8, _, l0, l1, lf0, lf1⟩ := box2 w7 (.int .i64 0) (.int .u64 0) 39
  obtain ⟨o0, o1⟩ := res2 W8 w7.heap.size (.int .i64 0) (.int .u64 0) ⟨⟨_, l0⟩, lf0⟩ ⟨⟨_, l1⟩, lf1⟩
  obtain ⟨W9, hW9⟩ : ∃ W9, (W8.setCell ⟨w7.heap.size, 0, none⟩ (.int .i64 0)).setCell ⟨w7.heap.size, 1, none⟩ (.int .u64 0) = W9 := ⟨_, rfl⟩
  rw [hW9] at o0 o1
  have hb9 : Below w7.heap.size w7 W9 := by
    rw [← hW9]
    exact below_set (below_set hb8 (by simp) _) (by simp) _
  have d0 := keep_cell hb9 d0
  have d1 := keep_cell hb9 d1
  have ho9 := ((ho5.keep hb6).keep hb7).keep hb9
  have hbw9 : Below w.heap.size w W9 := below_tr (below_tr (below_tr (below_tr (below_tr (below_tr (below_tr hb hbW) hb3) hb4) hb5) hb6) hb7) hb9
  clear hb hbW hb1 hb2 hb3 hb4 hb5 hb6 hb7 hb8
  go_wp2_with fail
  refine (K14b.out _ _ _ W9 ho9).mono ?_
  rintro e wa ⟨vma, vca, rfl, hoa, hba⟩
  obtain ⟨ama, nma, pma, aca, nca, pca, rfl, rfl⟩ := hoa.shape
  obtain ⟨Wb, hWb, hbb, _, _, _, _, _⟩ := box2 wa (.slice ama nma pma) (.slice aca nca pca) 25
  have d0 := keep_cell hbb (keep_cell hba d0)
  have d1 := keep_cell hbb (keep_cell hba d1)
  have o0 := keep_cell hbb (keep_cell hba o0)
  have o1 := keep_cell hbb (keep_cell hba o1)
  go_wp2_with fail
  refine (K10b.out _ _ _ Wb ((ho9.keep hba).keep hbb)).mono ?_
  rintro e wc ⟨rfl, hbc⟩
  go_wp2_with fail
  refine (K13.out wc).mono ?_
  rintro e wz ⟨rfl, hbz⟩
  go_wp2
  go_ret
  exact ⟨rfl, (by (repeat (first | with_reducible assumption | with_reducible exact Below.refl _ _ | with_reducible refine Below.drew ?_ | with_reducible refine below_alloc ?_ _ | (with_reducible refine below_set ?_ ?_ _; rotate_left; focus (first | (simp; done) | (simp; omega))) | with_reducible refine below_tr ?_ (by with_reducible assumption))))⟩
end Go.Proofs.Ytolmcbnammhjjaa
