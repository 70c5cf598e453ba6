/- What is proved here: the document's Map. -/
import Derived.Test.YtkpmkgkfpikpfaaGreatBackPlain
namespace Go.Proofs.YtkpmkgkfpikpfaaGreat
open Go.RowKit
set_option maxRecDepth 100000
set_option linter.unusedVariables false
def dnM (page : Nat) (ms : List (Nat × Int)) (m : Nat) : Bool := (ms.take m).any (fun x => decide (page < x.1)) || decide (ms.length < m)
def insL (page : Nat) (ad ms : List (Nat × Int)) (m : Nat) : List (Nat × Int) := lo (ms.take m) page ++ (if dnM page ms m then ad else []) ++ hi (ms.take m) page
theorem take_snoc (ms : List (Nat × Int)) (m : Nat) (h : m < ms.length) : ms.take (m + 1) = ms.take m ++ [ms[m]] := by rw [List.take_add_one, List.getElem?_eq_getElem h]; rfl
theorem dn_zero (page : Nat) (ms : List (Nat × Int)) : dnM page ms 0 = false := by simp [dnM]
theorem ins_zero (page : Nat) (ad ms : List (Nat × Int)) : insL page ad ms 0 = [] := by simp [insL, dn_zero, lo, hi]
theorem dn_no {page : Nat} {ms : List (Nat × Int)} {m : Nat} (hm : m ≤ ms.length) (h : ∀ y ∈ ms.take m, y.1 < page) : dnM page ms m = false := by
 rw [dnM, decide_eq_false (by omega), Bool.or_false, List.any_eq_false]
 intro y hy
 have := h y hy
 simp; omega
theorem dn_or {page : Nat} {ms : List (Nat × Int)} {m : Nat} (hn : ∀ y ∈ ms, y.1 ≠ page) (hm : m ≤ ms.length) (h : dnM page ms m = false) : ∀ y ∈ ms.take m, y.1 < page := by
 intro y hy
 rw [dnM, decide_eq_false (by omega), Bool.or_false, List.any_eq_false] at h
 have h1 := h y hy
 have h2 := hn y (List.mem_of_mem_take hy)
 simp at h1
 omega
theorem ins_lt {page : Nat} {ad ms : List (Nat × Int)} {m : Nat} (hm : m < ms.length) (hs : ∀ y ∈ ms.take m, y.1 < ms[m].1) (h : ms[m].1 < page) : insL page ad ms (m + 1) = insL page ad ms m ++ [ms[m]] ∧ dnM page ms (m + 1) = false ∧ dnM page ms m = false := by
 have h1 : ∀ y ∈ ms.take m, y.1 < page := fun y hy => by have := hs y hy; omega
 have h2 : ∀ y ∈ ms.take (m + 1), y.1 < page := fun y hy => by
  rw [take_snoc ms m hm, List.mem_append] at hy
  rcases hy with hy | hy
  ·exact h1 y hy
  ·simp at hy; rw [hy]; exact h
 have e1 := dn_no (Nat.le_of_lt hm) h1
 have e2 := dn_no (m := m + 1) hm h2
 refine ⟨?_, e2, e1⟩
 rw [insL, insL, e1, e2, take_snoc ms m hm, lo_snoc, hi_snoc, if_pos h, if_neg (show ¬ page < ms[m].1 by omega), hi_nil (fun y hy => by have := h1 y hy; omega)]
 simp
theorem ins_gt {page : Nat} {ad ms : List (Nat × Int)} {m : Nat} (hn : ∀ y ∈ ms, y.1 ≠ page) (hm : m < ms.length) (h : page < ms[m].1) : insL page ad ms (m + 1) = insL page ad ms m ++ (if dnM page ms m then [] else ad) ++ [ms[m]] ∧ dnM page ms (m + 1) = true := by
 have e2 : dnM page ms (m + 1) = true := by
  rw [dnM, take_snoc ms m hm, List.any_append]
  simp [h]
 refine ⟨?_, e2⟩
 rw [insL, insL, e2, take_snoc ms m hm, lo_snoc, hi_snoc, if_neg (show ¬ ms[m].1 < page by omega), if_pos h]
 cases hd : dnM page ms m with
 | true => simp
 | false =>
  have h1 := dn_or hn (Nat.le_of_lt hm) hd
  rw [hi_nil (fun y hy => by have := h1 y hy; omega)]
  simp
theorem ins_end (page : Nat) (ad ms : List (Nat × Int)) (hn : ∀ y ∈ ms, y.1 ≠ page) : insL page ad ms (ms.length + 1) = lo ms page ++ ad ++ hi ms page ∧ insL page ad ms ms.length ++ (if dnM page ms ms.length then [] else ad) = lo ms page ++ ad ++ hi ms page ∧ dnM page ms (ms.length + 1) = true := by
 have e2 : dnM page ms (ms.length + 1) = true := by simp [dnM]
 refine ⟨?_, ?_, e2⟩
 ·rw [insL, e2, List.take_of_length_le (by omega)]; simp
 ·rw [insL]
  cases hd : dnM page ms ms.length with
  | true => simp [List.take_length]
  | false =>
   have h1 := dn_or hn (Nat.le_refl _) hd
   rw [List.take_length] at h1 ⊢
   rw [hi_nil (fun y hy => by have := h1 y hy; omega)]
   simp
theorem ins_len (page : Nat) (ad ms : List (Nat × Int)) (m : Nat) : (insL page ad ms m).length ≤ 2 * m + ad.length := by
 have h1 := lo_len (ms.take m) page
 have h2 := hi_len (ms.take m) page
 have h3 : (ms.take m).length ≤ m := by simp; omega
 rw [insL, List.length_append, List.length_append]
 cases dnM page ms m <;> simp <;> omega
theorem added_snoc (page : Nat) (prot : Int) (k : Nat) : added page prot (k + 1) = added page prot k ++ [(page + k, prot)] := by simp [added, List.range_succ]
theorem added_zero (page : Nat) (prot : Int) : added page prot 0 = [] := rfl
theorem added_len (page : Nat) (prot : Int) (k : Nat) : (added page prot k).length = k := by simp [added]
theorem hi_page {ms : List (Nat × Int)} {page n : Nat} (hn : n ≠ 0) (h : ∀ y ∈ ms, y.1 < page ∨ page + n ≤ y.1) : hi ms page = hi ms (page + n - 1) := by
 rw [hi, hi]
 apply List.filter_congr
 intro y hy
 have := h y hy
 rw [Bool.eq_iff_iff]; simp; omega
set_option maxHeartbeats 2000000 in
set_option maxRecDepth 100000 in
theorem rmap15_full (vm vc : Value) (ms : List (Nat × Int)) (page n : Nat) (prot : Int) (w : World) (hm : Sl .i64 w vm ms) (hc : ∃ a n p, vc = .slice a n p) (lm : ms.length ≤ 64) (hrm : ∀ y ∈ ms, y.1 < 18446744073709551616) (hp : pagesOk page n = true) (hq : protOk prot = true) (hout : ∀ y ∈ ms, y.1 < page ∨ page + n ≤ y.1) (hfull : 64 < ms.length + n) :
  Calls Tryz.prog 57 #[.agg #[vm, vc], .int .u64 (page : Int), .int .u64 (n : Int), .int .i64 prot] w fun e w' => e = .returned (.tuple #[.agg #[vm, vc], .int .i64 105]) ∧ Below w.heap.size w w' := by
 obtain ⟨W, hW, hb, hsz, c0, c1, h0, _, g0, g1⟩ := box2b w vm vc (.slice none 0 0) (.slice none 0 0) 25 25
 have hWsz : W.heap.size = w.heap.size + 2 := by omega
 obtain ⟨am, pm, rfl, x1, x2, x4⟩ : ∃ ao cap, vm = .slice ao ms.length cap ∧ ms.length ≤ cap ∧ cap ≤ 9223372036854775807 ∧ ∀ i (h : i < ms.length), ∃ b o, ao = some ⟨b, o, none⟩ ∧ W.cell? ⟨b, o + i * 2, none⟩ = some (.int .u64 (ms[i].1 : Int)) ∧ W.cell? ⟨b, o + i * 2 + 1, none⟩ = some (.int .i64 ms[i].2) := by
  obtain ⟨ao, cap, e, q1, q2, _, q4⟩ := hm.keep hb
  exact ⟨ao, cap, e, q1, q2, q4⟩
 obtain ⟨ac, nc, pc, rfl⟩ := hc
 have HXM : Hid (∀ i (h : i < ms.length), ∃ b o, am = some ⟨b, o, none⟩ ∧ W.cell? ⟨b, o + i * 2, none⟩ = some (.int .u64 (ms[i].1 : Int)) ∧ W.cell? ⟨b, o + i * 2 + 1, none⟩ = some (.int .i64 ms[i].2)) := x4
 have hpp : n ≠ 0 ∧ page + n ≤ 1125899906842624 := by simpa [pagesOk] using hp
 have K41 := wrong41 page n prot (by omega) (by omega) W
 rw [hp, hq] at K41
 have HN : Hid (n ≠ 0 ∧ page + n ≤ 1125899906842624) := hpp
 have hnl : n < 18446744073709551616 := by omega
 have HRM : Hid (∀ y ∈ ms, y.1 < 18446744073709551616) := hrm
 have HWS : Hid (W.heap.size = w.heap.size + 2) := hWsz
 have HOUT : Hid (∀ y ∈ ms, y.1 < page ∨ page + n ≤ y.1) := hout
 have y1 : IntKind.u64.wrap (wrap64 (64 - (ms.length : Int))) = ((64 - ms.length : Nat) : Int) := by rw [show wrap64 (64 - (ms.length : Int)) = 64 - (ms.length : Int) by unfold wrap64; omega, IntKind.wrap_u64]; omega
 have y2 : IntKind.u64.wrap (64 - (ms.length : Int)) = ((64 - ms.length : Nat) : Int) := by rw [IntKind.wrap_u64]; omega
 have y3 : ((64 - ms.length : Nat) : Int) < (n : Int) := by omega
 have y4 : 64 - ms.length < n := by omega
 obtain ⟨rm, hrm2⟩ : ∃ x, x = 64 - ms.length := ⟨_, rfl⟩
 rw [← hrm2] at y1 y2 y3 y4
 clear x4 hm hrm hp hq hpp hsz hWsz hout hfull hrm2
 go_enter Tryz.func57, Tryz.ntmps57
 go_wp2_with fail
 refine K41.mono ?_
 rintro e w0 ⟨rfl, h00⟩
 subst h00
 clear K41
 go_wp2
 go_loopw [11] (fun i wr => ∃ m : Nat, m ≤ ms.length ∧ i = .int .i64 (m : Int) ∧ True ∧ wr = w0) (fun i _ => ms.length - (intOf i).toNat)
 case atStart => exact ⟨0, Nat.zero_le _, rfl, trivial, rfl⟩
 case round =>
  obtain ⟨m, hmle, rfl, hps, rfl⟩ := hrel
  by_cases hml : m < ms.length
  ·obtain ⟨bb, o, rfl, d0, d1⟩ := HXM.out m hml
   have hpl := HRM.out _ (List.getElem_mem hml)
   have hout := HOUT.out _ (List.getElem_mem hml)
   have HPS : Hid True := trivial
   generalize ms[m].1 = p at d0 hpl hout
   clear d1
   by_cases k1 : p < page
   ·have n1 : decide ((page : Int) ≤ (p : Int)) = false := decide_eq_false (by omega)
    have n1' : ¬ (page : Int) ≤ (p : Int) := by omega
    go_wp2
    go_roundw
    case rel => exact ⟨m + 1, by omega, by go_num, HPS.out, by first | rfl | trivial⟩
    case measure => simp [intOf] <;> omega
   ·have n1 : decide ((page : Int) ≤ (p : Int)) = true := decide_eq_true (by omega)
    have n1' : (page : Int) ≤ (p : Int) := by omega
    obtain ⟨d, hd, hd2⟩ : ∃ d : Nat, IntKind.u64.wrap ((p : Int) - (page : Int)) = (d : Int) ∧ ¬ d < n := ⟨p - page, by rw [IntKind.wrap_u64]; omega, by omega⟩
    have hd3 : ¬ (d : Int) < (n : Int) := by omega
    clear k1 hout
    go_wp2
    go_roundw
    case rel => exact ⟨m + 1, by omega, by go_num, HPS.out, by first | rfl | trivial⟩
    case measure => simp [intOf] <;> omega

  ·obtain rfl : m = ms.length := by omega
   clear hmle hml hps
   have q0 := g0.cell
   have q1 := g1.cell
   have q2 := g0.frozen
   have q3 := g1.frozen
   go_wp2
   (try simp only [Exit.inBlock, Exit.then])
   obtain ⟨r0, r1⟩ := res2 wr (w.heap.size + 1) (.slice am ms.length pm) (.slice ac nc pc) g0 g1
   refine bodyPost_ret (v := .tuple #[.agg #[.slice am ms.length pm, .slice ac nc pc], .int .i64 105]) ?_ rfl ⟨rfl, below_set (below_set hb (by simp) _) (by simp) _⟩
   rw [results_cell_tmp rfl]; simp [go_sem, r0, r1]
set_option maxHeartbeats 4000000 in
set_option maxRecDepth 100000 in
theorem rmap15 (vm vc : Value) (ms : List (Nat × Int)) (page n : Nat) (prot : Int) (w : World) (hm : Sl .i64 w vm ms) (hc : ∃ a n p, vc = .slice a n p) (lm : ms.length ≤ 64) (hrm : ∀ y ∈ ms, y.1 < 18446744073709551616) (hp : pagesOk page n = true) (hq : protOk prot = true) (sm : Srt ms) (hout : ∀ y ∈ ms, y.1 < page ∨ page + n ≤ y.1) (hroom : ms.length + n ≤ 64) :
  Calls Tryz.prog 57 #[.agg #[vm, vc], .int .u64 (page : Int), .int .u64 (n : Int), .int .i64 prot] w fun e w' => ∃ vm', e = .returned (.tuple #[.agg #[vm', vc], .int .i64 0]) ∧ w'.ownsRow w.heap.size 77 2 vm' (lo ms page ++ added page prot n ++ hi ms (page + n - 1)).length (rowOf .i64 (lo ms page ++ added page prot n ++ hi ms (page + n - 1))) ∧ Below w.heap.size w w' := by
 obtain ⟨W, hW, hb, hsz, c0, c1, h0, _, g0, g1⟩ := box2b w vm vc (.slice none 0 0) (.slice none 0 0) 25 25
 have hWsz : W.heap.size = w.heap.size + 2 := by omega
 obtain ⟨am, pm, rfl, x1, x2, x4⟩ : ∃ ao cap, vm = .slice ao ms.length cap ∧ ms.length ≤ cap ∧ cap ≤ 9223372036854775807 ∧ ∀ i (h : i < ms.length), ∃ b o, ao = some ⟨b, o, none⟩ ∧ W.cell? ⟨b, o + i * 2, none⟩ = some (.int .u64 (ms[i].1 : Int)) ∧ W.cell? ⟨b, o + i * 2 + 1, none⟩ = some (.int .i64 ms[i].2) := by
  obtain ⟨ao, cap, e, q1, q2, _, q4⟩ := hm.keep hb
  exact ⟨ao, cap, e, q1, q2, q4⟩
 obtain ⟨ac, nc, pc, rfl⟩ := hc
 have HXM : Hid (∀ i (h : i < ms.length), ∃ b o, am = some ⟨b, o, none⟩ ∧ W.cell? ⟨b, o + i * 2, none⟩ = some (.int .u64 (ms[i].1 : Int)) ∧ W.cell? ⟨b, o + i * 2 + 1, none⟩ = some (.int .i64 ms[i].2)) := x4
 have hpp : n ≠ 0 ∧ page + n ≤ 1125899906842624 := by simpa [pagesOk] using hp
 have K41 := wrong41 page n prot (by omega) (by omega) W
 rw [hp, hq] at K41
 have HN : Hid (n ≠ 0 ∧ page + n ≤ 1125899906842624) := hpp
 have hnl : n < 18446744073709551616 := by omega
 have HRM : Hid (∀ y ∈ ms, y.1 < 18446744073709551616) := hrm
 have HWS : Hid (W.heap.size = w.heap.size + 2) := hWsz
 have HOUT : Hid (∀ y ∈ ms, y.1 < page ∨ page + n ≤ y.1) := hout
 have HNE : Hid (∀ y ∈ ms, y.1 ≠ page) := fun y hy => by have := hout y hy; omega
 have HS : Hid (∀ m (h : m < ms.length), ∀ y ∈ ms.take m, y.1 < (ms[m]).1) := fun m hm y hy => by
  rw [Srt, List.pairwise_iff_getElem] at sm
  obtain ⟨j, hj, rfl⟩ := List.getElem_of_mem hy
  simp at hj ⊢
  exact sm j m (by omega) hm (by omega)
 have y1 : IntKind.u64.wrap (wrap64 (64 - (ms.length : Int))) = ((64 - ms.length : Nat) : Int) := by rw [show wrap64 (64 - (ms.length : Int)) = 64 - (ms.length : Int) by unfold wrap64; omega, IntKind.wrap_u64]; omega
 have y2 : IntKind.u64.wrap (64 - (ms.length : Int)) = ((64 - ms.length : Nat) : Int) := by rw [IntKind.wrap_u64]; omega
 have y3 : ¬ ((64 - ms.length : Nat) : Int) < (n : Int) := by omega
 have y4 : ¬ 64 - ms.length < n := by omega
 have HROOM : Hid (ms.length + n ≤ 64) := hroom
 obtain ⟨rm, hrm2⟩ : ∃ x, x = 64 - ms.length := ⟨_, rfl⟩
 rw [← hrm2] at y1 y2 y3 y4
 obtain ⟨i0, hi, hz0, hz1, hz2⟩ := info_parts info54
 have HI : Hid (Tryz.prog.info? 77 = some i0 ∧ i0.zero = some (.agg #[.int .u64 0, .int .i64 0]) ∧ i0.size = 2 ∧ i0.bytes = 16) := ⟨hi, hz0, hz1, hz2⟩
 clear hi hz0 hz1 hz2
 have hfin := (ins_end page (added page prot n) ms HNE.out).1
 rw [hi_page (n := n) hpp.1 hout] at hfin
 obtain ⟨zm, hzm⟩ : ∃ z, z = lo ms page ++ added page prot n ++ hi ms (page + n - 1) := ⟨_, rfl⟩
 rw [← hzm] at hfin ⊢
 have HZ : Hid (insL page (added page prot n) ms (ms.length + 1) = zm) := hfin
 clear x4 hm hrm hp hq hpp hsz hWsz hout hroom hrm2 sm hfin hzm
 go_enter Tryz.func57, Tryz.ntmps57
 go_wp2_with fail
 refine K41.mono ?_
 rintro e w0 ⟨rfl, h00⟩
 subst h00
 clear K41
 go_wp2
 go_loopw [11] (fun i wr => ∃ m : Nat, m ≤ ms.length ∧ i = .int .i64 (m : Int) ∧ True ∧ wr = w0) (fun i _ => ms.length - (intOf i).toNat)
 case atStart => exact ⟨0, Nat.zero_le _, rfl, trivial, rfl⟩
 case round =>
  obtain ⟨m, hmle, rfl, hps, rfl⟩ := hrel
  by_cases hml : m < ms.length
  ·obtain ⟨bb, o, rfl, d0, d1⟩ := HXM.out m hml
   have hpl := HRM.out _ (List.getElem_mem hml)
   have hout := HOUT.out _ (List.getElem_mem hml)
   have HPS : Hid True := trivial
   generalize ms[m].1 = p at d0 hpl hout
   clear d1
   by_cases k1 : p < page
   ·have n1 : decide ((page : Int) ≤ (p : Int)) = false := decide_eq_false (by omega)
    have n1' : ¬ (page : Int) ≤ (p : Int) := by omega
    go_wp2
    go_roundw
    case rel => exact ⟨m + 1, by omega, by go_num, HPS.out, by first | rfl | trivial⟩
    case measure => simp [intOf] <;> omega
   ·have n1 : decide ((page : Int) ≤ (p : Int)) = true := decide_eq_true (by omega)
    have n1' : (page : Int) ≤ (p : Int) := by omega
    obtain ⟨d, hd, hd2⟩ : ∃ d : Nat, IntKind.u64.wrap ((p : Int) - (page : Int)) = (d : Int) ∧ ¬ d < n := ⟨p - page, by rw [IntKind.wrap_u64]; omega, by omega⟩
    have hd3 : ¬ (d : Int) < (n : Int) := by omega
    clear k1 hout
    go_wp2
    go_roundw
    case rel => exact ⟨m + 1, by omega, by go_num, HPS.out, by first | rfl | trivial⟩
    case measure => simp [intOf] <;> omega

  ·obtain rfl : m = ms.length := by omega
   clear hmle hml hps
   obtain ⟨w0, hw0⟩ : ∃ t, t = wr := ⟨_, rfl⟩
   subst hw0
   go_wp2
   go_loopw [10, 13, 14] (fun s d i wr => ∃ m : Nat, m ≤ ms.length + 1 ∧ i = .int .i64 (m : Int) ∧ d = .bool (dnM page ms m) ∧ wr.ownsRow w0.heap.size 77 2 s (insL page (added page prot n) ms m).length (rowOf .i64 (insL page (added page prot n) ms m)) ∧ Below w0.heap.size w0 wr) (fun _ _ i _ => ms.length + 1 - (intOf i).toNat)
   case atStart => exact ⟨0, Nat.zero_le _, rfl, by rw [dn_zero], by rw [ins_zero]; exact World.ownsRow_nil _ _ _ _, Below.refl _ _⟩
   case round =>
    clear y1 y2 y3 y4
    obtain ⟨m, hmle, rfl, rfl, how, hbr⟩ := hrel
    obtain ⟨sa, sn, sp, rfl⟩ := own_shape how
    have hlm := ins_len page (added page prot n) ms m
    rw [added_len] at hlm
    have e0 := keep_cell hbr c0
    have e1 := keep_cell hbr c1
    have hWr := hbr.size
    by_cases hml : m < ms.length
    ·obtain ⟨bb, o, rfl, D0, D1⟩ := HXM.out m hml
     have hmL : m ≤ ms.length := by omega
     have hs := HS.out m hml
     have hne := HNE.out _ (List.getElem_mem hml)
     by_cases k1 : ms[m].1 < page
     ·obtain ⟨o1, o2, o3⟩ := ins_lt (ad := added page prot n) hml hs k1
      rw [o3]
      obtain ⟨p, hp⟩ : ∃ p, p = ms[m].1 := ⟨_, rfl⟩
      obtain ⟨r, hr⟩ : ∃ r, r = ms[m].2 := ⟨_, rfl⟩
      have hx : ms[m] = (p, r) := by rw [hp, hr]
      rw [hx] at o1
      rw [← hp] at D0 k1
      rw [← hr] at D1
      have HSN : Hid (insL page (added page prot n) ms (m + 1) = insL page (added page prot n) ms m ++ [(p, r)] ∧ dnM page ms (m + 1) = false) := ⟨o1, o2⟩
      have d0 := keep_cell hbr D0
      have d1 := keep_cell hbr D1
      have n1 : ¬ (page : Int) < (p : Int) := by omega
      have hmI : ((m : Int) == (ms.length : Int)) = false := by simp; omega
      generalize insL page (added page prot n) ms m = xs at how HSN hlm
      have hlx : xs.length ≤ 200 := by have := HROOM.out; omega
      clear o1 o2 o3 hp hr hx D0 D1 hs hne k1 hlm
      go_wp2_with (at_builtin; refine wpList_append_own _ rfl (.tmp 97) (.tmp 103) 22 rfl w0.heap.size 77 i0 _ 2 16 Tryz.underlying22 HI.out.1 HI.out.2.1 HI.out.2.2.1 HI.out.2.2.2 rfl (by decide) _ _ _ rfl (own_alloc how _) ⟨wr.heap.size, 0, none⟩ 1 1 [.int .u64 (p : Int), .int .i64 r] rfl rfl (cells2 _ _ _ _) (one2 _ _ _) (by unfold maxLen; omega) (by omega) (by simp; omega) ?_; intro sv w2 how2 hgr2 _; obtain ⟨sa2, sn2, sp2, rfl⟩ := own_shape how2; have R2 := app_own how2; have B2 : Below w0.heap.size w0 w2 := app_below _ hbr hWr hgr2 (own_ge how); have S2 := B2.size; have y20 := keep_cell B2 c0; have y21 := keep_cell B2 c1; have HR2 : Hid (w2.ownsRow w0.heap.size 77 2 (.slice sa2 sn2 sp2) (xs ++ [(p, r)]).length (rowOf .i64 (xs ++ [(p, r)]))) := R2; have HB2 : Hid (Below w0.heap.size w0 w2) := B2; clear R2 B2 how2 hgr2 S2)
      go_roundw
      case rel => exact ⟨m + 1, by omega, by go_num, by rw [HSN.out.2], by rw [HSN.out.1]; exact HR2.out, HB2.out⟩
      case measure => simp [intOf] <;> omega
     ·obtain ⟨o1, o2⟩ := ins_gt (ad := added page prot n) HNE.out hml (show page < ms[m].1 by omega)
      obtain ⟨p, hp⟩ : ∃ p, p = ms[m].1 := ⟨_, rfl⟩
      obtain ⟨r, hr⟩ : ∃ r, r = ms[m].2 := ⟨_, rfl⟩
      have hx : ms[m] = (p, r) := by rw [hp, hr]
      rw [hx] at o1
      rw [← hp] at D0 k1 hne
      rw [← hr] at D1
      have n1 : (page : Int) < (p : Int) := by omega
      have hmI : ((m : Int) == (ms.length : Int)) = false := by simp; omega
      cases hd : dnM page ms m with
      | true =>
       rw [hd, if_pos rfl, List.append_nil] at o1
       have HSN : Hid (insL page (added page prot n) ms (m + 1) = insL page (added page prot n) ms m ++ [(p, r)] ∧ dnM page ms (m + 1) = true) := ⟨o1, o2⟩
       have d0 := keep_cell hbr D0
       have d1 := keep_cell hbr D1
       generalize insL page (added page prot n) ms m = xs at how HSN hlm
       have hlx : xs.length ≤ 200 := by have := HROOM.out; omega
       clear o1 o2 hd hp hr hx D0 D1 hs hne k1 hlm
       go_wp2_with (at_builtin; refine wpList_append_own _ rfl (.tmp 97) (.tmp 103) 22 rfl w0.heap.size 77 i0 _ 2 16 Tryz.underlying22 HI.out.1 HI.out.2.1 HI.out.2.2.1 HI.out.2.2.2 rfl (by decide) _ _ _ rfl (own_alloc how _) ⟨wr.heap.size, 0, none⟩ 1 1 [.int .u64 (p : Int), .int .i64 r] rfl rfl (cells2 _ _ _ _) (one2 _ _ _) (by unfold maxLen; omega) (by omega) (by simp; omega) ?_; intro sv w2 how2 hgr2 _; obtain ⟨sa2, sn2, sp2, rfl⟩ := own_shape how2; have R2 := app_own how2; have B2 : Below w0.heap.size w0 w2 := app_below _ hbr hWr hgr2 (own_ge how); have S2 := B2.size; have y20 := keep_cell B2 c0; have y21 := keep_cell B2 c1; have HR2 : Hid (w2.ownsRow w0.heap.size 77 2 (.slice sa2 sn2 sp2) (xs ++ [(p, r)]).length (rowOf .i64 (xs ++ [(p, r)]))) := R2; have HB2 : Hid (Below w0.heap.size w0 w2) := B2; clear R2 B2 how2 hgr2 S2)
       go_roundw
       case rel => exact ⟨m + 1, by omega, by go_num, by rw [HSN.out.2], by rw [HSN.out.1]; exact HR2.out, HB2.out⟩
       case measure => simp [intOf] <;> omega
      | false =>
       rw [hd, if_neg (by simp)] at o1
       have HSN : Hid (insL page (added page prot n) ms (m + 1) = insL page (added page prot n) ms m ++ added page prot n ++ [(p, r)] ∧ dnM page ms (m + 1) = true) := ⟨o1, o2⟩
       have d0 := keep_cell hbr D0
       have d1 := keep_cell hbr D1
       generalize insL page (added page prot n) ms m = xs at how HSN hlm
       have HLX : Hid (xs.length ≤ 2 * m + n ∧ m ≤ ms.length) := ⟨hlm, by omega⟩
       have HOX : Hid (wr.ownsRow w0.heap.size 77 2 (.slice sa sn sp) xs.length (rowOf .i64 xs) ∧ Below w0.heap.size w0 wr) := ⟨how, hbr⟩
       clear o1 o2 hd hp hr hx hs hne k1 hlm how hbr hWr
       go_wp2
       go_loopw [10, 15] (fun s k wr => ∃ j : Nat, j ≤ n ∧ k = .int .u64 (j : Int) ∧ wr.ownsRow w0.heap.size 77 2 s (xs ++ added page prot j).length (rowOf .i64 (xs ++ added page prot j)) ∧ Below w0.heap.size w0 wr) (fun _ k _ => n - (intOf k).toNat)
       case atStart => exact ⟨0, Nat.zero_le _, rfl, by rw [added_zero, List.append_nil]; exact HOX.out.1, HOX.out.2⟩
       case round =>
        clear e0 e1
        obtain ⟨j, hjn, rfl, how, hbr⟩ := hrel
        obtain ⟨ta, tn, tp, rfl⟩ := own_shape how
        have hWr := hbr.size
        have e0 := keep_cell hbr c0
        have e1 := keep_cell hbr c1
        by_cases hj : j < n
        ·have hlj : (xs ++ added page prot j).length ≤ 200 := by rw [List.length_append, added_len]; have := HLX.out; have := HROOM.out; omega
         have HSJ : Hid (xs ++ added page prot (j + 1) = (xs ++ added page prot j) ++ [(page + j, prot)]) := by show _ = _; rw [added_snoc, List.append_assoc]
         obtain ⟨pk, hpk⟩ : ∃ t, t = page + j := ⟨_, rfl⟩
         have x3 : IntKind.u64.wrap ((page : Int) + (j : Int)) = (pk : Int) := by have := HN.out; rw [IntKind.wrap_u64]; omega
         have x5 : IntKind.u64.wrap ((j : Int) + 1) = ((j + 1 : Nat) : Int) := by rw [IntKind.wrap_u64]; omega
         have hjI : (j : Int) < (n : Int) := by omega
         rw [← hpk] at HSJ
         generalize xs ++ added page prot j = ys at how HSJ hlj
         clear hpk
         go_wp2_with (at_builtin; refine wpList_append_own _ rfl (.tmp 84) (.tmp 90) 22 rfl w0.heap.size 77 i0 _ 2 16 Tryz.underlying22 HI.out.1 HI.out.2.1 HI.out.2.2.1 HI.out.2.2.2 rfl (by decide) _ _ _ rfl (own_alloc how _) ⟨wr.heap.size, 0, none⟩ 1 1 [.int .u64 (pk : Int), .int .i64 prot] rfl rfl (cells2 _ _ _ _) (one2 _ _ _) (by unfold maxLen; omega) (by omega) (by simp; omega) ?_; intro sv w2 how2 hgr2 _; obtain ⟨sa2, sn2, sp2, rfl⟩ := own_shape how2; have R2 := app_own how2; have B2 : Below w0.heap.size w0 w2 := app_below _ hbr hWr hgr2 (own_ge how); have S2 := B2.size; have y20 := keep_cell B2 c0; have y21 := keep_cell B2 c1; have HR2 : Hid (w2.ownsRow w0.heap.size 77 2 (.slice sa2 sn2 sp2) (ys ++ [(pk, prot)]).length (rowOf .i64 (ys ++ [(pk, prot)]))) := R2; have HB2 : Hid (Below w0.heap.size w0 w2) := B2; clear R2 B2 how2 hgr2 S2)
         go_roundw
         case rel => exact ⟨j + 1, by omega, by go_num, by rw [HSJ.out]; exact HR2.out, HB2.out⟩
         case measure => simp [intOf] <;> omega
        ·obtain rfl : j = n := by omega
         have hjI : ¬ (j : Int) < (j : Int) := by omega
         clear hjn hj
         obtain ⟨xs2, hxs2⟩ : ∃ t, t = xs ++ added page prot j := ⟨_, rfl⟩
         have hlj : xs2.length ≤ 200 := by rw [hxs2, List.length_append, added_len]; have := HLX.out; have := HROOM.out; omega
         rw [← hxs2] at how
         rw [← hxs2] at HSN
         have d0 := keep_cell hbr D0
         have d1 := keep_cell hbr D1
         clear hxs2
         go_wp2_with (at_builtin; refine wpList_append_own _ rfl (.tmp 97) (.tmp 103) 22 rfl w0.heap.size 77 i0 _ 2 16 Tryz.underlying22 HI.out.1 HI.out.2.1 HI.out.2.2.1 HI.out.2.2.2 rfl (by decide) _ _ _ rfl (own_alloc how _) ⟨wr.heap.size, 0, none⟩ 1 1 [.int .u64 (p : Int), .int .i64 r] rfl rfl (cells2 _ _ _ _) (one2 _ _ _) (by unfold maxLen; omega) (by omega) (by simp; omega) ?_; intro sv w2 how2 hgr2 _; obtain ⟨sa2, sn2, sp2, rfl⟩ := own_shape how2; have R2 := app_own how2; have B2 : Below w0.heap.size w0 w2 := app_below _ hbr hWr hgr2 (own_ge how); have S2 := B2.size; have y20 := keep_cell B2 c0; have y21 := keep_cell B2 c1; have HR2 : Hid (w2.ownsRow w0.heap.size 77 2 (.slice sa2 sn2 sp2) (xs2 ++ [(p, r)]).length (rowOf .i64 (xs2 ++ [(p, r)]))) := R2; have HB2 : Hid (Below w0.heap.size w0 w2) := B2; clear R2 B2 how2 hgr2 S2)
         go_roundw
         case rel => exact ⟨m + 1, by omega, by go_num, by rw [HSN.out.2], by rw [HSN.out.1]; exact HR2.out, HB2.out⟩
         case measure => simp [intOf] <;> omega
    ·by_cases hme : m = ms.length
     ·subst hme
      obtain ⟨_, o1, o2⟩ := ins_end page (added page prot n) ms HNE.out
      have hfe := (ins_end page (added page prot n) ms HNE.out).1
      rw [← hfe] at o1
      have hmI : ((ms.length : Int) == (ms.length : Int)) = true := by simp
      cases hd : dnM page ms ms.length with
      | true =>
       rw [hd, if_pos rfl, List.append_nil] at o1
       rw [o1] at how
       have HO2 : Hid (dnM page ms (ms.length + 1) = true) := o2
       have HOW : Hid (wr.ownsRow w0.heap.size 77 2 (.slice sa sn sp) (insL page (added page prot n) ms (ms.length + 1)).length (rowOf .i64 (insL page (added page prot n) ms (ms.length + 1)))) := how
       have HBR : Hid (Below w0.heap.size w0 wr) := hbr
       clear o1 o2 hd hfe how hbr hlm hWr
       go_wp2
       go_roundw
       case rel => exact ⟨ms.length + 1, by omega, by go_num, by rw [HO2.out], HOW.out, HBR.out⟩
       case measure => simp [intOf] <;> omega
      | false =>
       rw [hd, if_neg (by simp)] at o1
       have HSN : Hid (insL page (added page prot n) ms ms.length ++ added page prot n = insL page (added page prot n) ms (ms.length + 1) ∧ dnM page ms (ms.length + 1) = true) := ⟨o1, o2⟩
       have HLX : Hid ((insL page (added page prot n) ms ms.length).length ≤ 2 * ms.length + n) := hlm
       have HOX : Hid (wr.ownsRow w0.heap.size 77 2 (.slice sa sn sp) (insL page (added page prot n) ms ms.length).length (rowOf .i64 (insL page (added page prot n) ms ms.length)) ∧ Below w0.heap.size w0 wr) := ⟨how, hbr⟩
       generalize insL page (added page prot n) ms ms.length = xs at HOX HSN HLX
       clear o1 o2 hd hfe how hbr hlm hWr
       go_wp2
       go_loopw [10, 15] (fun s k wr => ∃ j : Nat, j ≤ n ∧ k = .int .u64 (j : Int) ∧ wr.ownsRow w0.heap.size 77 2 s (xs ++ added page prot j).length (rowOf .i64 (xs ++ added page prot j)) ∧ Below w0.heap.size w0 wr) (fun _ k _ => n - (intOf k).toNat)
       case atStart => exact ⟨0, Nat.zero_le _, rfl, by rw [added_zero, List.append_nil]; exact HOX.out.1, HOX.out.2⟩
       case round =>
        clear e0 e1
        obtain ⟨j, hjn, rfl, how, hbr⟩ := hrel
        obtain ⟨ta, tn, tp, rfl⟩ := own_shape how
        have hWr := hbr.size
        have e0 := keep_cell hbr c0
        have e1 := keep_cell hbr c1
        by_cases hj : j < n
        ·have hlj : (xs ++ added page prot j).length ≤ 200 := by rw [List.length_append, added_len]; have := HLX.out; have := HROOM.out; omega
         have HSJ : Hid (xs ++ added page prot (j + 1) = (xs ++ added page prot j) ++ [(page + j, prot)]) := by show _ = _; rw [added_snoc, List.append_assoc]
         obtain ⟨pk, hpk⟩ : ∃ t, t = page + j := ⟨_, rfl⟩
         have x3 : IntKind.u64.wrap ((page : Int) + (j : Int)) = (pk : Int) := by have := HN.out; rw [IntKind.wrap_u64]; omega
         have x5 : IntKind.u64.wrap ((j : Int) + 1) = ((j + 1 : Nat) : Int) := by rw [IntKind.wrap_u64]; omega
         have hjI : (j : Int) < (n : Int) := by omega
         rw [← hpk] at HSJ
         generalize xs ++ added page prot j = ys at how HSJ hlj
         clear hpk
         go_wp2_with (at_builtin; refine wpList_append_own _ rfl (.tmp 84) (.tmp 90) 22 rfl w0.heap.size 77 i0 _ 2 16 Tryz.underlying22 HI.out.1 HI.out.2.1 HI.out.2.2.1 HI.out.2.2.2 rfl (by decide) _ _ _ rfl (own_alloc how _) ⟨wr.heap.size, 0, none⟩ 1 1 [.int .u64 (pk : Int), .int .i64 prot] rfl rfl (cells2 _ _ _ _) (one2 _ _ _) (by unfold maxLen; omega) (by omega) (by simp; omega) ?_; intro sv w2 how2 hgr2 _; obtain ⟨sa2, sn2, sp2, rfl⟩ := own_shape how2; have R2 := app_own how2; have B2 : Below w0.heap.size w0 w2 := app_below _ hbr hWr hgr2 (own_ge how); have S2 := B2.size; have y20 := keep_cell B2 c0; have y21 := keep_cell B2 c1; have HR2 : Hid (w2.ownsRow w0.heap.size 77 2 (.slice sa2 sn2 sp2) (ys ++ [(pk, prot)]).length (rowOf .i64 (ys ++ [(pk, prot)]))) := R2; have HB2 : Hid (Below w0.heap.size w0 w2) := B2; clear R2 B2 how2 hgr2 S2)
         go_roundw
         case rel => exact ⟨j + 1, by omega, by go_num, by rw [HSJ.out]; exact HR2.out, HB2.out⟩
         case measure => simp [intOf] <;> omega
        ·obtain rfl : j = n := by omega
         have hjI : ¬ (j : Int) < (j : Int) := by omega
         clear hjn hj
         rw [HSN.out.1] at how
         have HOW : Hid (wr.ownsRow w0.heap.size 77 2 (.slice ta tn tp) (insL page (added page prot j) ms (ms.length + 1)).length (rowOf .i64 (insL page (added page prot j) ms (ms.length + 1)))) := how
         have HBR : Hid (Below w0.heap.size w0 wr) := hbr
         clear how hbr
         go_wp2
         go_roundw
         case rel => exact ⟨ms.length + 1, by omega, by go_num, by rw [HSN.out.2], HOW.out, HBR.out⟩
         case measure => simp [intOf] <;> omega
     ·obtain rfl : m = ms.length + 1 := by omega
      rw [HZ.out] at how
      have f0 := g0.keep hbr
      have f1 := g1.keep hbr
      have fh := h0.keep hbr
      have q0 := f0.cell
      have q1 := f1.cell
      have q2 := f0.frozen
      have q3 := f1.frozen
      have q4 := fh.frozen
      have hbw := below_tr hb hbr
      have hws := HWS.out
      obtain ⟨WA, hWA⟩ : ∃ WA, wr.setCell ⟨w.heap.size, 0, none⟩ (.slice sa sn sp) = WA := ⟨_, rfl⟩
      have F0 : Free WA ⟨w.heap.size + 1, 0, none⟩ := by rw [← hWA]; exact f0.set _ _
      have F1 : Free WA ⟨w.heap.size + 1, 1, none⟩ := by rw [← hWA]; exact f1.set _ _
      have u1 : WA.cell? ⟨w.heap.size, 1, none⟩ = some (.slice ac nc pc) := by rw [← hWA, World.cell?_setCell_other _ _ _ _ (by simp)]; exact e1
      have u0 : WA.cell? ⟨w.heap.size, 0, none⟩ = some (.slice sa sn sp) := by rw [← hWA]; exact World.cell?_setCell_same _ _ _ fh.cell
      have i0' := F0.cell
      have i1' := F1.cell
      have i2' := F0.frozen
      have i3' := F1.frozen
      have SM : Hid (World.ownsRow ((WA.setCell ⟨w.heap.size + 1, 0, none⟩ (.slice sa sn sp)).setCell ⟨w.heap.size + 1, 1, none⟩ (.slice ac nc pc)) w.heap.size 77 2 (.slice sa sn sp) zm.length (rowOf .i64 zm)) := by
       rw [← hWA]
       exact res2_own (ownsRow_setCell_below how (by simp; omega) _) (by omega) (by omega)
      have SB : Hid (Below w.heap.size w ((WA.setCell ⟨w.heap.size + 1, 0, none⟩ (.slice sa sn sp)).setCell ⟨w.heap.size + 1, 1, none⟩ (.slice ac nc pc))) := by
       rw [← hWA]
       exact below_set (below_set (below_set hbw (by simp) _) (by simp) _) (by simp) _
      have hmI : ¬ ((ms.length : Int) + 1 ≤ (ms.length : Int)) := by omega
      clear how hws hlm hml hme
      go_wp2
      (try simp only [Exit.inBlock, Exit.then])
      obtain ⟨r0, r1⟩ := res2 WA (w.heap.size + 1) (.slice sa sn sp) (.slice ac nc pc) F0 F1
      refine bodyPost_ret (v := .tuple #[.agg #[.slice sa sn sp, .slice ac nc pc], .int .i64 0]) ?_ rfl ⟨_, rfl, SM.out, SB.out⟩
      rw [results_cell_tmp rfl]; simp [go_sem, r0, r1]
end Go.Proofs.YtkpmkgkfpikpfaaGreat
