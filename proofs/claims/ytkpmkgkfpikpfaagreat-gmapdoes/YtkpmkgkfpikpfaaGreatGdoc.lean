/- What is proved here: the document's small functions for the guest's pages. -/
import Derived.Test.YtkpmkgkfpikpfaaGreatGmap2
import Derived.Test.YtkpmkgkfpikpfaaGreatSpan
import Derived.Test.YtkpmkgkfpikpfaaGreatHeld
import Derived.LoopTactic
import Derived.Test.YtkpmkgkfpikpfaaGreatStoreF
namespace Go.Proofs.YtkpmkgkfpikpfaaGreat
open Go.RowKit
set_option linter.unusedVariables false
set_option linter.unusedSimpArgs false
set_option maxRecDepth 100000
theorem protN_at {ps : List (Nat × Int)} {n k : Nat} (h : k < ps.length) (e : ps[k].1 = n) (hn : ∀ j (hj : j < k), ps[j].1 ≠ n) : protN ps n = ps[k].2 := by
 have : ps.find? (fun x => x.1 == n) = some ps[k] := by
  rw [List.find?_eq_some_iff_getElem]
  exact ⟨by simpa using e, k, h, rfl, fun j hj => by simpa using hn j hj⟩
 rw [protN, this]
theorem protN_none {ps : List (Nat × Int)} {n : Nat} (hn : ∀ j (hj : j < ps.length), ps[j].1 ≠ n) : protN ps n = -1 := by
 have : ps.find? (fun x => x.1 == n) = none := by
  rw [List.find?_eq_none]
  intro x hx
  obtain ⟨j, hj, rfl⟩ := List.getElem_of_mem hx
  simpa using hn j hj
 rw [protN, this]
set_option maxHeartbeats 1000000 in
theorem rprot15 (vm vc vp : Value) (bs n : Nat) (ps : List (Nat × Int)) (w : World) (hm : ∃ a n p, vm = .slice a n p) (hc : ∃ a n p, vc = .slice a n p) (hp : Pg.Sl .i64 w vp ps) :
  Calls Tryz.prog 21 #[.agg #[vm, vc, .int .u64 (bs : Int), vp], .int .u32 (n : Int)] w fun e w' => e = .returned (.int .i64 (protN ps n)) ∧ Below w.heap.size w w' := by
 obtain ⟨W, hW, hb, hsz, c0, c1, c2, c3, _⟩ := box4 w vm vc (.int .u64 (bs : Int)) vp 29
 obtain ⟨_, _, _, rfl⟩ := hm
 obtain ⟨_, _, _, rfl⟩ := hc
 obtain ⟨ao, cap, rfl, h1, h2, h3, h4⟩ := hp
 have HC : Hid (∀ i (h : i < ps.length), ∃ b o, ao = some ⟨b, o, none⟩ ∧ W.cell? ⟨b, o + i * 2, none⟩ = some (.int .u32 (ps[i].1 : Int)) ∧ W.cell? ⟨b, o + i * 2 + 1, none⟩ = some (.int .i64 ps[i].2)) := fun i hi => by
  obtain ⟨b, o, e, d0, d1⟩ := h4 i hi
  exact ⟨b, o, e, keep_cell hb d0, keep_cell hb d1⟩
 clear h3 h4
 go_enter Tryz.func21, Tryz.ntmps21
 go_wp2
 go_loopw [5] (fun i wr => ∃ k : Nat, k ≤ ps.length ∧ i = .int .i64 (k : Int) ∧ W = wr ∧ ∀ j (hj : j < k) (hl : j < ps.length), ps[j].1 ≠ n) (fun i _ => ps.length - (intOf i).toNat)
 case atStart => exact ⟨0, Nat.zero_le _, rfl, rfl, fun j hj => by omega⟩
 case round =>
  obtain ⟨k, hk, rfl, rfl, hno⟩ := hrel
  have HN : Hid _ := hno
  clear hno
  by_cases hkl : k < ps.length
  ·obtain ⟨b, o, rfl, d0, d1⟩ := HC.out k hkl
   by_cases hp : ps[k].1 = n
   ·have HR : Hid (protN ps n = ps[k].2) := protN_at hkl hp (fun j hj => HN.out j hj (by omega))
    rw [hp] at d0
    generalize ps[k].2 = r at HR d1
    clear hp
    go_wp2
    go_ret
    exact ⟨by rw [HR.out]; rfl, hb⟩
   ·have HK : Hid (∀ j (hj : j < k + 1) (hl : j < ps.length), ps[j].1 ≠ n) := fun j hj hl => by
     by_cases e : j = k
     ·subst e; exact hp
     ·exact HN.out j (by omega) hl
    have hne : ((ps[k].1 : Int) == (n : Int)) = false := by simp; omega
    generalize ps[k].1 = p at d0 hne
    clear hp d1
    go_wp2
    go_roundw
    case rel => exact ⟨k + 1, by omega, by go_num, by first | rfl | trivial, HK.out⟩
    case measure => simp [intOf]; omega
  ·have HR : Hid (protN ps n = -1) := protN_none (fun j hj => HN.out j (by omega) hj)
   obtain rfl : k = ps.length := by omega
   go_wp2
   go_ret
   exact ⟨by rw [HR.out]; rfl, hb⟩
def inB (bs a : Nat) : Bool := decide (bs ≤ a ∧ a - bs < 4294967296)
set_option maxHeartbeats 1000000 in
theorem rown33 (vm vc vp : Value) (bs a : Nat) (w : World) (hm : ∃ a n p, vm = .slice a n p) (hc : ∃ a n p, vc = .slice a n p) (hp : ∃ a n p, vp = .slice a n p) (hbs : bs < 18446744073709551616) (ha : a < 18446744073709551616) :
  Calls Tryz.prog 45 #[.agg #[vm, vc, .int .u64 (bs : Int), vp], .int .u64 (a : Int)] w fun e w' => e = .returned (.tuple #[.int .u32 (if inB bs a then (((a - bs) / 4096 : Nat) : Int) else 0), .bool (inB bs a)]) ∧ Below w.heap.size w w' := by
 obtain ⟨W, hW, hb, hsz, c0, c1, c2, c3, _⟩ := box4 w vm vc (.int .u64 (bs : Int)) vp 29
 obtain ⟨_, _, _, rfl⟩ := hm
 obtain ⟨_, _, _, rfl⟩ := hc
 obtain ⟨_, _, _, rfl⟩ := hp
 by_cases k1 : a < bs
 ·have HR : Hid (inB bs a = false) := by simp [Hid, inB]; omega
  have y1 : (a : Int) < (bs : Int) := by omega
  rw [HR.out]
  clear k1
  go_enter Tryz.func45, Tryz.ntmps45
  go_wp2
  go_ret2
  exact ⟨by simp, hb⟩
 ·have y1 : ¬ (a : Int) < (bs : Int) := by omega
  obtain ⟨d, hd⟩ : ∃ d, d = a - bs := ⟨_, rfl⟩
  have y2 : IntKind.u64.wrap ((a : Int) - (bs : Int)) = (d : Int) := by rw [IntKind.wrap_u64]; omega
  rw [← hd]
  by_cases k2 : d < 4294967296
  ·have HR : Hid (inB bs a = true) := by simp [Hid, inB]; omega
   have y3 : ¬ (4294967296 : Int) ≤ (d : Int) := by omega
   obtain ⟨q, hq⟩ : ∃ q, q = d / 4096 := ⟨_, rfl⟩
   have y4 : (d : Int) / 4096 = (q : Int) := by omega
   have y5 : IntKind.u64.wrap (q : Int) = (q : Int) := by rw [IntKind.wrap_u64]; omega
   have y6 : IntKind.u32.wrap (q : Int) = (q : Int) := by rw [IntKind.wrap_u32]; omega
   have y7 : (q : Int) % 4294967296 = (q : Int) := by omega
   rw [HR.out, ← hq]
   clear k1 k2 hd hq
   go_enter Tryz.func45, Tryz.ntmps45
   go_wp2
   go_ret2
   exact ⟨by simp, hb⟩
  ·have HR : Hid (inB bs a = false) := by simp [Hid, inB]; omega
   have y3 : (4294967296 : Int) ≤ (d : Int) := by omega
   rw [HR.out]
   clear k1 k2 hd
   go_enter Tryz.func45, Tryz.ntmps45
   go_wp2
   go_ret2
   exact ⟨by simp, hb⟩
set_option maxHeartbeats 2000000 in
theorem rused34 (vm vc vp : Value) (bs pg : Nat) (ps : List (Nat × Int)) (w : World) (hm : ∃ a n p, vm = .slice a n p) (hc : ∃ a n p, vc = .slice a n p) (hp : Pg.Sl .i64 w vp ps) (hbs : bs ≤ 4611686018427387904) (hal : bs % 16384 = 0) (hpb : ∀ x ∈ ps, x.1 < 1048576) :
  Calls Tryz.prog 46 #[.agg #[vm, vc, .int .u64 (bs : Int), vp], .int .u64 (pg : Int)] w fun e w' => e = .returned (.bool (ps.any (fun x => _root_.Go.Proofs.YtkpmkgkfpikpfaaGreat.hp bs (x.1 / 4) == pg))) ∧ Below w.heap.size w w' := by
 obtain ⟨W, hW, hb, hsz, c0, c1, c2, c3, _⟩ := box4 w vm vc (.int .u64 (bs : Int)) vp 29
 obtain ⟨_, _, _, rfl⟩ := hm
 obtain ⟨_, _, _, rfl⟩ := hc
 obtain ⟨ao, cap, rfl, h1, h2, h3, h4⟩ := hp
 have HC : Hid (∀ i (h : i < ps.length), ∃ b o, ao = some ⟨b, o, none⟩ ∧ W.cell? ⟨b, o + i * 2, none⟩ = some (.int .u32 (ps[i].1 : Int)) ∧ W.cell? ⟨b, o + i * 2 + 1, none⟩ = some (.int .i64 ps[i].2)) := fun i hi => by
  obtain ⟨b, o, e, d0, d1⟩ := h4 i hi
  exact ⟨b, o, e, keep_cell hb d0, keep_cell hb d1⟩
 clear h3 h4
 have HB : Hid (∀ x ∈ ps, x.1 < 1048576) := hpb
 have HA : Hid (bs ≤ 4611686018427387904 ∧ bs % 16384 = 0) := ⟨hbs, hal⟩
 clear hpb hbs hal
 go_enter Tryz.func46, Tryz.ntmps46
 go_wp2
 go_loopw [5] (fun i wr => ∃ k : Nat, k ≤ ps.length ∧ i = .int .i64 (k : Int) ∧ Below W.heap.size W wr ∧ ∀ j (hj : j < k) (hl : j < ps.length), _root_.Go.Proofs.YtkpmkgkfpikpfaaGreat.hp bs (ps[j].1 / 4) ≠ pg) (fun i _ => ps.length - (intOf i).toNat)
 case atStart => exact ⟨0, Nat.zero_le _, rfl, Below.refl _ _, fun j hj => by omega⟩
 case round =>
  obtain ⟨k, hk, rfl, hbr, hno⟩ := hrel
  have HN : Hid _ := hno
  clear hno
  have e2 := keep_cell hbr c2
  have e3 := keep_cell hbr c3
  by_cases hkl : k < ps.length
  ·obtain ⟨b, o, rfl, D0, D1⟩ := HC.out k hkl
   have d0 := keep_cell hbr D0
   have hpl := HB.out _ (List.getElem_mem hkl)
   obtain ⟨p, hp⟩ : ∃ p, p = ps[k].1 := ⟨_, rfl⟩
   rw [← hp] at d0 hpl
   obtain ⟨h1', h2'⟩ := HA.out
   obtain ⟨q, hq⟩ : ∃ q, q = p * 4096 := ⟨_, rfl⟩
   obtain ⟨r, hr⟩ : ∃ q, q = bs + p * 4096 := ⟨_, rfl⟩
   obtain ⟨t, ht⟩ : ∃ q, q = _root_.Go.Proofs.YtkpmkgkfpikpfaaGreat.hp bs (p / 4) := ⟨_, rfl⟩
   have y0 : IntKind.u64.wrap (p : Int) = (p : Int) := by rw [IntKind.wrap_u64]; omega
   have y1 : IntKind.u64.wrap ((p : Int) * 4096) = (q : Int) := by rw [IntKind.wrap_u64]; omega
   have y2 : IntKind.u64.wrap ((bs : Int) + (q : Int)) = (r : Int) := by rw [IntKind.wrap_u64]; omega
   have y3 : (r : Int) / 16384 = (t : Int) := by rw [ht, _root_.Go.Proofs.YtkpmkgkfpikpfaaGreat.hp]; omega
   have y4 : IntKind.u64.wrap (t : Int) = (t : Int) := by rw [IntKind.wrap_u64, ht, _root_.Go.Proofs.YtkpmkgkfpikpfaaGreat.hp]; omega
   have x1 : (k : Int) < (ps.length : Int) := by omega
   by_cases hpp : t = pg
   ·have HR : Hid (ps.any (fun x => _root_.Go.Proofs.YtkpmkgkfpikpfaaGreat.hp bs (x.1 / 4) == pg) = true) := by
     show _ = _
     rw [List.any_eq_true]
     exact ⟨ps[k], List.getElem_mem hkl, by rw [← hp, ← ht]; simpa using hpp⟩
    have y5 : ((t : Int) == (pg : Int)) = true := by simp; omega
    haveI : Nonempty (Grew wr) := ⟨⟨wr, Below.refl _ _⟩⟩
    have z0 := grew_cell e2
    have z1 := grew_cell e3
    have z2 := grew_cell d0
    clear hp hq hr ht hpl h1' h2' D0 D1 hpp
    go_wp2
    refine wp_region_quiet_grew (by kernel_rfl) (by kernel_rfl) ?_
    repeat (go_big_quiet_step (fail))
    refine wpQuiet_nil ?_
    rintro _ ⟨pq, rfl⟩
    have hbq := below_tr (below_tr hb hbr) pq.bel
    clear z0 z1 z2
    go_wp2
    go_ret
    exact ⟨by rw [HR.out]; rfl, hbq⟩
   ·have HK : Hid (∀ j (hj : j < k + 1) (hl : j < ps.length), _root_.Go.Proofs.YtkpmkgkfpikpfaaGreat.hp bs (ps[j].1 / 4) ≠ pg) := fun j hj hl => by
     by_cases e : j = k
     ·subst e; rw [← hp, ← ht]; exact hpp
     ·exact HN.out j (by omega) hl
    have y5 : ((t : Int) == (pg : Int)) = false := by simp; omega
    haveI : Nonempty (Grew wr) := ⟨⟨wr, Below.refl _ _⟩⟩
    have z0 := grew_cell e2
    have z1 := grew_cell e3
    have z2 := grew_cell d0
    clear hp hq hr ht hpl h1' h2' D0 D1 hpp
    go_wp2
    refine wp_region_quiet_grew (by kernel_rfl) (by kernel_rfl) ?_
    repeat (go_big_quiet_step (fail))
    refine wpQuiet_nil ?_
    rintro _ ⟨pq, rfl⟩
    have hbq := below_tr hbr pq.bel
    clear z0 z1 z2
    go_wp2
    go_roundw
    case rel => exact ⟨k + 1, by omega, by go_num, hbq, HK.out⟩
    case measure => simp [intOf]; omega
  ·have HR : Hid (ps.any (fun x => _root_.Go.Proofs.YtkpmkgkfpikpfaaGreat.hp bs (x.1 / 4) == pg) = false) := by
    show _ = _
    rw [List.any_eq_false]
    intro x hx
    obtain ⟨j, hj, rfl⟩ := List.getElem_of_mem hx
    simpa using HN.out j (by omega) hj
   obtain rfl : k = ps.length := by omega
   have hbq := below_tr hb hbr
   go_wp2
   go_ret
   exact ⟨by rw [HR.out]; rfl, hbq⟩
set_option maxHeartbeats 1000000 in
theorem rplace17 (vm vc vp : Value) (b a : Nat) (hb : b ≤ 4611686018427387904) (ha : a < 4294967296) (w : World) (hm : ∃ a n p, vm = .slice a n p) (hc : ∃ a n p, vc = .slice a n p) (hp : ∃ a n p, vp = .slice a n p) :
  Calls Tryz.prog 59 #[.agg #[vm, vc, .int .u64 (b : Int), vp], .int .u32 (a : Int)] w fun e w' => e = .returned (.int .u64 ((b + a : Nat) : Int)) ∧ Below w.heap.size w w' := by
 obtain ⟨W, hW, hbb, hsz, c0, c1, c2, c3, _⟩ := box4 w vm vc (.int .u64 (b : Int)) vp 29
 obtain ⟨_, _, _, rfl⟩ := hm
 obtain ⟨_, _, _, rfl⟩ := hc
 obtain ⟨_, _, _, rfl⟩ := hp
 have x2 : IntKind.u64.wrap (a : Int) = (a : Int) := by rw [IntKind.wrap_u64]; omega
 have x3 : IntKind.u64.wrap ((b : Int) + (a : Int)) = ((b + a : Nat) : Int) := by rw [IntKind.wrap_u64]; omega
 obtain ⟨q, hq⟩ : ∃ q, q = b + a := ⟨_, rfl⟩
 rw [← hq] at x3
 rw [← hq]
 clear hq
 go_enter Tryz.func59, Tryz.ntmps59
 go_wp2
 go_ret
 exact ⟨rfl, hbb⟩
theorem pg_nil (k : IntKind) (w : World) : Pg.Sl k w (.slice none 0 0) [] := ⟨none, 0, rfl, by simp, by omega, fun _ => rfl, fun i hi => by simp at hi⟩
theorem slg_nil (w : World) : SlG w (.slice none 0 0) (.slice none 0 0) (.slice none 0 0) [] [] [] := ⟨sl_nil _ w, sl_nil _ w, pg_nil _ w⟩
end Go.Proofs.YtkpmkgkfpikpfaaGreat
