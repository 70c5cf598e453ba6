/- What is proved here: is one of some pages mapped? -/
import Derived.Test.YtkpmkgkfpikpfaaGreatGmap
import Derived.Test.YtkpmkgkfpikpfaaGreatGs
import Derived.LoopTactic
namespace Go.Proofs.YtkpmkgkfpikpfaaGreat
open Go.RowKit
set_option linter.unusedVariables false
set_option linter.unusedSimpArgs false
set_option maxRecDepth 100000
def someB (ps : List (Nat × Int)) (first n : Nat) : Bool := ps.any (fun x => decide (first ≤ x.1 ∧ x.1 - first < n))
def inN (first n p : Nat) : Bool := decide (first ≤ p ∧ p - first < n)
theorem someB_take {ps : List (Nat × Int)} {first n k : Nat} (h : k < ps.length) : someB (ps.take (k + 1)) first n = (someB (ps.take k) first n || inN first n ps[k].1) := by
 unfold someB inN
 rw [List.take_succ_eq_append_getElem h, List.any_append]
 simp
theorem someB_yes {ps : List (Nat × Int)} {first n k : Nat} (h : k < ps.length) (hi : inN first n ps[k].1 = true) : someB ps first n = true := by
 unfold someB
 exact List.any_eq_true.2 ⟨ps[k], List.getElem_mem h, hi⟩
theorem cl79 (p first n b1 b2 : Nat) (r : Int) (w : World) (h1 : w.cell? ⟨b1, 0, none⟩ = some (.int .u32 (first : Int))) (h2 : w.cell? ⟨b2, 0, none⟩ = some (.int .u32 (n : Int))) (hp : p < 1048576) (hf : first ≤ 1048576) (hn : n ≤ 1048576) :
  Calls Tryz.prog 79 #[.agg #[.int .u32 (p : Int), .int .i64 r], .pointer (some ⟨b1, 0, none⟩), .pointer (some ⟨b2, 0, none⟩)] w fun e w' => e = .returned (.bool (inN first n p)) ∧ Below w.heap.size w w' := by
 obtain ⟨X, hX, hb, hsz, c0, c1, _⟩ := box2 w (.int .u32 (p : Int)) (.int .i64 r) 53
 have h1 := keep_cell hb h1
 have h2 := keep_cell hb h2
 by_cases hge : first ≤ p
 ·obtain ⟨d, hd⟩ : ∃ z, z = p - first := ⟨_, rfl⟩
  have x1 : IntKind.u32.wrap ((p : Int) - (first : Int)) = (d : Int) := by rw [IntKind.wrap_u32]; omega
  have x2 : ((p : Int) - (first : Int)) % 4294967296 = (d : Int) := by omega
  by_cases hl : d < n
  ·have HI : Hid (inN first n p = true) := decide_eq_true ⟨hge, by omega⟩
   have hl2 : (d : Int) < (n : Int) := by omega
   clear hd hge
   go_enter Tryz.func79, Tryz.ntmps79
   go_wp2
   go_ret
   exact ⟨by rw [HI.out]; rfl, hb⟩
  ·have HI : Hid (inN first n p = false) := decide_eq_false (by omega)
   have hl2 : decide ((d : Int) < (n : Int)) = false := decide_eq_false (by omega)
   have hl3 : (d < n) = False := eq_false hl
   clear hd hge
   go_enter Tryz.func79, Tryz.ntmps79
   go_wp2
   go_ret
   exact ⟨by rw [HI.out]; rfl, hb⟩
 ·obtain ⟨d, hd⟩ : ∃ z, z = p + 4294967296 - first := ⟨_, rfl⟩
  have x1 : IntKind.u32.wrap ((p : Int) - (first : Int)) = (d : Int) := by rw [IntKind.wrap_u32]; omega
  have x2 : ((p : Int) - (first : Int)) % 4294967296 = (d : Int) := by omega
  have HI : Hid (inN first n p = false) := decide_eq_false (by omega)
  have hl2 : decide ((d : Int) < (n : Int)) = false := decide_eq_false (by omega)
  have hl3 : (d < n) = False := eq_false (by omega)
  clear hd hge
  go_enter Tryz.func79, Tryz.ntmps79
  go_wp2
  go_ret
  exact ⟨by rw [HI.out]; rfl, hb⟩
set_option maxHeartbeats 2000000 in
theorem idx93 (vp : Value) (ps : List (Nat × Int)) (first n b1 b2 : Nat) (w : World) (hp : Pg.Sl .i64 w vp ps) (hps : ∀ x ∈ ps, x.1 < 1048576) (h1 : w.cell? ⟨b1, 0, none⟩ = some (.int .u32 (first : Int))) (h2 : w.cell? ⟨b2, 0, none⟩ = some (.int .u32 (n : Int))) (hf : first ≤ 1048576) (hn : n ≤ 1048576) (hl : ps.length ≤ 1073741824) :
  Calls Tryz.prog 93 #[vp, .func (.func 79) #[] #[.pointer (some ⟨b1, 0, none⟩), .pointer (some ⟨b2, 0, none⟩)]] w fun e w' => ∃ r : Int, e = .returned (.int .i64 r) ∧ decide (0 ≤ r) = someB ps first n ∧ Below w.heap.size w w' := by
 obtain ⟨ap, cp, rfl, l1, l2, _, hx⟩ := id hp
 have HX : Hid (∀ i (h : i < ps.length), ∃ b o, ap = some ⟨b, o, none⟩ ∧ w.cell? ⟨b, o + i * 2, none⟩ = some (.int .u32 (ps[i].1 : Int)) ∧ w.cell? ⟨b, o + i * 2 + 1, none⟩ = some (.int .i64 ps[i].2)) := hx
 have HPS : Hid (∀ x ∈ ps, x.1 < 1048576) := hps
 clear hx hp hps
 go_enter Tryz.func93, Tryz.ntmps93
 go_wp2
 go_loopw [8] (fun i wr => ∃ k : Nat, k ≤ ps.length ∧ i = .int .i64 (k : Int) ∧ someB (ps.take k) first n = false ∧ Below w.heap.size w wr) (fun i _ => ps.length - (intOf i).toNat)
 case atStart => exact ⟨0, Nat.zero_le _, rfl, rfl, Below.refl _ _⟩
 case round =>
  obtain ⟨k, hk, rfl, hno, hbr⟩ := hrel
  have HN : Hid (someB (ps.take k) first n = false) := hno
  clear hno
  have g1 := keep_cell hbr h1
  have g2 := keep_cell hbr h2
  by_cases hkl : k < ps.length
  ·obtain ⟨b, o, rfl, d0, d1⟩ := HX.out k hkl
   have e0 := keep_cell hbr d0
   have e1 := keep_cell hbr d1
   have hpk := HPS.out _ (List.getElem_mem hkl)
   have HT := someB_take (first := first) (n := n) hkl
   have HY := someB_yes (first := first) (n := n) hkl
   generalize ps[k].1 = p at e0 hpk HT HY d0
   generalize ps[k].2 = r at e1 d1
   clear d0 d1
   have K := cl79 p first n b1 b2 r wr g1 g2 hpk hf hn
   cases hi : inN first n p with
   | true =>
    have HYY : Hid (someB ps first n = true) := HY hi
    rw [hi] at K
    clear HT HY hi
    go_wp2_with fail
    refine K.mono ?_
    rintro e w4 ⟨rfl, hb4⟩
    go_wp2
    go_ret
    exact ⟨(k : Int), rfl, by rw [HYY.out]; simp, below_tr hbr hb4⟩
   | false =>
    have HTT : Hid (someB (ps.take (k + 1)) first n = false) := by show _ = _; rw [HT, HN.out, hi]; rfl
    rw [hi] at K
    clear HT HY hi
    go_wp2_with fail
    refine K.mono ?_
    rintro e w4 ⟨rfl, hb4⟩
    go_wp2
    go_roundw
    case rel => exact ⟨k + 1, by omega, by go_num, HTT.out, below_tr hbr hb4⟩
    case measure => simp [intOf]; omega
  ·have hkn : k = ps.length := by omega
   have HE : Hid (someB ps first n = false) := by
    have h := HN.out
    rw [hkn, List.take_length] at h
    exact h
   have hk2 : decide ((k : Int) < (ps.length : Int)) = false := decide_eq_false (by omega)
   clear hkn
   go_wp2
   go_ret
   exact ⟨-1, rfl, by rw [HE.out]; rfl, hbr⟩
theorem contains78 (vp : Value) (ps : List (Nat × Int)) (first n b1 b2 : Nat) (w : World) (hp : Pg.Sl .i64 w vp ps) (hps : ∀ x ∈ ps, x.1 < 1048576) (h1 : w.cell? ⟨b1, 0, none⟩ = some (.int .u32 (first : Int))) (h2 : w.cell? ⟨b2, 0, none⟩ = some (.int .u32 (n : Int))) (hf : first ≤ 1048576) (hn : n ≤ 1048576) (hl : ps.length ≤ 1073741824) :
  Calls Tryz.prog 78 #[vp, .func (.func 79) #[] #[.pointer (some ⟨b1, 0, none⟩), .pointer (some ⟨b2, 0, none⟩)]] w fun e w' => e = .returned (.bool (someB ps first n)) ∧ Below w.heap.size w w' := by
 have K := idx93 vp ps first n b1 b2 w hp hps h1 h2 hf hn hl
 obtain ⟨ap, cp, rfl, _⟩ := id hp
 obtain ⟨B, hB⟩ : ∃ z, z = someB ps first n := ⟨_, rfl⟩
 rw [← hB] at K ⊢
 clear hB hp hps
 go_enter Tryz.func78, Tryz.ntmps78
 go_wp2_with fail
 refine K.mono ?_
 rintro e w4 ⟨r, rfl, hr, hb4⟩
 have HR : Hid (decide (0 ≤ r) = B) := hr
 clear hr
 go_wp2
 go_ret
 exact ⟨by rw [← HR.out]; rfl, hb4⟩
set_option maxHeartbeats 1000000 in
theorem isUnmapped49 (vm vc vp : Value) (bs first n : Nat) (ps : List (Nat × Int)) (w : World) (hm : ∃ a n p, vm = .slice a n p) (hc : ∃ a n p, vc = .slice a n p) (hp : Pg.Sl .i64 w vp ps) (hps : ∀ x ∈ ps, x.1 < 1048576) (hf : first ≤ 1048576) (hn : n ≤ 1048576) (hl : ps.length ≤ 1073741824) :
  Calls Tryz.prog 49 #[.agg #[vm, vc, .int .u64 (bs : Int), vp], .int .u32 (first : Int), .int .u32 (n : Int)] w fun e w' => e = .returned (.bool (!someB ps first n)) ∧ Below w.heap.size w w' := by
 obtain ⟨X, hX, hb, hsz, c0, c1, c2, c3, _⟩ := box4 w vm vc (.int .u64 (bs : Int)) vp 29
 obtain ⟨Y, hY, hbY, hszY, d0⟩ := box1e X (.int .u32 (first : Int)) 30
 obtain ⟨Z, hZ, hbZ, hszZ, e0⟩ := box1e Y (.int .u32 (n : Int)) 30
 have bW := below_tr hb (below_tr hbY hbZ)
 have c3 := keep_cell hbZ (keep_cell hbY c3)
 have d0 := keep_cell hbZ d0
 obtain ⟨nY, hnY⟩ : ∃ z, X.heap.size = z := ⟨_, rfl⟩
 obtain ⟨nZ, hnZ⟩ : ∃ z, Y.heap.size = z := ⟨_, rfl⟩
 rw [hnY] at d0
 rw [hnZ] at e0
 have K := contains78 vp ps first n nY nZ Z (hp.keep bW) hps d0 e0 hf hn hl
 obtain ⟨ap, cp, rfl, _⟩ := id hp
 obtain ⟨am, nm, pm, rfl⟩ := hm
 obtain ⟨ac, nc, pc, rfl⟩ := hc
 obtain ⟨B, hB⟩ : ∃ z, z = someB ps first n := ⟨_, rfl⟩
 rw [← hB] at K ⊢
 obtain ⟨np, hnp⟩ : ∃ z, z = ps.length := ⟨_, rfl⟩
 rw [← hnp] at K c3 hX ⊢
 clear hB hp hps hnp hl hsz hszY hszZ
 go_enter Tryz.func49, Tryz.ntmps49
 go_wp2_with fail
 refine K.mono ?_
 rintro e w4 ⟨rfl, hb4⟩
 go_wp2
 go_ret
 exact ⟨rfl, below_tr bW hb4⟩
set_option maxHeartbeats 2000000 in
theorem rsome30 (vm vc vp : Value) (bs first n : Nat) (ps : List (Nat × Int)) (w : World) (hm : ∃ a n p, vm = .slice a n p) (hc : ∃ a n p, vc = .slice a n p) (hp : Pg.Sl .i64 w vp ps) (hps : ∀ x ∈ ps, x.1 < 4294967296) (hl : ps.length ≤ 1073741824) :
  Calls Tryz.prog 30 #[.agg #[vm, vc, .int .u64 (bs : Int), vp], .int .u32 (first : Int), .int .u32 (n : Int)] w fun e w' => e = .returned (.bool (someB ps first n)) ∧ Below w.heap.size w w' := by
 obtain ⟨X, hX, hb, hsz, c0, c1, c2, c3, _⟩ := box4 w vm vc (.int .u64 (bs : Int)) vp 29
 obtain ⟨ap, cp, rfl, l1, l2, _, hx⟩ := hp.keep hb
 obtain ⟨am, nm, pm, rfl⟩ := hm
 obtain ⟨ac, nc, pc, rfl⟩ := hc
 have HX : Hid (∀ i (h : i < ps.length), ∃ b o, ap = some ⟨b, o, none⟩ ∧ X.cell? ⟨b, o + i * 2, none⟩ = some (.int .u32 (ps[i].1 : Int)) ∧ X.cell? ⟨b, o + i * 2 + 1, none⟩ = some (.int .i64 ps[i].2)) := hx
 have HPS : Hid (∀ x ∈ ps, x.1 < 4294967296) := hps
 clear hx hp hps
 go_enter Tryz.func30, Tryz.ntmps30
 go_wp2
 go_loopw [7] (fun i wr => ∃ k : Nat, k ≤ ps.length ∧ i = .int .i64 (k : Int) ∧ someB (ps.take k) first n = false ∧ wr = X) (fun i _ => ps.length - (intOf i).toNat)
 case atStart => exact ⟨0, Nat.zero_le _, rfl, rfl, rfl⟩
 case round =>
  obtain ⟨k, hk, rfl, hno, rfl⟩ := hrel
  have HN : Hid (someB (ps.take k) first n = false) := hno
  clear hno
  by_cases hkl : k < ps.length
  ·obtain ⟨b, o, rfl, d0, d1⟩ := HX.out k hkl
   have hpk := HPS.out _ (List.getElem_mem hkl)
   have HT := someB_take (first := first) (n := n) hkl
   have HY := someB_yes (first := first) (n := n) hkl
   generalize ps[k].1 = p at d0 hpk HT HY
   generalize ps[k].2 = r at d1
   by_cases hge : first ≤ p
   ·obtain ⟨d, hd⟩ : ∃ z, z = p - first := ⟨_, rfl⟩
    have x1 : IntKind.u32.wrap ((p : Int) - (first : Int)) = (d : Int) := by rw [IntKind.wrap_u32]; omega
    have x2 : ((p : Int) - (first : Int)) % 4294967296 = (d : Int) := by omega
    have x3 : (p : Int) - (first : Int) = (d : Int) := by omega
    have hge2 : (first : Int) ≤ (p : Int) := by omega
    by_cases hlt : d < n
    ·have HYY : Hid (someB ps first n = true) := HY (decide_eq_true ⟨hge, by omega⟩)
     have hl2 : (d : Int) < (n : Int) := by omega
     clear HT HY hd hge
     go_wp2
     go_ret
     exact ⟨by rw [HYY.out]; rfl, hb⟩
    ·have HTT : Hid (someB (ps.take (k + 1)) first n = false) := by show _ = _; rw [HT, HN.out, show inN first n p = false from decide_eq_false (by omega)]; rfl
     have hl2 : decide ((d : Int) < (n : Int)) = false := decide_eq_false (by omega)
     have hl3 : (d < n) = False := eq_false hlt
     clear HT HY hd hge
     go_wp2
     go_roundw
     case rel => exact ⟨k + 1, by omega, by go_num, HTT.out, by trivial⟩
     case measure => simp [intOf]; omega
   ·have HTT : Hid (someB (ps.take (k + 1)) first n = false) := by show _ = _; rw [HT, HN.out, show inN first n p = false from decide_eq_false (by omega)]; rfl
    have hge2 : decide ((first : Int) ≤ (p : Int)) = false := decide_eq_false (by omega)
    have hge3 : (first ≤ p) = False := eq_false hge
    clear HT HY hge
    go_wp2
    go_roundw
    case rel => exact ⟨k + 1, by omega, by go_num, HTT.out, by trivial⟩
    case measure => simp [intOf]; omega
  ·have hkn : k = ps.length := by omega
   have HE : Hid (someB ps first n = false) := by
    have h := HN.out
    rw [hkn, List.take_length] at h
    exact h
   have hk2 : decide ((k : Int) < (ps.length : Int)) = false := decide_eq_false (by omega)
   clear hkn
   go_wp2
   go_ret
   exact ⟨by rw [HE.out]; rfl, hb⟩
end Go.Proofs.YtkpmkgkfpikpfaaGreat
