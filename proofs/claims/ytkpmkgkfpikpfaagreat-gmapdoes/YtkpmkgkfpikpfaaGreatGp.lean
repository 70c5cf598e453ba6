/- What is proved here: the iterator over the host's pages in which pages of the guest are. -/
import Derived.RangeFuncNested
import Derived.RangeFuncBound
import Derived.RangeFuncCalls
import Derived.RangeFuncLeaves
import Derived.Shelf.Abstract
import Derived.Shelf.RegionOpen
import Derived.WalkKit
import Derived.OwnWalkIn
import Derived.TacticsInMore
import Derived.LoopNIn
import Derived.LoopIn
import Derived.Test.YtkpmkgkfpikpfaaGreatGb
import Derived.Test.YtkpmkgkfpikpfaaGreatPlain
import Derived.Test.YtkpmkgkfpikpfaaGreatRmap
import Derived.RangeFuncBox
namespace Go.Proofs.YtkpmkgkfpikpfaaGreat
open Go.RowKit Go.Shelf
set_option linter.unusedVariables false
set_option maxRecDepth 100000
attribute [local go_sem] Oper.semAt_some
structure But (n₀ wb : Nat) (w w' : World) : Prop where
 os : w'.os = w.os
 tape : w'.tape = w.tape
 output : w'.output = w.output
 size : w.heap.size ≤ w'.heap.size
 block : ∀ k, k < n₀ → k ≠ wb → w'.heap[k]? = w.heap[k]?
theorem But.refl (n₀ wb : Nat) (w : World) : But n₀ wb w w := ⟨rfl, rfl, rfl, Nat.le_refl _, fun _ _ _ => rfl⟩
theorem But.trans {n₀ wb : Nat} {a b c : World} (h : But n₀ wb a b) (k : But n₀ wb b c) : But n₀ wb a c :=
 ⟨k.os.trans h.os, k.tape.trans h.tape, k.output.trans h.output, Nat.le_trans h.size k.size, fun i hi hn => (k.block i hi hn).trans (h.block i hi hn)⟩
theorem But.grown {n₀ wb : Nat} {w w' : World} (h : w.grownBy w' (some wb)) (hn : n₀ ≤ w.heap.size) : But n₀ wb w w' :=
 ⟨h.os, h.tape, h.output, h.size, fun k hk hne => h.block k (by omega) (fun e => hne (by cases e; rfl))⟩
theorem But.row {n₀ wb : Nat} {a w w' : World} {row : Option Nat} (h : But n₀ wb a w) (hg : w.grownBy w' row) (hn : n₀ ≤ w.heap.size) (hr : ∀ r, row = some r → n₀ ≤ r) : But n₀ wb a w' :=
 h.trans ⟨hg.os, hg.tape, hg.output, hg.size, fun k hk _ => hg.block k (by omega) (fun e => by have := hr k e.symm; omega)⟩
theorem But.cell {n₀ wb : Nat} {w w' : World} (h : But n₀ wb w w') {p : Addr} {v : Value} (h1 : p.block < n₀) (h2 : p.block ≠ wb) (hc : w.cell? p = some v) : w'.cell? p = some v :=
 (World.cell?_of_block (w := w) (h.block p.block h1 h2)).trans hc
theorem butK_b {n₀ wb : Nat} {w : World} (hn : n₀ ≤ w.heap.size) (W : World) (l : Nat) (o o' : Obj) (hl : w.heap.size ≤ l) (h : W.heap[l]? = some o) (_ : o.isCells = false) (_ : o.isWalk = false) : But n₀ wb W (W.putObj l o') :=
 (But.refl n₀ wb W).row (grownBy_putObj' W l o') (by have := (Array.getElem?_eq_some_iff.1 h).1; omega) (fun k e => by cases e; omega)
abbrev K4 := Fin 262144
def encK (x : K4) : Array Value := #[.int .u32 (x.val : Int)]
def toK (n : Nat) : K4 := ⟨n % 262144, Nat.mod_lt _ (by decide)⟩
theorem toK_val {n : Nat} (h : n < 262144) : (toK n).val = n := Nat.mod_eq_of_lt h
def ksM (ps : List (Nat × Int)) : Nat → List K4
 | 0 => []
 | m + 1 => ksM ps m ++ (if 0 < m ∧ (ps.getD (m - 1) (0, 0)).1 / 4 = (ps.getD m (0, 0)).1 / 4 then [] else [toK ((ps.getD m (0, 0)).1 / 4)])
theorem ksM_len (ps : List (Nat × Int)) : ∀ m, (ksM ps m).length ≤ m
 | 0 => by simp [ksM]
 | m + 1 => by
  have := ksM_len ps m
  rw [ksM, List.length_append]
  split <;> simp <;> omega
theorem ksM_pre (ps : List (Nat × Int)) (m : Nat) : ∀ d, ksM ps m <+: ksM ps (m + d)
 | 0 => List.prefix_refl _
 | d + 1 => (ksM_pre ps m d).trans (by rw [← Nat.add_assoc, ksM]; exact List.prefix_append _ _)
set_option maxHeartbeats 4000000 in
theorem hostPages1_in (F : Fence) (m : Nat) (h74 : F.fn 88) (hro : F.round = none) (hm : 1 ≤ m) (l Bn n₀ wb : Nat) (v : Value) (ps : List (Nat × Int)) (hl : ps.length ≤ 1000000) (hps : ∀ x ∈ ps, x.1 < 1048576) (J Jx : List K4 → World → Prop)
  (hY : ∀ pre x W, J pre W → pre.length < ps.length → YieldAt F (m - 1) Tryz.prog l (encK x) W fun e W' =>
   (e = .returned (.bool true) ∧ J (pre ++ [x]) W' ∧ But n₀ wb W W') ∨ (e = .returned (.bool false) ∧ Jx (pre ++ [x]) W'))
  (W : World) (hn₀ : n₀ ≤ W.heap.size) (hJ : AbidesFrom W.heap.size J) (hB1 : Bn < n₀) (hB2 : Bn ≠ wb) (hBn : W.cell? ⟨Bn, 0, none⟩ = some v) (hv : Pg.Sl .i64 W v ps) (hvb : ∀ g, v.ownBlock = some g → 0 < ps.length → g < n₀ ∧ g ≠ wb) (h0 : J [] W) :
  CallsIn F m Tryz.prog 88 #[.func (.yield l) #[] #[], .pointer (some ⟨Bn, 0, none⟩)] W fun e W' => (∃ v, e = .returned v) ∧
   ((∃ ys, ys = ksM ps ps.length ∧ J ys W') ∨ (∃ pre, pre <+: ksM ps ps.length ∧ Jx pre W')) := by
 obtain ⟨ao, cap, rfl, h1, h2, _, h4⟩ := hv
 have HX : Hid (∀ i (h : i < ps.length), ∃ b o, ao = some ⟨b, o, none⟩ ∧ b < n₀ ∧ b ≠ wb ∧ W.cell? ⟨b, o + i * 2, none⟩ = some (.int .u32 (ps[i].1 : Int)) ∧ W.cell? ⟨b, o + i * 2 + 1, none⟩ = some (.int .i64 ps[i].2)) := fun i hi => by
  obtain ⟨b, o, e, d0, d1⟩ := h4 i hi
  subst e
  exact ⟨b, o, rfl, (hvb b rfl (by omega)).1, (hvb b rfl (by omega)).2, d0, d1⟩
 have HJ : Hid (∀ s A B, J s A → A.grownBy B none → J s B) := fun s A B hs hg => hJ s A B none hs hg (fun r e => by cases e)
 have HY : Hid _ := hY
 have HP : Hid (∀ x ∈ ps, x.1 < 1048576) := hps
 clear h4 hvb hJ hY hps
 refine callsIn_of_wp Tryz.func88 rfl h74 ?_ hro
 simp only [Tryz.ntmps88, List.size_toArray, List.length_cons, List.length_nil, Nat.reduceAdd, Nat.reduceSub, Array.replicate_succ, Array.replicate_zero, List.push_toArray, List.append_toArray, List.nil_append, List.cons_append]
 gi_wp2
 gi_loopw [8] (fun i wr => ∃ k : Nat, k ≤ ps.length ∧ i = .int .i64 (k : Int) ∧ J (ksM ps k) wr ∧ But n₀ wb W wr)
  (fun i _ => ps.length - (intOf i).toNat)
 case atStart => exact ⟨0, Nat.zero_le _, rfl, h0, But.refl _ _ _⟩
 case round =>
  obtain ⟨k, hk, rfl, hJs, hbr⟩ := hrel
  have hcB := hbr.cell (p := ⟨Bn, 0, none⟩) hB1 hB2 hBn
  by_cases hlt : k < ps.length
  ·obtain ⟨b, o, rfl, g1, g2, D0, D1⟩ := HX.out k hlt
   have d0 := hbr.cell (p := ⟨b, o + k * 2, none⟩) g1 g2 D0
   have d1 := hbr.cell (p := ⟨b, o + k * 2 + 1, none⟩) g1 g2 D1
   have hpl := HP.out _ (List.getElem_mem hlt)
   have HG : Hid ((ps.getD k (0, 0)).1 = ps[k].1) := by show _ = _; rw [getD_at hlt]
   obtain ⟨p, hp⟩ : ∃ p, p = ps[k].1 := ⟨_, rfl⟩
   rw [← hp] at d0 hpl HG
   generalize ps[k].2 = r at d1
   obtain ⟨q, hq⟩ : ∃ q, q = p / 4 := ⟨_, rfl⟩
   have y1 : IntKind.u32.wrap ((p : Int) / 4) = (q : Int) := by rw [IntKind.wrap_u32]; omega
   have y1' : (p : Int) / 4 = (q : Int) := by omega
   have HQ : Hid ((ps.getD k (0, 0)).1 / 4 = q ∧ q < 262144) := ⟨by rw [HG.out, hq], by omega⟩
   have hql := HQ.out.2
   obtain ⟨W2, hW2, hb2, hs2, m0, m1, _, _⟩ := box2 wr (.int .u32 (p : Int)) (.int .i64 r) 53
   have hg2 : wr.grownBy W2 none := by rw [← hW2]; exact World.grownBy_alloc _ _ _
   have hJ2 := HJ.out _ _ _ hJs hg2
   have hbr2 : But n₀ wb W W2 := hbr.row hg2 (Nat.le_trans hn₀ hbr.size) (fun r e => by cases e)
   have hcB2 := keep_cell hb2 hcB
   clear hp hq hpl HG
   cases k with
   | zero =>
    have HK : Hid (ksM ps (0 + 1) = ksM ps 0 ++ [toK q]) := by show ksM ps 0 ++ (if 0 < 0 ∧ (ps.getD (0 - 1) (0, 0)).1 / 4 = (ps.getD 0 (0, 0)).1 / 4 then [] else [toK ((ps.getD 0 (0, 0)).1 / 4)]) = _; rw [if_neg (fun h => absurd h.1 (Nat.lt_irrefl 0)), HQ.out.1]
    simp only [Nat.zero_mul, Nat.add_zero] at d0 d1
    clear HX HP
    obtain ⟨fn, tmps, assign, body, hy, hR⟩ := HY.out _ (toK q) W2 hJ2 (by have := ksM_len ps 0; omega)
    rw [encK, toK_val hql] at hy
    clear HY
    gi_wp2
    refine hR.mono ?_
    rintro e W3 (⟨rfl, hJ3, hk3⟩ | ⟨rfl, hJx3⟩)
    ·have HJ3 : Hid (J (ksM ps (0 + 1)) W3 ∧ But n₀ wb W W3) := ⟨by rw [HK.out]; exact hJ3, hbr2.trans hk3⟩
     clear hJ3 hk3 hR
     gi_wp2
     go_roundw
     case rel => exact ⟨0 + 1, hlt, by go_num, HJ3.out.1, HJ3.out.2⟩
     case measure => simp [intOf]; omega
    ·have HX3 : Hid (ksM ps 0 ++ [toK q] <+: ksM ps ps.length ∧ Jx (ksM ps 0 ++ [toK q]) W3) := ⟨by rw [← HK.out]; have := ksM_pre ps (0 + 1) (ps.length - (0 + 1)); rwa [Nat.add_sub_cancel' hlt] at this, hJx3⟩
     clear hJx3 hR
     gi_wp2
     refine bodyPost_ret (results_none rfl _ _ _) rfl ?_
     exact ⟨⟨_, rfl⟩, .inr ⟨_, HX3.out.1, HX3.out.2⟩⟩
   | succ j =>
    obtain ⟨b', o', eb, _, _, E0, E1⟩ := HX.out j (by omega)
    simp only [Option.some.injEq, Addr.mk.injEq, and_true] at eb
    obtain ⟨rfl, rfl⟩ := eb
    have e0 := keep_cell hb2 (hbr.cell (p := ⟨b, o + j * 2, none⟩) g1 g2 E0)
    have hpl2 := HP.out _ (List.getElem_mem (show j < ps.length by omega))
    have HG2 : Hid ((ps.getD j (0, 0)).1 = ps[j].1) := by show _ = _; rw [getD_at (by omega)]
    obtain ⟨p2, hp2⟩ : ∃ p, p = ps[j].1 := ⟨_, rfl⟩
    rw [← hp2] at e0 hpl2 HG2
    obtain ⟨q2, hq2⟩ : ∃ q, q = p2 / 4 := ⟨_, rfl⟩
    have z1 : IntKind.u32.wrap ((p2 : Int) / 4) = (q2 : Int) := by rw [IntKind.wrap_u32]; omega
    have z1' : (p2 : Int) / 4 = (q2 : Int) := by omega
    have z2 : ((j : Int) + 1 - 1) = (j : Int) := by omega
    have z10 : (q2 : Int) % 4294967296 = (q2 : Int) := by omega
    have z3 : IntKind.i64.wrap ((j : Int) + 1 - 1) = (j : Int) := by rw [IntKind.wrap_i64]; omega
    have z4 : (0 : Int) < (j : Int) + 1 := by omega
    have z5 : (j : Int) < (ps.length : Int) := by omega
    have z6 : j < ps.length := by omega
    have HQ2 : Hid ((ps.getD j (0, 0)).1 / 4 = q2) := by show _ = _; rw [HG2.out, hq2]
    clear hp2 hq2 hpl2 HG2 E0 E1 HX HP
    by_cases hqq : q2 = q
    ·have HK : Hid (ksM ps (j + 1 + 1) = ksM ps (j + 1)) := by show _ = _; rw [ksM, if_pos ⟨by omega, by rw [Nat.add_sub_cancel, HQ2.out, HQ.out.1, hqq]⟩, List.append_nil]
     have HJ3 : Hid (J (ksM ps (j + 1 + 1)) W2 ∧ But n₀ wb W W2) := ⟨by rw [HK.out]; exact hJ2, hbr2⟩
     have z7 : ((q2 : Int) == (q : Int)) = true := by simp; omega
     subst hqq
     clear HY
     gi_wp2
     go_roundw
     case rel => exact ⟨j + 1 + 1, hlt, by go_num, HJ3.out.1, HJ3.out.2⟩
     case measure => simp [intOf]; omega
    ·have HK : Hid (ksM ps (j + 1 + 1) = ksM ps (j + 1) ++ [toK q]) := by show _ = _; rw [ksM, if_neg (by rintro ⟨_, h⟩; rw [Nat.add_sub_cancel, HQ2.out, HQ.out.1] at h; exact hqq h), HQ.out.1]
     have z7 : ((q2 : Int) == (q : Int)) = false := by simp; omega
     have z8 : ¬ (q2 : Int) = (q : Int) := by omega
     have z9 : decide ((q2 : Int) = (q : Int)) = false := decide_eq_false z8
     obtain ⟨fn, tmps, assign, body, hy, hR⟩ := HY.out _ (toK q) W2 hJ2 (by have := ksM_len ps (j + 1); omega)
     rw [encK, toK_val hql] at hy
     clear HY
     gi_wp2
     refine hR.mono ?_
     rintro e W3 (⟨rfl, hJ3, hk3⟩ | ⟨rfl, hJx3⟩)
     ·have HJ3 : Hid (J (ksM ps ((j + 1) + 1)) W3 ∧ But n₀ wb W W3) := ⟨by rw [HK.out]; exact hJ3, hbr2.trans hk3⟩
      clear hJ3 hk3 hR
      gi_wp2
      go_roundw
      case rel => exact ⟨(j + 1) + 1, hlt, by go_num, HJ3.out.1, HJ3.out.2⟩
      case measure => simp [intOf]; omega
     ·have HX3 : Hid (ksM ps (j + 1) ++ [toK q] <+: ksM ps ps.length ∧ Jx (ksM ps (j + 1) ++ [toK q]) W3) := ⟨by rw [← HK.out]; have := ksM_pre ps ((j + 1) + 1) (ps.length - ((j + 1) + 1)); rwa [Nat.add_sub_cancel' hlt] at this, hJx3⟩
      clear hJx3 hR
      gi_wp2
      refine bodyPost_ret (results_none rfl _ _ _) rfl ?_
      exact ⟨⟨_, rfl⟩, .inr ⟨_, HX3.out.1, HX3.out.2⟩⟩
  ·obtain rfl : k = ps.length := by omega
   gi_wp2
   go_end0
   exact ⟨⟨_, rfl⟩, .inl ⟨_, rfl, hJs⟩⟩
end Go.Proofs.YtkpmkgkfpikpfaaGreat
namespace Go.Proofs.YtkpmkgkfpikpfaaGreat
open Go.RowKit
set_option linter.unusedVariables false
set_option maxRecDepth 100000
def stepB (ps : List (Nat × Int)) (bs : Nat) (ms : List (Nat × Int)) (k : K4) : List (Nat × Int) := if usedN ps k.val then ms else lo ms (hp bs k.val) ++ added (hp bs k.val) 3 1 ++ hi ms (hp bs k.val + 1 - 1)
def msF (ps : List (Nat × Int)) (bs : Nat) (ms : List (Nat × Int)) (pre : List K4) : List (Nat × Int) := pre.foldl (stepB ps bs) ms
theorem msF_snoc (ps : List (Nat × Int)) (bs : Nat) (ms : List (Nat × Int)) (pre : List K4) (k : K4) : msF ps bs ms (pre ++ [k]) = stepB ps bs (msF ps bs ms pre) k := by simp [msF]
def MsI (ps : List (Nat × Int)) (bs : Nat) (ms cs : List (Nat × Int)) (pre : List K4) : Prop := FitQ (msF ps bs ms pre) cs ∧ ∀ x ∈ msF ps bs ms pre, x ∈ ms ∨ ∃ k ∈ pre, usedN ps k.val = false ∧ x.1 = hp bs k.val
theorem msI_nil {ps : List (Nat × Int)} {bs : Nat} {ms cs : List (Nat × Int)} (h : FitQ ms cs) : MsI ps bs ms cs [] := ⟨h, fun x hx => Or.inl hx⟩
theorem hp_ok {bs : Nat} (hb : bs ≤ 4611686018427387904) (k : K4) : pagesOk (hp bs k.val) 1 = true := by
 have := k.isLt
 simp [pagesOk, hp]
 omega
theorem msI_used {ps : List (Nat × Int)} {bs : Nat} {ms cs : List (Nat × Int)} {pre : List K4} {k : K4} (h : MsI ps bs ms cs pre) (hu : usedN ps k.val = true) : MsI ps bs ms cs (pre ++ [k]) ∧ msF ps bs ms (pre ++ [k]) = msF ps bs ms pre := by
 have e : msF ps bs ms (pre ++ [k]) = msF ps bs ms pre := by rw [msF_snoc, stepB, if_pos hu]
 refine ⟨⟨by rw [e]; exact h.1, fun x hx => ?_⟩, e⟩
 rw [e] at hx
 rcases h.2 x hx with g | ⟨k', hk', g⟩
 ·exact Or.inl g
 ·exact Or.inr ⟨k', List.mem_append_left _ hk', g⟩
theorem msI_new {ps : List (Nat × Int)} {bs : Nat} {ms cs : List (Nat × Int)} {pre : List K4} {k : K4} (hb : bs ≤ 4611686018427387904) (h : MsI ps bs ms cs pre) (hu : usedN ps k.val = false) (hmid : mid (msF ps bs ms pre) (hp bs k.val) (hp bs k.val + 1 - 1) = []) (hroom : (msF ps bs ms pre).length + 1 ≤ 64) :
  MsI ps bs ms cs (pre ++ [k]) ∧ msF ps bs ms (pre ++ [k]) = lo (msF ps bs ms pre) (hp bs k.val) ++ added (hp bs k.val) 3 1 ++ hi (msF ps bs ms pre) (hp bs k.val + 1 - 1) := by
 have e : msF ps bs ms (pre ++ [k]) = lo (msF ps bs ms pre) (hp bs k.val) ++ added (hp bs k.val) 3 1 ++ hi (msF ps bs ms pre) (hp bs k.val + 1 - 1) := by rw [msF_snoc, stepB, if_neg (by rw [hu]; simp)]
 refine ⟨⟨by rw [e]; exact fit_map h.1 _ 1 3 (hp_ok hb k) (by decide) hmid hroom, fun x hx => ?_⟩, e⟩
 rw [e] at hx
 rcases List.mem_append.1 hx with g | g
 ·rcases List.mem_append.1 g with g | g
  ·rcases h.2 x (lo_mem.1 g).1 with g | ⟨k', hk', g⟩
   ·exact Or.inl g
   ·exact Or.inr ⟨k', List.mem_append_left _ hk', g⟩
  ·obtain ⟨i, hi, rfl⟩ := added_mem.1 g
   obtain rfl : i = 0 := by omega
   exact Or.inr ⟨k, by simp, hu, by simp⟩
 ·rcases h.2 x (hi_mem.1 g).1 with g | ⟨k', hk', g⟩
  ·exact Or.inl g
  ·exact Or.inr ⟨k', List.mem_append_left _ hk', g⟩
theorem stepB_len {ps : List (Nat × Int)} {bs : Nat} {ms : List (Nat × Int)} (k : K4) (hmid : usedN ps k.val = false → mid ms (hp bs k.val) (hp bs k.val + 1 - 1) = []) (hs : Srt ms) : ms.length ≤ (stepB ps bs ms k).length ∧ (usedN ps k.val = false → (stepB ps bs ms k).length = ms.length + 1) := by
 unfold stepB
 cases hu : usedN ps k.val with
 | true => simp
 | false =>
  have hm := hmid hu
  have l := parts_len ms hs (hp bs k.val) (hp bs k.val + 1 - 1) (by omega)
  rw [hm] at l
  simp only [List.length_nil, Nat.add_zero] at l
  simp only [Bool.false_eq_true, if_false, List.length_append, added_len]
  omega
def Reach (ps : List (Nat × Int)) (bs : Nat) (ms : List (Nat × Int)) : Prop := ∀ x ∈ ms, bs / 16384 ≤ x.1 → x.1 < bs / 16384 + 262144 → usedN ps (x.1 - bs / 16384) = true
theorem msI_free {ps : List (Nat × Int)} {bs : Nat} {ms cs : List (Nat × Int)} {pre : List K4} {k : K4} (hr : Reach ps bs ms) (h : MsI ps bs ms cs pre) (hu : usedN ps k.val = false) (hk : k ∉ pre) : mid (msF ps bs ms pre) (hp bs k.val) (hp bs k.val + 1 - 1) = [] := by
 refine mid_nil (fun x hx => ?_)
 by_cases e : x.1 = hp bs k.val
 ·exfalso
  rcases h.2 x hx with g | ⟨k', hk', _, g⟩
  ·have := hr x g (by rw [e, hp]; omega) (by rw [e, hp]; have := k.isLt; omega)
   rw [e, hp, Nat.add_sub_cancel_left, hu] at this
   cases this
  ·have : k' = k := Fin.ext (by rw [e] at g; unfold hp at g; omega)
   rw [this] at hk'
   exact hk hk'
 ·omega
theorem msF_app (ps : List (Nat × Int)) (bs : Nat) (ms : List (Nat × Int)) (a b : List K4) : msF ps bs ms (a ++ b) = msF ps bs (msF ps bs ms a) b := by simp [msF]
theorem ksM_rise {ps : List (Nat × Int)} (hs : Srt ps) (hb : ∀ x ∈ ps, x.1 < 1048576) : ∀ m, m ≤ ps.length → (ksM ps m).Pairwise (fun a b => a.val < b.val) ∧ (∀ k ∈ ksM ps m, ∃ j, j < m ∧ k.val = (ps.getD j (0, 0)).1 / 4)
 | 0, _ => by simp [ksM]
 | m + 1, hm => by
  obtain ⟨h1, h2⟩ := ksM_rise hs hb m (by omega)
  have hbm := hb _ (List.getElem_mem (show m < ps.length by omega))
  rw [← getD_at (show m < ps.length by omega)] at hbm
  have hmono : ∀ j, j < m → (ps.getD j (0, 0)).1 < (ps.getD m (0, 0)).1 := fun j hj => by
   rw [getD_at (show j < ps.length by omega), getD_at (show m < ps.length by omega)]
   exact List.pairwise_iff_getElem.1 hs j m (by omega) (by omega) hj
  have hv : (toK ((ps.getD m (0, 0)).1 / 4)).val = (ps.getD m (0, 0)).1 / 4 := toK_val (by omega)
  rw [ksM]
  split
  ·rw [List.append_nil]
   exact ⟨h1, fun k hk => by obtain ⟨j, hj, e⟩ := h2 k hk; exact ⟨j, by omega, e⟩⟩
  ·rename_i hne
   refine ⟨List.pairwise_append.2 ⟨h1, List.pairwise_singleton _ _, fun a ha b hb' => ?_⟩, fun k hk => ?_⟩
   ·obtain rfl := List.mem_singleton.1 hb'
    obtain ⟨j, hj, e⟩ := h2 a ha
    rw [hv, e]
    have q1 := hmono j hj
    have q2 : (ps.getD j (0, 0)).1 ≤ (ps.getD (m - 1) (0, 0)).1 := by
     by_cases e2 : j = m - 1
     ·rw [e2]; exact Nat.le_refl _
     ·rw [getD_at (show j < ps.length by omega), getD_at (show m - 1 < ps.length by omega)]
      exact Nat.le_of_lt (List.pairwise_iff_getElem.1 hs j (m - 1) (by omega) (by omega) (by omega))
    have q3 := hmono (m - 1) (by omega)
    have q4 : (ps.getD (m - 1) (0, 0)).1 / 4 ≠ (ps.getD m (0, 0)).1 / 4 := fun e3 => hne ⟨by omega, e3⟩
    omega
   ·rcases List.mem_append.1 hk with g | g
    ·obtain ⟨j, hj, e⟩ := h2 k g
     exact ⟨j, by omega, e⟩
    ·obtain rfl := List.mem_singleton.1 g
     exact ⟨m, by omega, hv⟩
theorem ksM_nodup {ps : List (Nat × Int)} (hs : Srt ps) (hb : ∀ x ∈ ps, x.1 < 1048576) {init : List K4} {k : K4} (h : init ++ [k] <+: ksM ps ps.length) : k ∉ init := by
 have h1 := (ksM_rise hs hb ps.length (Nat.le_refl _)).1
 obtain ⟨t, ht⟩ := h
 rw [← ht] at h1
 have h2 := (List.pairwise_append.1 h1).1
 intro hk
 have := (List.pairwise_append.1 h2).2.2 k hk k (by simp)
 omega
theorem srt_le {xs : List (Nat × Int)} (h : Srt xs) (a : Nat) : ∀ n, (∀ x ∈ xs, a ≤ x.1 ∧ x.1 < a + n) → xs.length ≤ n := by
 induction xs generalizing a with
 | nil => intro n _; simp
 | cons x xs ih =>
  intro n hx
  obtain ⟨h1, h2⟩ := List.pairwise_cons.1 h
  have g := hx x (by simp)
  have k := ih h2 (x.1 + 1) (a + n - (x.1 + 1)) (fun y hy => by
   have := h1 y hy
   have := hx y (List.mem_cons_of_mem _ hy)
   omega)
  simp
  omega
theorem stepB_mono {ps : List (Nat × Int)} {bs : Nat} {ms : List (Nat × Int)} (k : K4) (hs : Srt ms) : Srt (stepB ps bs ms k) ∧ ms.length ≤ (stepB ps bs ms k).length := by
 unfold stepB
 split
 ·exact ⟨hs, Nat.le_refl _⟩
 ·refine ⟨srt_join (srt_join (lo_srt hs _) (added_srt _ _ _) ?_) (hi_srt hs _) ?_, ?_⟩
  ·intro a ha b hb
   have := (lo_mem.1 ha).2
   obtain ⟨i, hi, rfl⟩ := added_mem.1 hb
   simp; omega
  ·intro a ha b hb
   have hb := (hi_mem.1 hb).2
   rcases List.mem_append.1 ha with g | g
   ·have := (lo_mem.1 g).2; omega
   ·obtain ⟨i, hi, rfl⟩ := added_mem.1 g
    simp; omega
  ·have l := parts_len ms hs (hp bs k.val) (hp bs k.val + 1 - 1) (by omega)
   have m := srt_le (mid_srt hs (hp bs k.val) (hp bs k.val + 1 - 1)) (hp bs k.val) 1 (fun x hx => by have := mid_mem.1 hx; omega)
   rw [List.length_append, List.length_append, added_len]
   omega
theorem msF_mono {ps : List (Nat × Int)} {bs : Nat} : ∀ (l : List K4) (ms : List (Nat × Int)), Srt ms → ms.length ≤ (msF ps bs ms l).length
 | [], ms, _ => Nat.le_refl _
 | k :: l, ms, hs => Nat.le_trans (stepB_mono k hs).2 (msF_mono l _ (stepB_mono k hs).1)
theorem added_bound {first n : Nat} {prot : Int} (h : first + n ≤ 1048576) : ∀ x ∈ added first prot n, x.1 < 1048576 := fun x hx => by
 obtain ⟨i, hi, rfl⟩ := added_mem.1 hx
 simp; omega
open Go.RowKit Go.Shelf
theorem own_row {w w' : World} {B e n : Nat} {v : Value} {xs : List Value} {row : Option Nat} (h : w.ownsRow B e 2 v n xs) (hg : w.grownBy w' row) (hr : ∀ r, row = some r → ∃ o : Obj, w.heap[r]? = some o ∧ o.isCells = false) : w'.ownsRow B e 2 v n xs := by
 refine h.kept hg ?_
 cases hv : v.ownBlock with
 | none => exact Or.inl rfl
 | some g =>
  refine Or.inr (fun e' => ?_)
  obtain ⟨c, fz, hk⟩ := Go.Lib.ownsRow_kind h g hv
  obtain ⟨o, ho, hc⟩ := hr g e'.symm
  rw [hk] at ho
  cases ho
  cases hc
theorem Wk.row {B b bs : Nat} {w w' : World} {ms cs ps : List (Nat × Int)} {row : Option Nat} (h : Wk B w b ms cs ps bs) (hg : w.grownBy w' row) (hr : ∀ r, row = some r → ∃ o : Obj, w.heap[r]? = some o ∧ o.isCells = false) : Wk B w' b ms cs ps bs := by
 obtain ⟨vm, vc, vp, h1, h2, h3⟩ := h
 refine ⟨vm, vc, vp, (hg.block b h1.lt (fun e => ?_)).trans h1, ⟨⟨own_row h2.1.1 hg hr, own_row h2.1.2 hg hr⟩, own_row h2.2 hg hr⟩, Nat.le_trans h3 hg.size⟩
 obtain ⟨o, ho, hc⟩ := hr b e.symm
 rw [show w.heap[b]? = _ from h1] at ho
 cases ho
 cases hc
theorem grown_row {w A C : World} {wb : Nat} {row : Option Nat} (h : w.grownBy A (some wb)) (hg : A.grownBy C row) (hr : ∀ r, row = some r → w.heap.size ≤ r) : w.grownBy C (some wb) :=
 ⟨hg.os.trans h.os, hg.tape.trans h.tape, hg.output.trans h.output, Nat.le_trans h.size hg.size, fun i hi hne => (hg.block i (Nat.lt_of_lt_of_le hi h.size) (fun e => by have := hr i e.symm; omega)).trans (h.block i hi hne)⟩
theorem grown_but {w A C : World} {wb n₀ : Nat} (h : w.grownBy A (some wb)) (hb : But n₀ wb A C) (hn : w.heap.size ≤ n₀) : w.grownBy C (some wb) :=
 ⟨hb.os.trans h.os, hb.tape.trans h.tape, hb.output.trans h.output, Nat.le_trans h.size hb.size, fun i hi hne => (hb.block i (by omega) (fun e => hne (by rw [e]))).trans (h.block i hi hne)⟩
theorem Wk.cells {B b bs : Nat} {w : World} {ms cs ps : List (Nat × Int)} (h : Wk B w b ms cs ps bs) : ∀ (j : Nat) (o : Obj), some b = some j → w.heap[j]? = some o → o.isCells = true := by
 obtain ⟨vm, vc, vp, h1, h2, h3⟩ := h
 intro j o e ho
 cases e
 rw [show w.heap[b]? = _ from h1] at ho
 cases ho
 rfl
theorem Wk.lt {B b bs : Nat} {w : World} {ms cs ps : List (Nat × Int)} (h : Wk B w b ms cs ps bs) : b < w.heap.size := by
 obtain ⟨vm, vc, vp, h1, h2, h3⟩ := h
 exact h1.lt
theorem wk_pages {B wb bs : Nat} {w5 w6 : World} {vm vc vp v6 : Value} {ms cs ps zp : List (Nat × Int)} (h1 : Wb w5 wb vm vc (.int .u64 (bs : Int)) vp) (h2 : OwnG B w5 vm vc vp ms cs ps) (h3 : B ≤ w5.heap.size) (hb : Below w5.heap.size w5 w6) (ho : w6.ownsRow w5.heap.size 53 2 v6 zp.length (Pg.rowOf .i64 zp)) :
  Wk B (w6.setCell ⟨wb, 3, none⟩ v6) wb ms cs zp bs ∧ w5.grownBy (w6.setCell ⟨wb, 3, none⟩ v6) (some wb) := by
 have k1 := h1.keep hb
 have g : OwnG B w6 vm vc v6 ms cs zp := ⟨h2.1.keep hb, own_base ho h3⟩
 refine ⟨⟨vm, vc, v6, k1.set3 v6, g.wb k1 v6, ?_⟩, Go.Lib.grownBy_setB (Go.Lib.grownBy_below (World.grownBy.refl w5 (some wb)) hb) 3 v6⟩
 have := hb.size
 simp [World.setCell]
 omega
theorem Wk.box {B wb bs rb t : Nat} {w : World} {v u : Value} {ms cs ps : List (Nat × Int)} (h : Wk B w wb ms cs ps bs) (hr : Boxed w rb t v) (ht : t ≠ 88 ∧ t ≠ 77 ∧ t ≠ 82 ∧ t ≠ 53) : Wk B (w.setCell ⟨rb, 0, none⟩ u) wb ms cs ps bs := by
 obtain ⟨vm, vc, vp, h1, h2, h3⟩ := h
 have hne : wb ≠ rb := fun e => by
  subst e
  have a := h1
  rw [Wb, show w.heap[wb]? = _ from hr] at a
  simp at a
 have o : ∀ {e n : Nat} {y : Value} {xs : List Value}, t ≠ e → w.ownsRow B e 2 y n xs → (w.setCell ⟨rb, 0, none⟩ u).ownsRow B e 2 y n xs := fun ht' ho => ownsRow_setCell_other ho (fun e' => hr.not_row ht' ho e'.symm) u
 exact ⟨vm, vc, vp, (Below.heap_setCell w ⟨rb, 0, none⟩ u wb hne).trans h1, ⟨⟨o ht.2.1 h2.1.1, o ht.2.2.1 h2.1.2⟩, o ht.2.2.2 h2.2⟩, by simpa [World.setCell] using h3⟩
theorem Wk.taken {B wb bs D : Nat} {w : World} {ms cs ps : List (Nat × Int)} (h : Wk B w wb ms cs ps bs) (hD : w.heap[D]? = some (.deferred (some []))) : Wk B (w.putObj D (.deferred none)) wb ms cs ps bs :=
 h.row (grownBy_putObj' w D _) (fun r e => by cases e; exact ⟨_, hD, rfl⟩)
theorem heap_setCell_ne {w : World} {b i D : Nat} {u : Value} {o : Obj} (h : w.heap[D]? = some o) (hn : D ≠ b) : (w.setCell ⟨b, i, none⟩ u).heap[D]? = some o := (Below.heap_setCell w ⟨b, i, none⟩ u D hn).trans h
theorem not_cells {w : World} {b D : Nat} {c : Array Value} {t : Nat} {fz : Nat × Nat} (h : w.heap[b]? = some (.cells c t fz)) (hD : w.heap[D]? = some (.deferred (some []))) : D ≠ b := fun e => by
 subst e
 rw [h] at hD
 cases hD
theorem cell_taken {w : World} {rb D t : Nat} {v : Value} (h : Boxed w rb t v) (hD : w.heap[D]? = some (.deferred (some []))) : (w.putObj D (.deferred none)).cell? ⟨rb, 0, none⟩ = some v :=
 (h.kept (grownBy_putObj' w D _) (fun e => by cases e; exact not_cells h hD rfl)).cell
end Go.Proofs.YtkpmkgkfpikpfaaGreat
