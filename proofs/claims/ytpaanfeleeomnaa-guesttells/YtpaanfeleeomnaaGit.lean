/- What is proved here: the iterator over the host's pages in which pages of the guest are. -/
import Derived.RangeFuncNested
import Derived.RangeFuncBound
import Derived.RangeFuncCalls
import Derived.RangeFuncLeaves
import Derived.Shelf.Abstract
import Derived.Shelf.RegionOpen
import Derived.WalkKit
import Derived.OwnWalkIn
import Derived.TacticsInMore
import Derived.LoopNIn
import Derived.LoopIn
import Derived.Test.YtpaanfeleeomnaaGb
namespace Go.Proofs.Ytpaanfeleeomnaa
open Go.RowKit Go.Shelf
set_option linter.unusedVariables false
set_option maxRecDepth 100000
attribute [local go_sem] Oper.semAt_some
/-- Below n₀ the world is as it was, but for the worker's block. -/
structure But (n₀ wb : Nat) (w w' : World) : Prop where
  os : w'.os = w.os
  tape : w'.tape = w.tape
  output : w'.output = w.output
  size : w.heap.size ≤ w'.heap.size
  block : ∀ k, k < n₀ → k ≠ wb → w'.heap[k]? = w.heap[k]?
theorem But.refl (n₀ wb : Nat) (w : World) : But n₀ wb w w := ⟨rfl, rfl, rfl, Nat.le_refl _, fun _ _ _ => rfl⟩
theorem But.trans {n₀ wb : Nat} {a b c : World} (h : But n₀ wb a b) (k : But n₀ wb b c) : But n₀ wb a c :=
  ⟨k.os.trans h.os, k.tape.trans h.tape, k.output.trans h.output, Nat.le_trans h.size k.size, fun i hi hn => (k.block i hi hn).trans (h.block i hi hn)⟩
theorem But.grown {n₀ wb : Nat} {w w' : World} (h : w.grownBy w' (some wb)) (hn : n₀ ≤ w.heap.size) : But n₀ wb w w' :=
  ⟨h.os, h.tape, h.output, h.size, fun k hk hne => h.block k (by omega) (fun e => hne (by cases e; rfl))⟩
theorem But.row {n₀ wb : Nat} {a w w' : World} {row : Option Nat} (h : But n₀ wb a w) (hg : w.grownBy w' row) (hn : n₀ ≤ w.heap.size) (hr : ∀ r, row = some r → n₀ ≤ r) : But n₀ wb a w' :=
  h.trans ⟨hg.os, hg.tape, hg.output, hg.size, fun k hk _ => hg.block k (by omega) (fun e => by have := hr k e.symm; omega)⟩
theorem But.cell {n₀ wb : Nat} {w w' : World} (h : But n₀ wb w w') {p : Addr} {v : Value} (h1 : p.block < n₀) (h2 : p.block ≠ wb) (hc : w.cell? p = some v) : w'.cell? p = some v :=
  (World.cell?_of_block (w := w) (h.block p.block h1 h2)).trans hc
theorem butK_b {n₀ wb : Nat} {w : World} (hn : n₀ ≤ w.heap.size) (W : World) (l : Nat) (o o' : Obj) (hl : w.heap.size ≤ l) (h : W.heap[l]? = some o) (_ : o.isCells = false) (_ : o.isWalk = false) : But n₀ wb W (W.putObj l o') :=
  (But.refl n₀ wb W).row (grownBy_putObj' W l o') (by have := (Array.getElem?_eq_some_iff.1 h).1; omega) (fun k e => by cases e; omega)
/-- A page of the host, by its number from Base on. -/
abbrev K4 := Fin 262144
def encK (x : K4) : Array Value := #[.int .u32 (x.val : Int)]
def toK (n : Nat) : K4 := ⟨n % 262144, Nat.mod_lt _ (by decide)⟩
theorem toK_val {n : Nat} (h : n < 262144) : (toK n).val = n := Nat.mod_eq_of_lt h
/-- What has been handed out of a list's first m pages. -/
def ksM (ps : List (Nat × Int)) : Nat → List K4
  | 0 => []
  | m + 1 => ksM ps m ++ (if 0 < m ∧ (ps.getD (m - 1) (0, 0)).1 / 4 = (ps.getD m (0, 0)).1 / 4 then [] else [toK ((ps.getD m (0, 0)).1 / 4)])
theorem ksM_len (ps : List (Nat × Int)) : ∀ m, (ksM ps m).length ≤ m
  | 0 => by simp [ksM]
  | m + 1 => by
    have := ksM_len ps m
    rw [ksM, List.length_append]
    split <;> simp <;> omega
theorem ksM_pre (ps : List (Nat × Int)) (m : Nat) : ∀ d, ksM ps m <+: ksM ps (m + d)
  | 0 => List.prefix_refl _
  | d + 1 => (ksM_pre ps m d).trans (by rw [← Nat.add_assoc, ksM]; exact List.prefix_append _ _)
set_option maxHeartbeats 4000000 in
theorem hostPages1_in (F : Fence) (m : Nat) (h74 : F.fn 74) (hro : F.round = none) (hm : 1 ≤ m) (l Bn n₀ wb : Nat) (v : Value) (ps : List (Nat × Int)) (hl : ps.length ≤ 1000000) (hps : ∀ x ∈ ps, x.1 < 1048576) (J Jx : List K4 → World → Prop)
    (hY : ∀ pre x W, J pre W → pre.length < ps.length → YieldAt F (m - 1) Try.prog l (encK x) W fun e W' =>
      (e = .returned (.bool true) ∧ J (pre ++ [x]) W' ∧ But n₀ wb W W') ∨ (e = .returned (.bool false) ∧ Jx (pre ++ [x]) W'))
    (W : World) (hn₀ : n₀ ≤ W.heap.size) (hJ : AbidesFrom W.heap.size J) (hB1 : Bn < n₀) (hB2 : Bn ≠ wb) (hBn : W.cell? ⟨Bn, 0, none⟩ = some v) (hv : Pg.Sl .i64 W v ps) (hvb : ∀ g, v.ownBlock = some g → 0 < ps.length → g < n₀ ∧ g ≠ wb) (h0 : J [] W) :
    CallsIn F m Try.prog 74 #[.func (.yield l) #[] #[], .pointer (some ⟨Bn, 0, none⟩)] W fun e W' => (∃ v, e = .returned v) ∧
      ((∃ ys, ys = ksM ps ps.length ∧ J ys W') ∨ (∃ pre, pre <+: ksM ps ps.length ∧ Jx pre W')) := by
  obtain ⟨ao, cap, rfl, h1, h2, _, h4⟩ := hv
  have HX : Hid (∀ i (h : i < ps.length), ∃ b o, ao = some ⟨b, o, none⟩ ∧ b < n₀ ∧ b ≠ wb ∧ W.cell? ⟨b, o + i * 2, none⟩ = some (.int .u32 (ps[i].1 : Int)) ∧ W.cell? ⟨b, o + i * 2 + 1, none⟩ = some (.int .i64 ps[i].2)) := fun i hi => by
    obtain ⟨b, o, e, d0, d1⟩ := h4 i hi
    subst e
    exact ⟨b, o, rfl, (hvb b rfl (by omega)).1, (hvb b rfl (by omega)).2, d0, d1⟩
  have HJ : Hid (∀ s A B, J s A → A.grownBy B none → J s B) := fun s A B hs hg => hJ s A B none hs hg (fun r e => by cases e)
  have HY : Hid _ := hY
  have HP : Hid (∀ x ∈ ps, x.1 < 1048576) := hps
  clear h4 hvb hJ hY hps
  refine callsIn_of_wp Try.func74 rfl h74 ?_ hro
  simp only [Try.ntmps74, List.size_toArray, List.length_cons, List.length_nil, Nat.reduceAdd, Nat.reduceSub, Array.replicate_succ, Array.replicate_zero, List.push_toArray, List.append_toArray, List.nil_append, List.cons_append]
  gi_wp2
  gi_loopw [8] (fun i wr => ∃ k : Nat, k ≤ ps.length ∧ i = .int .i64 (k : Int) ∧ J (ksM ps k) wr ∧ But n₀ wb W wr)
    (fun i _ => ps.length - (intOf i).toNat)
  case atStart => exact ⟨0, Nat.zero_le _, rfl, h0, But.refl _ _ _⟩
  case round =>
    obtain ⟨k, hk, rfl, hJs, hbr⟩ := hrel
    have hcB := hbr.cell (p := ⟨Bn, 0, none⟩) hB1 hB2 hBn
    by_cases hlt : k < ps.length
    · obtain ⟨b, o, rfl, g1, g2, D0, D1⟩ := HX.out k hlt
      have d0 := hbr.cell (p := ⟨b, o + k * 2, none⟩) g1 g2 D0
      have d1 := hbr.cell (p := ⟨b, o + k * 2 + 1, none⟩) g1 g2 D1
      have hpl := HP.out _ (List.getElem_mem hlt)
      have HG : Hid ((ps.getD k (0, 0)).1 = ps[k].1) := by show _ = _; rw [getD_at hlt]
      obtain ⟨p, hp⟩ : ∃ p, p = ps[k].1 := ⟨_, rfl⟩
      rw [← hp] at d0 hpl HG
      generalize ps[k].2 = r at d1
      obtain ⟨q, hq⟩ : ∃ q, q = p / 4 := ⟨_, rfl⟩
      have y1 : IntKind.u32.wrap ((p : Int) / 4) = (q : Int) := by rw [IntKind.wrap_u32]; omega
      have y1' : (p : Int) / 4 = (q : Int) := by omega
      have HQ : Hid ((ps.getD k (0, 0)).1 / 4 = q ∧ q < 262144) := ⟨by rw [HG.out, hq], by omega⟩
      have hql := HQ.out.2
      obtain ⟨W2, hW2, hb2, hs2, m0, m1, _, _⟩ := box2 wr (.int .u32 (p : Int)) (.int .i64 r) 46
      have hg2 : wr.grownBy W2 none := by rw [← hW2]; exact World.grownBy_alloc _ _ _
      have hJ2 := HJ.out _ _ _ hJs hg2
      have hbr2 : But n₀ wb W W2 := hbr.row hg2 (Nat.le_trans hn₀ hbr.size) (fun r e => by cases e)
      have hcB2 := keep_cell hb2 hcB
      clear hp hq hpl HG
      cases k with
      | zero =>
        have HK : Hid (ksM ps (0 + 1) = ksM ps 0 ++ [toK q]) := by show ksM ps 0 ++ (if 0 < 0 ∧ (ps.getD (0 - 1) (0, 0)).1 / 4 = (ps.getD 0 (0, 0)).1 / 4 then [] else [toK ((ps.getD 0 (0, 0)).1 / 4)]) = _; rw [if_neg (fun h => absurd h.1 (Nat.lt_irrefl 0)), HQ.out.1]
        simp only [Nat.zero_mul, Nat.add_zero] at d0 d1
        clear HX HP
        obtain ⟨fn, tmps, assign, body, hy, hR⟩ := HY.out _ (toK q) W2 hJ2 (by have := ksM_len ps 0; omega)
        rw [encK, toK_val hql] at hy
        clear HY
        gi_wp2
        refine hR.mono ?_
        rintro e W3 (⟨rfl, hJ3, hk3⟩ | ⟨rfl, hJx3⟩)
        · have HJ3 : Hid (J (ksM ps (0 + 1)) W3 ∧ But n₀ wb W W3) := ⟨by rw [HK.out]; exact hJ3, hbr2.trans hk3⟩
          clear hJ3 hk3 hR
          gi_wp2
          go_roundw
          case rel => exact ⟨0 + 1, hlt, by go_num, HJ3.out.1, HJ3.out.2⟩
          case measure => simp [intOf]; omega
        · have HX3 : Hid (ksM ps 0 ++ [toK q] <+: ksM ps ps.length ∧ Jx (ksM ps 0 ++ [toK q]) W3) := ⟨by rw [← HK.out]; have := ksM_pre ps (0 + 1) (ps.length - (0 + 1)); rwa [Nat.add_sub_cancel' hlt] at this, hJx3⟩
          clear hJx3 hR
          gi_wp2
          refine bodyPost_ret (results_none rfl _ _ _) rfl ?_
          exact ⟨⟨_, rfl⟩, .inr ⟨_, HX3.out.1, HX3.out.2⟩⟩
      | succ j =>
        obtain ⟨b', o', eb, _, _, E0, E1⟩ := HX.out j (by omega)
        simp only [Option.some.injEq, Addr.mk.injEq, and_true] at eb
        obtain ⟨rfl, rfl⟩ := eb
        have e0 := keep_cell hb2 (hbr.cell (p := ⟨b, o + j * 2, none⟩) g1 g2 E0)
        have hpl2 := HP.out _ (List.getElem_mem (show j < ps.length by omega))
        have HG2 : Hid ((ps.getD j (0, 0)).1 = ps[j].1) := by show _ = _; rw [getD_at (by omega)]
        obtain ⟨p2, hp2⟩ : ∃ p, p = ps[j].1 := ⟨_, rfl⟩
        rw [← hp2] at e0 hpl2 HG2
        obtain ⟨q2, hq2⟩ : ∃ q, q = p2 / 4 := ⟨_, rfl⟩
        have z1 : IntKind.u32.wrap ((p2 : Int) / 4) = (q2 : Int) := by rw [IntKind.wrap_u32]; omega
        have z1' : (p2 : Int) / 4 = (q2 : Int) := by omega
        have z2 : ((j : Int) + 1 - 1) = (j : Int) := by omega
        have z10 : (q2 : Int) % 4294967296 = (q2 : Int) := by omega
        have z3 : IntKind.i64.wrap ((j : Int) + 1 - 1) = (j : Int) := by rw [IntKind.wrap_i64]; omega
        have z4 : (0 : Int) < (j : Int) + 1 := by omega
        have z5 : (j : Int) < (ps.length : Int) := by omega
        have z6 : j < ps.length := by omega
        have HQ2 : Hid ((ps.getD j (0, 0)).1 / 4 = q2) := by show _ = _; rw [HG2.out, hq2]
        clear hp2 hq2 hpl2 HG2 E0 E1 HX HP
        by_cases hqq : q2 = q
        · have HK : Hid (ksM ps (j + 1 + 1) = ksM ps (j + 1)) := by show _ = _; rw [ksM, if_pos ⟨by omega, by rw [Nat.add_sub_cancel, HQ2.out, HQ.out.1, hqq]⟩, List.append_nil]
          have HJ3 : Hid (J (ksM ps (j + 1 + 1)) W2 ∧ But n₀ wb W W2) := ⟨by rw [HK.out]; exact hJ2, hbr2⟩
          have z7 : ((q2 : Int) == (q : Int)) = true := by simp; omega
          subst hqq
          clear HY
          gi_wp2
          go_roundw
          case rel => exact ⟨j + 1 + 1, hlt, by go_num, HJ3.out.1, HJ3.out.2⟩
          case measure => simp [intOf]; omega
        · have HK : Hid (ksM ps (j + 1 + 1) = ksM ps (j + 1) ++ [toK q]) := by show _ = _; rw [ksM, if_neg (by rintro ⟨_, h⟩; rw [Nat.add_sub_cancel, HQ2.out, HQ.out.1] at h; exact hqq h), HQ.out.1]
          have z7 : ((q2 : Int) == (q : Int)) = false := by simp; omega
          have z8 : ¬ (q2 : Int) = (q : Int) := by omega
          have z9 : decide ((q2 : Int) = (q : Int)) = false := decide_eq_false z8
          obtain ⟨fn, tmps, assign, body, hy, hR⟩ := HY.out _ (toK q) W2 hJ2 (by have := ksM_len ps (j + 1); omega)
          rw [encK, toK_val hql] at hy
          clear HY
          gi_wp2
          refine hR.mono ?_
          rintro e W3 (⟨rfl, hJ3, hk3⟩ | ⟨rfl, hJx3⟩)
          · have HJ3 : Hid (J (ksM ps ((j + 1) + 1)) W3 ∧ But n₀ wb W W3) := ⟨by rw [HK.out]; exact hJ3, hbr2.trans hk3⟩
            clear hJ3 hk3 hR
            gi_wp2
            go_roundw
            case rel => exact ⟨(j + 1) + 1, hlt, by go_num, HJ3.out.1, HJ3.out.2⟩
            case measure => simp [intOf]; omega
          · have HX3 : Hid (ksM ps (j + 1) ++ [toK q] <+: ksM ps ps.length ∧ Jx (ksM ps (j + 1) ++ [toK q]) W3) := ⟨by rw [← HK.out]; have := ksM_pre ps ((j + 1) + 1) (ps.length - ((j + 1) + 1)); rwa [Nat.add_sub_cancel' hlt] at this, hJx3⟩
            clear hJx3 hR
            gi_wp2
            refine bodyPost_ret (results_none rfl _ _ _) rfl ?_
            exact ⟨⟨_, rfl⟩, .inr ⟨_, HX3.out.1, HX3.out.2⟩⟩
    · obtain rfl : k = ps.length := by omega
      gi_wp2
      go_end0
      exact ⟨⟨_, rfl⟩, .inl ⟨_, rfl, hJs⟩⟩
end Go.Proofs.Ytpaanfeleeomnaa
