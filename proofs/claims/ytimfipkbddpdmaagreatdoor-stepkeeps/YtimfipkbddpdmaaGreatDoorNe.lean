import Derived.Test.YtimfipkbddpdmaaGreatDoorRows
import Derived.Test.YtimfipkbddpdmaaGreatDoorNm
import Derived.LaidMore
import Derived.Stop.Joined
import Derived.Lib.LaidTab
set_option linter.unusedVariables false
set_option linter.unusedSimpArgs false
set_option maxRecDepth 100000
open Go Go.RowKit
namespace Go.Proofs.YtimfipkbddpdmaaGreatDoor
open Go.ChangeShapes Go.WideShapes Go.ChangeAt Go.RowKit
theorem own : ownKnob Tryz.prog.godebug = none := by kernel_rfl
theorem laidOut : laidOutB Tryz.prog = true := by kernel_rfl
theorem gTab : Tryz.prog.globalNamed "math/bits.deBruijn32tab" = some 0 := by kernel_rfl
theorem tTab : (Tryz.prog.globals[0]?).map (·.type) = some 185 := by kernel_rfl
def laid1 : List (String × DataW Unit) := [("math/bits.deBruijn32tab", Rows.laid_math_bits_deBruijn32tab)]
theorem door_met (os : Os) (args : Array Value) : laidMetH Tryz.prog laid1 ((World.doorLaid Tryz.prog 400 os).forCall (fun _ _ => 0) ⟨#[], args, []⟩).memory :=
 laidMetH_of_parts3 (fuel := 8) (laidMet_of_run' 8 (by kernel_rfl) (by kernel_rfl)) (by kernel_rfl) (by kernel_rfl)
def tabL : List Int := [0, 1, 28, 2, 29, 14, 24, 3, 30, 22, 20, 15, 25, 17, 4, 8, 31, 27, 13, 23, 21, 19, 16, 7, 26, 12, 18, 6, 11, 5, 10, 9]
theorem tab_is : laid1 = [("math/bits.deBruijn32tab", Lib.tabData .u8 tabL)] := rfl
theorem tab_of {W : World} (h : laidMetH Tryz.prog laid1 W) : Tab W := by
 rw [MakeChecks.laidMetH_plain _ _ _ (by kernel_rfl)] at h
 rw [tab_is] at h
 have h := Lib.tabIs_of_head gTab tTab Tryz.underlying185 Tryz.underlying5 (by kernel_rfl) (by kernel_rfl) h
 have hv : W.var? Tryz.prog "math/bits.deBruijn32tab" = some (tabL.map fun z => Value.int .u8 z).toArray := h
 exact ⟨World.var?_cell gTab hv 0, World.var?_cell gTab hv 27⟩
theorem u32_has {n : Int} (h : IntKind.u32.has n) : 0 <= n /\ n < 4294967296 := by
 simp [IntKind.has, IntKind.min, IntKind.max, IntKind.signed, IntKind.bits] at h
 omega
theorem u32_at {W : World} {base : Nat} {v : Value} (h : Cell.okWide Tryz.prog W .any base 22 v) : ∃ n : Nat, v = .int .u32 n /\ n < 4294967296 := by
 unfold Cell.okWide at h
 rw [Tryz.underlying22] at h
 simp only at h
 unfold Cell.ok at h
 rw [Tryz.underlying22] at h
 split at h <;> simp_all
 rename_i k k' n e
 subst e
 obtain ⟨p, q⟩ := u32_has h.2
 exact ⟨n.toNat, by omega, by omega⟩
theorem bool_at {W : World} {base : Nat} {v : Value} (h : Cell.okWide Tryz.prog W .any base 4 v) : ∃ b : Bool, v = .bool b := by
 unfold Cell.okWide at h
 rw [Tryz.underlying4] at h
 simp only at h
 unfold Cell.ok at h
 rw [Tryz.underlying4] at h
 split at h <;> simp_all
theorem types25 : Tryz.prog.cellTypes Tryz.prog.depth 25 = some (List.replicate 36 22 ++ [4, 22, 4]) := by kernel_rfl
theorem cells25 : Tryz.prog.cellsOf 25 = 39 := by kernel_rfl
theorem openCpu {W : World} {base : Nat} {v : Value} (hv : Value.okWide Tryz.prog W .any base 25 v) : ∃ c : Cp, v = .agg c.cells.toArray /\ c.Ok := by
 obtain ⟨cs, rfl, hsz, hro⟩ : ∃ cs, v = .agg cs /\ cs.size = Tryz.prog.cellsOf 25 /\ Row.okWide Tryz.prog W .any base 25 cs := by
  simpa [Value.okWide, Tryz.underlying25] using hv
 rw [cells25] at hsz
 obtain ⟨ts, hts, _, hc⟩ := hro
 rw [types25] at hts
 obtain rfl : List.replicate 36 22 ++ [4, 22, 4] = ts := Option.some.inj hts
 have hl : (List.replicate 36 22 ++ [4, 22, 4] : List Nat).length = 39 := rfl
 have hi : ∀ i (h : i < 39), ∃ u, (List.replicate 36 22 ++ [4, 22, 4] : List Nat)[i]? = some u /\ Cell.okWide Tryz.prog W .any base u (cs[i]'(by omega)) := fun i h => by
  obtain ⟨u, h1, h2⟩ := hc i (cs[i]'(by omega)) (Array.getElem?_eq_getElem (by omega))
  rw [hl, Nat.mod_eq_of_lt h] at h1
  exact ⟨u, h1, h2⟩
 have hu : ∀ i, i < 36 -> ∃ n : Nat, cs[i]? = some (.int .u32 n) /\ n < 4294967296 := fun i h => by
  obtain ⟨u, h1, h2⟩ := hi i (by omega)
  rw [List.getElem?_append_left (by simpa using h), List.getElem?_replicate, if_pos h] at h1
  obtain rfl : 22 = u := Option.some.inj h1
  obtain ⟨n, e, hn⟩ := u32_at h2
  exact ⟨n, by rw [Array.getElem?_eq_getElem (by omega), e], hn⟩
 obtain ⟨b36, e36⟩ : ∃ b : Bool, cs[36]? = some (.bool b) := by
  obtain ⟨u, h1, h2⟩ := hi 36 (by omega)
  obtain rfl : 4 = u := Option.some.inj h1
  obtain ⟨b, e⟩ := bool_at h2
  exact ⟨b, by rw [Array.getElem?_eq_getElem (by omega), e]⟩
 obtain ⟨n37, e37, l37⟩ : ∃ n : Nat, cs[37]? = some (.int .u32 n) /\ n < 4294967296 := by
  obtain ⟨u, h1, h2⟩ := hi 37 (by omega)
  obtain rfl : 22 = u := Option.some.inj h1
  obtain ⟨n, e, hn⟩ := u32_at h2
  exact ⟨n, by rw [Array.getElem?_eq_getElem (by omega), e], hn⟩
 obtain ⟨b38, e38⟩ : ∃ b : Bool, cs[38]? = some (.bool b) := by
  obtain ⟨u, h1, h2⟩ := hi 38 (by omega)
  obtain rfl : 4 = u := Option.some.inj h1
  obtain ⟨b, e⟩ := bool_at h2
  exact ⟨b, by rw [Array.getElem?_eq_getElem (by omega), e]⟩
 obtain ⟨f, hf⟩ : ∃ f : Nat -> Nat, ∀ i, i < 36 -> cs[i]? = some (.int .u32 ((f i : Nat) : Int)) /\ f i < 4294967296 := by
  refine ⟨fun i => if h : i < 36 then (hu i h).choose else 0, fun i h => ?_⟩
  simp only [dif_pos h]
  exact (hu i h).choose_spec
 refine ⟨⟨(List.range 32).map f, f 32, f 33, f 34, f 35, b36, n37, b38⟩, ?_, ⟨by simp, fun x hx => ?_, (hf 32 (by omega)).2, (hf 33 (by omega)).2, (hf 34 (by omega)).2, (hf 35 (by omega)).2, l37⟩⟩
 ·refine congrArg Value.agg (Array.ext_getElem? fun i => ?_)
  have hT : ∀ l : List Value, (l.toArray)[i]? = l[i]? := fun l => by simp
  rw [hT (Cp.cells ⟨(List.range 32).map f, f 32, f 33, f 34, f 35, b36, n37, b38⟩)]
  clear hT
  by_cases h32 : i < 32
  ·rw [(hf i (by omega)).1]
   unfold Cp.cells Cp.regs
   rw [List.getElem?_append_left (by simpa using h32)]
   simp [h32]
  ·by_cases h39 : i < 39
   ·obtain ⟨k, rfl⟩ : ∃ k, i = 32 + k := ⟨i - 32, by omega⟩
    rw [cells_tail _ (by simp)]
    unfold Cp.tail
    have hk : k = 0 \/ k = 1 \/ k = 2 \/ k = 3 \/ k = 4 \/ k = 5 \/ k = 6 := by omega
    rcases hk with rfl | rfl | rfl | rfl | rfl | rfl | rfl
    ·exact (hf 32 (by omega)).1
    ·exact (hf 33 (by omega)).1
    ·exact (hf 34 (by omega)).1
    ·exact (hf 35 (by omega)).1
    ·exact e36
    ·exact e37
    ·exact e38
   ·rw [Array.getElem?_eq_none (by omega), List.getElem?_eq_none (by rw [cells_len _ (by simp)]; omega)]
 ·obtain ⟨i, hi', rfl⟩ := List.mem_map.1 hx
  exact (hf i (by have := List.mem_range.1 hi'; omega)).2
end Go.Proofs.YtimfipkbddpdmaaGreatDoor
namespace Go.Proofs.YtimfipkbddpdmaaGreatDoor
section
variable {P : Program}
theorem eqf_step {d : Nat} {xs : Array Value} {f : Field} {fs : List Field} {a : Value} {w : World} (hp : (part f.type xs f.offset).run P w = .ok a w) (he : (Op.equalIn d f.type a a).run P w = .ok true w) (h : (Op.eqFields d xs xs fs).run P w = .ok true w) : (Op.eqFields d xs xs (f :: fs)).run P w = .ok true w := by
 unfold Op.eqFields
 split
 ·simp only [Sem.run_bind, hp, he, Result.andThen_ok, Bool.not_true, Bool.false_eq_true, if_false]
  exact h
 ·exact h
theorem eqi_self {d : Nat} {e : TypeId} {k k' : IntKind} (he : P.plainKey e = true) (hu : P.underlying e = some (.int k')) {X : Array Value} (w : World) (c : Nat) : ∀ is : List Nat, (∀ i ∈ is, ∃ n : Int, X[i * c]? = some (.int k n)) -> (Op.eqItems (d + 1) e c X X is).run P w = .ok true w
 | [], _ => by simp [Op.eqItems]
 | i :: is, h => by
  obtain ⟨n, hn⟩ := h i (by simp)
  have h1 := run_part_plain (P := P) w he hn
  have h2 := run_equalIn_int (P := P) w d e k k' n n hu
  rw [show (n == n) = true from beq_self_eq_true n] at h2
  simp only [Op.eqItems, Sem.run_bind, h1, h2, Result.andThen_ok, Bool.not_true, Bool.false_eq_true, if_false]
  exact eqi_self he hu w c is (fun j hj => h j (List.mem_cons_of_mem _ hj))
end
theorem eqa23 (X : Array Value) (d : Nat) (w : World) (h : ∀ i, i < 32 -> ∃ n : Int, X[i]? = some (.int .u32 n)) : (Op.equalIn (d + 1 + 1) 23 (.agg X) (.agg X)).run Tryz.prog w = .ok true w := by
 obtain ⟨i0, hi⟩ : ∃ i, Tryz.prog.info? 22 = some i := ⟨_, rfl⟩
 rw [run_equalIn_array w (d + 1) (e := 22) (n := 32) X X rfl hi]
 refine eqi_self (k := .u32) (by kernel_rfl) Tryz.underlying22 w _ _ (fun i h' => ?_)
 rw [show Tryz.prog.cellsOf 22 = 1 by kernel_rfl, Nat.mul_one]
 exact h i (List.mem_range.1 h')
theorem eq25i (c : Cp) (hl : c.r.length = 32) (w : World) : (Op.equalIn 10000 25 (.agg c.cells.toArray) (.agg c.cells.toArray)).run Tryz.prog w = .ok true w := by
 have hr : ∀ i, i < 32 -> c.cells[i]? = some (.int .u32 ((c.r.getD i 0 : Nat) : Int)) := fun i hi => by
  unfold Cp.cells Cp.regs
  rw [List.getElem?_append_left (by simpa [hl] using hi), List.getElem?_map, List.getElem?_eq_getElem (by omega), List.getD_eq_getElem?_getD, List.getElem?_eq_getElem (by omega)]
  rfl
 have ht : ∀ k, c.cells[32 + k]? = c.tail[k]? := cells_tail c hl
 rw [show (10000 : Nat) = 9999 + 1 from rfl, run_equalIn_agg w 9999 25 _ _ (by rfl) (by kernel_rfl)]
 have hin : ∀ (t k : Nat) (n : Int), Tryz.prog.underlying t = some (.int .u32) -> (Op.equalIn 9999 t (.int .u32 n) (.int .u32 n)).run Tryz.prog w = .ok true w := fun t k n hu => by
  have h2 := run_equalIn_int (P := Tryz.prog) w 9998 t .u32 .u32 n n hu
  rw [show (n == n) = true from beq_self_eq_true n] at h2
  exact h2
 have hbo : ∀ (t : Nat) (b : Bool), Tryz.prog.underlying t = some .bool -> (Op.equalIn 9999 t (.bool b) (.bool b)).run Tryz.prog w = .ok true w := fun t b hu => by
  have h2 := run_equalIn_bool' (P := Tryz.prog) w 9998 t b b hu
  rw [show (b == b) = true from beq_self_eq_true b] at h2
  exact h2
 have hgoal : (Op.eqFields 9999 c.cells.toArray c.cells.toArray (Tryz.prog.fieldsOf 25).toList).run Tryz.prog w = .ok true w := by
  have hx : (c.cells.toArray.extract 0 32).toList = c.regs := by
   unfold Cp.cells
   rw [Array.toList_extract]
   simp [Cp.regs, hl]
  refine eqf_step (a := .agg (c.cells.toArray.extract 0 32)) ?_ ?_ ?_
  ·have hc : Tryz.prog.cellsOf 23 = 32 := by kernel_rfl
   obtain ⟨i0, hi⟩ : ∃ i, Tryz.prog.info? 23 = some i := ⟨_, rfl⟩
   have hs := run_sizeOf (P := Tryz.prog) w hi
   rw [hc] at hs
   simp [part, isAgg, run_underlying Tryz.underlying23, hs]
  ·refine eqa23 _ 9997 w (fun i hi => ?_)
   refine ⟨((c.r.getD i 0 : Nat) : Int), ?_⟩
   have h1 : (c.cells.toArray.extract 0 32)[i]? = (c.cells.toArray.extract 0 32).toList[i]? := by simp
   rw [h1, hx]
   have h2 := hr i hi
   unfold Cp.cells at h2
   rw [List.getElem?_append_left (by unfold Cp.regs; simpa [hl] using hi)] at h2
   exact h2
  refine eqf_step (a := (.int .u32 c.hi)) (run_part_plain w (by kernel_rfl) (by rw [List.getElem?_toArray]; exact (ht 0).trans rfl)) (hin 22 0 _ Tryz.underlying22) ?_
  refine eqf_step (a := (.int .u32 c.lo)) (run_part_plain w (by kernel_rfl) (by rw [List.getElem?_toArray]; exact (ht 1).trans rfl)) (hin 22 0 _ Tryz.underlying22) ?_
  refine eqf_step (a := (.int .u32 c.pc)) (run_part_plain w (by kernel_rfl) (by rw [List.getElem?_toArray]; exact (ht 2).trans rfl)) (hin 22 0 _ Tryz.underlying22) ?_
  refine eqf_step (a := (.int .u32 c.next)) (run_part_plain w (by kernel_rfl) (by rw [List.getElem?_toArray]; exact (ht 3).trans rfl)) (hin 22 0 _ Tryz.underlying22) ?_
  refine eqf_step (a := (.bool c.slot)) (run_part_plain w (by kernel_rfl) (by rw [List.getElem?_toArray]; exact (ht 4).trans rfl)) (hbo 4 _ Tryz.underlying4) ?_
  refine eqf_step (a := (.int .u32 c.link)) (run_part_plain w (by kernel_rfl) (by rw [List.getElem?_toArray]; exact (ht 5).trans rfl)) (hin 22 0 _ Tryz.underlying22) ?_
  refine eqf_step (a := (.bool c.linked)) (run_part_plain w (by kernel_rfl) (by rw [List.getElem?_toArray]; exact (ht 6).trans rfl)) (hbo 4 _ Tryz.underlying4) ?_
  simp [Op.eqFields]
 exact hgoal
end Go.Proofs.YtimfipkbddpdmaaGreatDoor
namespace Go.Proofs.YtimfipkbddpdmaaGreatDoor
theorem fit7 (c : Cp) (w : World) (hc : c.Ok) : Calls Tryz.prog 7 #[.agg c.cells.toArray] w fun e w' => e = .returned (.bool (c.r.getD 0 0 == 0)) /\ Below w.heap.size w w' := by
 obtain ⟨W, hW⟩ : ∃ z, w.alloc (.cells c.cells.toArray 25) = z := ⟨_, rfl⟩
 have hb : Below w.heap.size w W := by rw [<- hW]; exact (Below.refl _ _).alloc (Nat.le_refl _) _
 have h0 : Cb c w.heap.size W := by rw [<- hW]; exact heap_alloc_new w _
 have l0 : 0 < c.r.length := by rw [hc.len]; decide
 have r0 := h0.reg 0 l0
 have e0 : c.r.getD 0 0 = c.r[0] := by rw [List.getD_eq_getElem?_getD, List.getElem?_eq_getElem l0]; rfl
 rw [e0]
 have HB : Hid (Below w.heap.size w W) := hb
 have hd : (((c.r[0] : Nat) : Int) == 0) = (c.r[0] == 0) := eq_cast c.r[0] 0
 generalize c.r[0] = x at r0 hd |-
 generalize c.cells.toArray = CA at hW |-
 clear hb h0 l0 e0
 cases hx : (x == 0)
 all_goals
  rw [hx] at hd
  go_enter Tryz.func7, Tryz.ntmps7
  go_wp2
  go_ret
  exact ⟨by first | rfl | (rw [<- hd]; rfl) | (simp [<- hd]), HB.out⟩
end Go.Proofs.YtimfipkbddpdmaaGreatDoor
namespace Go.Proofs.YtimfipkbddpdmaaGreatDoor.Gm
noncomputable def fewB (ms cs ps : List (Nat × Int)) (bs : Nat) : Bool := decide (ms.length <= 70 /\ cs.length <= 200 /\ ps.length <= 60) && fitGB ms cs ps bs
set_option maxHeartbeats 1000000 in
theorem few6 (vm vc vp : Value) (ms cs ps : List (Nat × Int)) (bs : Nat) (w : World) (hsl : SlG w vm vc vp ms cs ps) (hrc : ∀ y ∈ cs, y.1 < 18446744073709551616) (hbs : bs < 18446744073709551616) :
  Calls Tryz.prog 6 #[.agg #[vm, vc, .int .u64 bs, vp]] w fun e w' => e = .returned (.bool (fewB ms cs ps bs)) /\ Below w.heap.size w w' := by
 obtain ⟨W, hW, hb, hsz, c0, c1, c2, c3, _⟩ := box4 w vm vc (.int .u64 bs) vp 33
 have K25 := rfit11 vm vc vp ms cs ps bs W (hsl.keep hb) hrc hbs
 obtain ⟨am, pm, rfl, a1, a2⟩ : ∃ a p, vm = .slice a ms.length p /\ ms.length <= p /\ p <= 9223372036854775807 := by obtain ⟨a, p, h, h1, h2, _⟩ := hsl.1; exact ⟨_, _, h, h1, h2⟩
 obtain ⟨ac, pc, rfl, b1, b2⟩ : ∃ a p, vc = .slice a cs.length p /\ cs.length <= p /\ p <= 9223372036854775807 := by obtain ⟨a, p, h, h1, h2, _⟩ := hsl.2.1; exact ⟨_, _, h, h1, h2⟩
 obtain ⟨ap, pp, rfl, d1, d2⟩ : ∃ a p, vp = .slice a ps.length p /\ ps.length <= p /\ p <= 9223372036854775807 := by obtain ⟨a, p, h, h1, h2, _⟩ := hsl.2.2; exact ⟨_, _, h, h1, h2⟩
 obtain ⟨F, hF⟩ : ∃ b, b = fitGB ms cs ps bs := ⟨_, rfl⟩
 rw [<- hF] at K25
 obtain ⟨R, hR⟩ : ∃ b, b = fewB ms cs ps bs := ⟨_, rfl⟩
 rw [<- hR]
 have HR : Hid (R = (decide (ms.length <= 70 /\ cs.length <= 200 /\ ps.length <= 60) && F)) := by show _ = _; rw [hR, fewB, hF]
 generalize ms.length = nm at *
 generalize cs.length = nc at *
 generalize ps.length = np at *
 clear hsl hrc hR hF
 by_cases k1 : nm <= 70
 ·have y1 : (nm : Int) <= 70 := by omega
  by_cases k2 : nc <= 200
  ·have y2 : (nc : Int) <= 200 := by omega
   by_cases k3 : np <= 60
   ·have y3 : (np : Int) <= 60 := by omega
    have HE : Hid (R = F) := by show _ = _; rw [HR.out, decide_eq_true ⟨k1, k2, k3⟩, Bool.true_and]
    go_enter Tryz.func6, Tryz.ntmps6
    go_wp2_with fail
    refine K25.mono ?_
    rintro e w1 ⟨rfl, hb1⟩
    go_wp2
    go_ret
    exact ⟨by rw [HE.out]; rfl, below_tr hb hb1⟩
   ·have y3 : ¬ (np : Int) <= 60 := by omega
    have HE : Hid (R = false) := by show _ = _; rw [HR.out, decide_eq_false (fun c => k3 c.2.2), Bool.false_and]
    go_enter Tryz.func6, Tryz.ntmps6
    go_wp2
    go_ret
    exact ⟨by first | rfl | (rw [HE.out]; rfl), hb⟩
  ·have y2 : ¬ (nc : Int) <= 200 := by omega
   have HE : Hid (R = false) := by show _ = _; rw [HR.out, decide_eq_false (fun c => k2 c.2.1), Bool.false_and]
   go_enter Tryz.func6, Tryz.ntmps6
   go_wp2
   go_ret
   exact ⟨by first | rfl | (rw [HE.out]; rfl), hb⟩
 ·have y1 : ¬ (nm : Int) <= 70 := by omega
  have HE : Hid (R = false) := by show _ = _; rw [HR.out, decide_eq_false (fun c => k1 c.1), Bool.false_and]
  go_enter Tryz.func6, Tryz.ntmps6
  go_wp2
  go_ret
  exact ⟨by first | rfl | (rw [HE.out]; rfl), hb⟩
end Go.Proofs.YtimfipkbddpdmaaGreatDoor.Gm
namespace Go.Proofs.YtimfipkbddpdmaaGreatDoor
def Kp (c c' : Cp) : Prop := c'.r.getD 0 0 = c.r.getD 0 0 /\ c'.next = c.next
theorem Kp.rfl' (c : Cp) : Kp c c := ⟨rfl, rfl⟩
theorem Kp.tr {a b c : Cp} (h : Kp a b) (k : Kp b c) : Kp a c := ⟨k.1.trans h.1, k.2.trans h.2⟩
theorem put_kp (c : Cp) (k x : Nat) : Kp c (c.put k x) := by
 unfold Cp.put
 split
 ·exact Kp.rfl' c
 ·refine ⟨?_, rfl⟩
  show (c.r.set k x).getD 0 0 = _
  rw [List.getD_eq_getElem?_getD, List.getD_eq_getElem?_getD, List.getElem?_set_ne (by omega)]
theorem lput_kp {r : Except Ev Nat} {c c' : Cp} {k : Nat} {f : Nat -> Nat} (h : lput r c k f = .ok c') : Kp c c' := by
 cases r with
 | ok v => injection h with h; rw [<- h]; exact put_kp _ _ _
 | error e => injection h
theorem onC_kp {r : Except Ev Cp} {cs : List (Nat × Int)} {z : Cp × List (Nat × Int)} {c : Cp} (hr : ∀ c', r = .ok c' -> Kp c c') (h : onC r cs = .ok z) : Kp c z.1 := by
 cases r with
 | ok v => injection h with h; rw [<- h]; exact hr v rfl
 | error e => injection h
theorem st_kp {M : Mem} {c : Cp} {cs : List (Nat × Int)} {a n v : Nat} {x : Cp × List (Nat × Int)} (h : stR M c cs a n v = .ok x) : Kp c x.1 := by
 unfold stR at h
 split at h
 ·split at h
  ·injection h with h; rw [<- h]; exact ⟨rfl, rfl⟩
  ·injection h
 ·injection h
theorem sl_kp {M : Mem} {c : Cp} {cs : List (Nat × Int)} {a v : Nat} {x : Nat × (Cp × List (Nat × Int))} (h : slR M c cs a v = .ok x) : Kp c x.2.1 := by
 unfold slR at h
 split at h
 ·split at h
  ·cases hs : stR M c.off cs a 4 v with
   | ok y => rw [hs] at h; injection h with h; rw [<- h]; exact ⟨(st_kp hs).1, (st_kp hs).2⟩
   | error e => rw [hs] at h; injection h
  ·injection h with h; rw [<- h]; exact ⟨rfl, rfl⟩
 ·injection h
theorem mv_kp {n : List UInt8} {c c' : Cp} {rt rd imm s t : Nat} (h : mvR n c rt rd imm s t = .ok c') : Kp c c' := by
 unfold mvR at h
 cases h0 : (n == [109, 102, 104, 105]) with
 | true => rw [h0, if_pos rfl] at h; injection h with h; rw [<- h]; exact put_kp _ _ _
 | false =>
 rw [h0, if_neg (by decide)] at h
 cases h1 : (n == [109, 102, 108, 111]) with
 | true => rw [h1, if_pos rfl] at h; injection h with h; rw [<- h]; exact put_kp _ _ _
 | false =>
 rw [h1, if_neg (by decide)] at h
 cases h2 : (n == [109, 111, 118, 122] && t == 0 || n == [109, 111, 118, 110] && t != 0) with
 | true => rw [h2, if_pos rfl] at h; injection h with h; rw [<- h]; exact put_kp _ _ _
 | false =>
 rw [h2, if_neg (by decide)] at h
 cases h3 : (n == [114, 100, 104, 119, 114]) with
 | true => rw [h3, if_pos rfl] at h; injection h with h; rw [<- h]; exact put_kp _ _ _
 | false =>
 rw [h3, if_neg (by decide)] at h
 cases h4 : (n == [98, 114, 101, 97, 107]) with
 | true => rw [h4, if_pos rfl] at h; injection h
 | false => rw [h4, if_neg (by decide)] at h; injection h with h; rw [<- h]; exact Kp.rfl' c
theorem reach_kp {M : Mem} {c : Cp} {cs : List (Nat × Int)} {n : List UInt8} {rt t A : Nat} {z : Cp × List (Nat × Int)} (h : reachB M c cs n rt t A = .ok z) : Kp c z.1 := by
 have h1 : ∀ {r : Except Ev Nat} {f : Nat -> Nat}, onC (lput r c rt f) cs = .ok z -> Kp c z.1 := fun h => onC_kp (fun c' h' => lput_kp h') h
 have h2 : ∀ {a m v : Nat}, stR M c cs a m v = .ok z -> Kp c z.1 := fun h => st_kp h
 have h3 : ∀ {r : Except Ev Nat} {f : Nat -> Nat} {a m : Nat}, swR r (fun v => stR M c cs a m (f v)) = .ok z -> Kp c z.1 := fun {r f a m} h => by
  cases r with
  | ok v => exact h2 h
  | error e => injection h
 unfold reachB at h
 cases g0 : (n == [108, 98]) with
 | true => rw [g0, if_pos rfl] at h; exact h1 h
 | false =>
 rw [g0, if_neg (by decide)] at h
 cases g1 : (n == [108, 98, 117]) with
 | true => rw [g1, if_pos rfl] at h; exact h1 h
 | false =>
 rw [g1, if_neg (by decide)] at h
 cases g2 : (n == [108, 104]) with
 | true => rw [g2, if_pos rfl] at h; exact h1 h
 | false =>
 rw [g2, if_neg (by decide)] at h
 cases g3 : (n == [108, 104, 117]) with
 | true => rw [g3, if_pos rfl] at h; exact h1 h
 | false =>
 rw [g3, if_neg (by decide)] at h
 cases g4 : (n == [108, 119]) with
 | true => rw [g4, if_pos rfl] at h; exact h1 h
 | false =>
 rw [g4, if_neg (by decide)] at h
 cases g5 : (n == [108, 108]) with
 | true =>
  rw [g5, if_pos rfl] at h
  refine onC_kp (fun c' h' => ?_) h
  generalize ldR M cs A 4 = r at h'
  cases r with
  | ok v => injection h' with h'; rw [<- h']; exact ⟨(put_kp c rt v).1, (put_kp c rt v).2⟩
  | error e => injection h'
 | false =>
 rw [g5, if_neg (by decide)] at h
 cases g6 : (n == [108, 119, 108]) with
 | true => rw [g6, if_pos rfl] at h; exact h1 h
 | false =>
 rw [g6, if_neg (by decide)] at h
 cases g7 : (n == [108, 119, 114]) with
 | true => rw [g7, if_pos rfl] at h; exact h1 h
 | false =>
 rw [g7, if_neg (by decide)] at h
 cases g8 : (n == [115, 98]) with
 | true => rw [g8, if_pos rfl] at h; exact h2 h
 | false =>
 rw [g8, if_neg (by decide)] at h
 cases g9 : (n == [115, 104]) with
 | true => rw [g9, if_pos rfl] at h; exact h2 h
 | false =>
 rw [g9, if_neg (by decide)] at h
 cases g10 : (n == [115, 119]) with
 | true => rw [g10, if_pos rfl] at h; exact h2 h
 | false =>
 rw [g10, if_neg (by decide)] at h
 cases g11 : (n == [115, 99]) with
 | true =>
  rw [g11, if_pos rfl] at h
  cases hs : slR M c cs A t with
  | ok y => rw [hs] at h; injection h with h; rw [<- h]; exact (sl_kp hs).tr (put_kp _ _ _)
  | error e => rw [hs] at h; injection h
 | false =>
 rw [g11, if_neg (by decide)] at h
 cases g12 : (n == [115, 119, 108]) with
 | true => rw [g12, if_pos rfl] at h; exact h3 h
 | false =>
 rw [g12, if_neg (by decide)] at h
 cases g13 : (n == [115, 119, 114]) with
 | true => rw [g13, if_pos rfl] at h; exact h3 h
 | false =>
 rw [g13, if_neg (by decide)] at h
 injection h with h; rw [<- h]; exact Kp.rfl' c
theorem work_kp {M : Mem} {c : Cp} {cs : List (Nat × Int)} {i : In} {s t : Nat} {z : Cp × List (Nat × Int)} (h : workR M c cs i s t = .ok z) : Kp c z.1 := by
 unfold workR at h
 cases h0 : (aIdx i.name).isSome with
 | true => rw [h0, if_pos rfl] at h; exact onC_kp (fun c' h' => lput_kp h') h
 | false =>
 rw [h0, if_neg (by decide)] at h
 cases h1 : (Wd.wIdx i.name).isSome with
 | true => rw [h1, if_pos rfl] at h; injection h with h; rw [<- h]; exact ⟨rfl, rfl⟩
 | false =>
 rw [h1, if_neg (by decide)] at h
 cases h2 : trapB i.name s t with
 | true => rw [h2, if_pos rfl] at h; injection h
 | false =>
 rw [h2, if_neg (by decide)] at h
 cases h3 : ((formOf i.name).toList == [116, 109]) with
 | true => rw [h3, if_pos rfl] at h; exact reach_kp h
 | false => rw [h3, if_neg (by decide)] at h; exact onC_kp (fun c' h' => mv_kp h') h
theorem ins_kp {M : Mem} {c : Cp} {cs : List (Nat × Int)} {x : Ev × (Cp × List (Nat × Int))} (h : insR M c cs = .ok x) : x.2.1.r.getD 0 0 = c.r.getD 0 0 /\ x.2.1.pc = c.next /\ (x.1.kind = 0 \/ x.1.kind = 1) := by
 unfold insR at h
 cases hf : fetR M cs c.pc with
 | error e => rw [hf] at h; injection h
 | ok n =>
 rw [hf] at h
 simp only at h
 split at h
 ·injection h
 ·cases hw : wayN (decN n) c with
  | some y =>
   rw [hw] at h
   injection h with h
   rw [<- h]
   have := put_kp c y.link ((c.pc + 8) % 4294967296)
   exact ⟨this.1, this.2, .inl rfl⟩
  | none =>
   rw [hw] at h
   simp only at h
   cases hr : workR M c cs (decN n) (rg c (decN n).rs) (rg c (decN n).rt) with
   | error e => rw [hr] at h; injection h
   | ok z =>
    rw [hr] at h
    injection h with h
    rw [<- h]
    have := work_kp hr
    refine ⟨this.1, this.2, ?_⟩
    simp only
    split
    ·exact .inr rfl
    ·exact .inl rfl
def Bad (ev : Ev) : Prop := ev.kind ≠ 0 /\ ev.kind ≠ 1
theorem bad_k {ev : Ev} (k : Int) (h : ev.kind = k) (hk : k ≠ 0 /\ k ≠ 1) : Bad ev := by unfold Bad; rw [h]; exact hk
theorem ld_bad {M : Mem} {cs : List (Nat × Int)} {a n : Nat} {ev : Ev} (h : ldR M cs a n = .error ev) : Bad ev := by
 unfold ldR at h
 split at h
 ·split at h
  ·injection h
  ·injection h with h; rw [<- h]; first | exact bad_k 2 rfl (by decide) | exact bad_k 3 rfl (by decide) | exact bad_k 4 rfl (by decide) | exact bad_k 5 rfl (by decide) | exact bad_k 6 rfl (by decide) | exact bad_k 7 rfl (by decide)
 ·injection h with h; rw [<- h]; first | exact bad_k 2 rfl (by decide) | exact bad_k 3 rfl (by decide) | exact bad_k 4 rfl (by decide) | exact bad_k 5 rfl (by decide) | exact bad_k 6 rfl (by decide) | exact bad_k 7 rfl (by decide)
theorem st_bad {M : Mem} {c : Cp} {cs : List (Nat × Int)} {a n v : Nat} {ev : Ev} (h : stR M c cs a n v = .error ev) : Bad ev := by
 unfold stR at h
 split at h
 ·split at h
  ·injection h
  ·injection h with h; rw [<- h]; first | exact bad_k 2 rfl (by decide) | exact bad_k 3 rfl (by decide) | exact bad_k 4 rfl (by decide) | exact bad_k 5 rfl (by decide) | exact bad_k 6 rfl (by decide) | exact bad_k 7 rfl (by decide)
 ·injection h with h; rw [<- h]; first | exact bad_k 2 rfl (by decide) | exact bad_k 3 rfl (by decide) | exact bad_k 4 rfl (by decide) | exact bad_k 5 rfl (by decide) | exact bad_k 6 rfl (by decide) | exact bad_k 7 rfl (by decide)
theorem sl_bad {M : Mem} {c : Cp} {cs : List (Nat × Int)} {a v : Nat} {ev : Ev} (h : slR M c cs a v = .error ev) : Bad ev := by
 unfold slR at h
 split at h
 ·split at h
  ·cases hs : stR M c.off cs a 4 v with
   | ok y => rw [hs] at h; injection h
   | error e => rw [hs] at h; injection h with h; rw [<- h]; exact st_bad hs
  ·injection h
 ·injection h with h; rw [<- h]; first | exact bad_k 2 rfl (by decide) | exact bad_k 3 rfl (by decide) | exact bad_k 4 rfl (by decide) | exact bad_k 5 rfl (by decide) | exact bad_k 6 rfl (by decide) | exact bad_k 7 rfl (by decide)
theorem fet_bad {M : Mem} {cs : List (Nat × Int)} {pc : Nat} {ev : Ev} (h : fetR M cs pc = .error ev) : Bad ev := by
 unfold fetR at h
 split at h
 ·split at h
  ·injection h
  ·injection h with h; rw [<- h]; first | exact bad_k 2 rfl (by decide) | exact bad_k 3 rfl (by decide) | exact bad_k 4 rfl (by decide) | exact bad_k 5 rfl (by decide) | exact bad_k 6 rfl (by decide) | exact bad_k 7 rfl (by decide)
 ·injection h with h; rw [<- h]; first | exact bad_k 2 rfl (by decide) | exact bad_k 3 rfl (by decide) | exact bad_k 4 rfl (by decide) | exact bad_k 5 rfl (by decide) | exact bad_k 6 rfl (by decide) | exact bad_k 7 rfl (by decide)
theorem lput_bad {r : Except Ev Nat} {c : Cp} {k : Nat} {f : Nat -> Nat} {ev : Ev} (hr : ∀ e, r = .error e -> Bad e) (h : lput r c k f = .error ev) : Bad ev := by
 cases r with
 | ok v => injection h
 | error e => injection h with h; rw [<- h]; exact hr e rfl
theorem onC_bad {r : Except Ev Cp} {cs : List (Nat × Int)} {ev : Ev} (hr : ∀ e, r = .error e -> Bad e) (h : onC r cs = .error ev) : Bad ev := by
 cases r with
 | ok v => injection h
 | error e => injection h with h; rw [<- h]; exact hr e rfl
theorem mv_bad {n : List UInt8} {c : Cp} {rt rd imm s t : Nat} {ev : Ev} (h : mvR n c rt rd imm s t = .error ev) : Bad ev := by
 unfold mvR at h
 cases h0 : (n == [109, 102, 104, 105]) with
 | true => rw [h0, if_pos rfl] at h; injection h
 | false =>
 rw [h0, if_neg (by decide)] at h
 cases h1 : (n == [109, 102, 108, 111]) with
 | true => rw [h1, if_pos rfl] at h; injection h
 | false =>
 rw [h1, if_neg (by decide)] at h
 cases h2 : (n == [109, 111, 118, 122] && t == 0 || n == [109, 111, 118, 110] && t != 0) with
 | true => rw [h2, if_pos rfl] at h; injection h
 | false =>
 rw [h2, if_neg (by decide)] at h
 cases h3 : (n == [114, 100, 104, 119, 114]) with
 | true => rw [h3, if_pos rfl] at h; injection h
 | false =>
 rw [h3, if_neg (by decide)] at h
 cases h4 : (n == [98, 114, 101, 97, 107]) with
 | true => rw [h4, if_pos rfl] at h; injection h with h; rw [<- h]; first | exact bad_k 2 rfl (by decide) | exact bad_k 3 rfl (by decide) | exact bad_k 4 rfl (by decide) | exact bad_k 5 rfl (by decide) | exact bad_k 6 rfl (by decide) | exact bad_k 7 rfl (by decide)
 | false => rw [h4, if_neg (by decide)] at h; injection h
theorem reach_bad {M : Mem} {c : Cp} {cs : List (Nat × Int)} {n : List UInt8} {rt t A : Nat} {ev : Ev} (h : reachB M c cs n rt t A = .error ev) : Bad ev := by
 have h1 : ∀ {a m : Nat} {f : Nat -> Nat}, onC (lput (ldR M cs a m) c rt f) cs = .error ev -> Bad ev := fun h => onC_bad (fun e he => lput_bad (fun e' he' => ld_bad he') he) h
 have h2 : ∀ {a m v : Nat}, stR M c cs a m v = .error ev -> Bad ev := fun h => st_bad h
 have h3 : ∀ {b k : Nat} {f : Nat -> Nat} {a m : Nat}, swR (ldR M cs b k) (fun v => stR M c cs a m (f v)) = .error ev -> Bad ev := fun {b k f a m} h => by
  cases hr : ldR M cs b k with
  | ok v => rw [hr] at h; exact h2 h
  | error e => rw [hr] at h; injection h with h; rw [<- h]; exact ld_bad hr
 unfold reachB at h
 cases g0 : (n == [108, 98]) with
 | true => rw [g0, if_pos rfl] at h; exact h1 h
 | false =>
 rw [g0, if_neg (by decide)] at h
 cases g1 : (n == [108, 98, 117]) with
 | true => rw [g1, if_pos rfl] at h; exact h1 h
 | false =>
 rw [g1, if_neg (by decide)] at h
 cases g2 : (n == [108, 104]) with
 | true => rw [g2, if_pos rfl] at h; exact h1 h
 | false =>
 rw [g2, if_neg (by decide)] at h
 cases g3 : (n == [108, 104, 117]) with
 | true => rw [g3, if_pos rfl] at h; exact h1 h
 | false =>
 rw [g3, if_neg (by decide)] at h
 cases g4 : (n == [108, 119]) with
 | true => rw [g4, if_pos rfl] at h; exact h1 h
 | false =>
 rw [g4, if_neg (by decide)] at h
 cases g5 : (n == [108, 108]) with
 | true =>
  rw [g5, if_pos rfl] at h
  refine onC_bad (fun e h' => ?_) h
  cases hr : ldR M cs A 4 with
  | ok v => rw [hr] at h'; injection h'
  | error e => rw [hr] at h'; injection h' with h'; rw [<- h']; exact ld_bad hr
 | false =>
 rw [g5, if_neg (by decide)] at h
 cases g6 : (n == [108, 119, 108]) with
 | true => rw [g6, if_pos rfl] at h; exact h1 h
 | false =>
 rw [g6, if_neg (by decide)] at h
 cases g7 : (n == [108, 119, 114]) with
 | true => rw [g7, if_pos rfl] at h; exact h1 h
 | false =>
 rw [g7, if_neg (by decide)] at h
 cases g8 : (n == [115, 98]) with
 | true => rw [g8, if_pos rfl] at h; exact h2 h
 | false =>
 rw [g8, if_neg (by decide)] at h
 cases g9 : (n == [115, 104]) with
 | true => rw [g9, if_pos rfl] at h; exact h2 h
 | false =>
 rw [g9, if_neg (by decide)] at h
 cases g10 : (n == [115, 119]) with
 | true => rw [g10, if_pos rfl] at h; exact h2 h
 | false =>
 rw [g10, if_neg (by decide)] at h
 cases g11 : (n == [115, 99]) with
 | true =>
  rw [g11, if_pos rfl] at h
  cases hs : slR M c cs A t with
  | ok y => rw [hs] at h; injection h
  | error e => rw [hs] at h; injection h with h; rw [<- h]; exact sl_bad hs
 | false =>
 rw [g11, if_neg (by decide)] at h
 cases g12 : (n == [115, 119, 108]) with
 | true => rw [g12, if_pos rfl] at h; exact h3 h
 | false =>
 rw [g12, if_neg (by decide)] at h
 cases g13 : (n == [115, 119, 114]) with
 | true => rw [g13, if_pos rfl] at h; exact h3 h
 | false =>
 rw [g13, if_neg (by decide)] at h
 injection h
theorem work_bad {M : Mem} {c : Cp} {cs : List (Nat × Int)} {i : In} {s t : Nat} {ev : Ev} (h : workR M c cs i s t = .error ev) : Bad ev := by
 unfold workR at h
 cases h0 : (aIdx i.name).isSome with
 | true =>
  rw [h0, if_pos rfl] at h
  refine onC_bad (fun e he => lput_bad (fun e' he' => ?_) he) h
  unfold madeR at he'
  split at he'
  ·injection he'
  ·injection he' with he'; rw [<- he']; first | exact bad_k 2 rfl (by decide) | exact bad_k 3 rfl (by decide) | exact bad_k 4 rfl (by decide) | exact bad_k 5 rfl (by decide) | exact bad_k 6 rfl (by decide) | exact bad_k 7 rfl (by decide)
 | false =>
 rw [h0, if_neg (by decide)] at h
 cases h1 : (Wd.wIdx i.name).isSome with
 | true => rw [h1, if_pos rfl] at h; injection h
 | false =>
 rw [h1, if_neg (by decide)] at h
 cases h2 : trapB i.name s t with
 | true => rw [h2, if_pos rfl] at h; injection h with h; rw [<- h]; first | exact bad_k 2 rfl (by decide) | exact bad_k 3 rfl (by decide) | exact bad_k 4 rfl (by decide) | exact bad_k 5 rfl (by decide) | exact bad_k 6 rfl (by decide) | exact bad_k 7 rfl (by decide)
 | false =>
 rw [h2, if_neg (by decide)] at h
 cases h3 : ((formOf i.name).toList == [116, 109]) with
 | true => rw [h3, if_pos rfl] at h; exact reach_bad h
 | false => rw [h3, if_neg (by decide)] at h; exact onC_bad (fun e he => mv_bad he) h
theorem ins_bad {M : Mem} {c : Cp} {cs : List (Nat × Int)} {ev : Ev} (h : insR M c cs = .error ev) : Bad ev := by
 unfold insR at h
 cases hf : fetR M cs c.pc with
 | error e => rw [hf] at h; injection h with h; rw [<- h]; exact fet_bad hf
 | ok n =>
 rw [hf] at h
 simp only at h
 split at h
 ·injection h with h; rw [<- h]; first | exact bad_k 2 rfl (by decide) | exact bad_k 3 rfl (by decide) | exact bad_k 4 rfl (by decide) | exact bad_k 5 rfl (by decide) | exact bad_k 6 rfl (by decide) | exact bad_k 7 rfl (by decide)
 ·cases hw : wayN (decN n) c with
  | some y => rw [hw] at h; injection h
  | none =>
   rw [hw] at h
   simp only at h
   cases hr : workR M c cs (decN n) (rg c (decN n).rs) (rg c (decN n).rt) with
   | error e => rw [hr] at h; injection h with h; rw [<- h]; exact work_bad hr
   | ok z => rw [hr] at h; injection h
theorem step_keeps (M : Mem) (c : Cp) (cs : List (Nat × Int)) : ((stepR M c cs).1.kind ≠ 0 /\ (stepR M c cs).1.kind ≠ 1 -> (stepR M c cs).2.1 = c /\ (stepR M c cs).2.2 = cs) /\ (((stepR M c cs).1.kind = 0 \/ (stepR M c cs).1.kind = 1) -> (stepR M c cs).2.1.r.getD 0 0 = c.r.getD 0 0 /\ (stepR M c cs).2.1.pc = c.next) := by
 unfold stepR
 cases h : insR M c cs with
 | ok x =>
  obtain ⟨h1, h2, h3⟩ := ins_kp h
  exact ⟨fun hb => absurd h3 (fun h => h.elim hb.1 hb.2), fun _ => ⟨h1, h2⟩⟩
 | error ev =>
  have := ins_bad h
  exact ⟨fun _ => ⟨rfl, rfl⟩, fun hk => absurd hk (fun h => h.elim this.1 this.2)⟩
end Go.Proofs.YtimfipkbddpdmaaGreatDoor
