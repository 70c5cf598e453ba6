/- What is proved here: at most four bytes as text; bytes, four each: the program's words and pieces. -/
import Derived.Test.YtglkkeelocdanaaDoorNt
import Derived.Test.YtglkkeelocdanaaDoorNs
import Derived.Test.YtglkkeelocdanaaDoorW
import Derived.Test.YtglkkeelocdanaaDoorDd
import Derived.Test.YtglkkeelocdanaaDoorPs
import Derived.LoopNIn
import Derived.LoopIn
import Derived.TacticsInMore
import Derived.OwnWalkIn
import Derived.Test.YtglkkeelocdanaaDoorEach
import Derived.Lib.AppendStr
namespace Go.Proofs.YtglkkeelocdanaaDoor
open Go.RowKit
set_option linter.unusedVariables false
set_option linter.unusedSimpArgs false
set_option maxRecDepth 100000
attribute [local go_sem] Oper.semAt_some
/-- The word of at most four bytes. -/
def wdN (s : ByteArray) : Nat := W.beS s % 4294967296
def dotW : L8 := [46, 119, 111, 114, 100, 32, 48, 120]
/-- At most four bytes as text. -/
def wdL (s : ByteArray) : L8 := if isWord (wdN s) && decide (4 ≤ s.size) then lineL (decN (wdN s)) else dotW ++ hexL s.toList
theorem dec_imm (x : Nat) (hx : x < 4294967296) : (decN x).imm < 4294967296 := by
  unfold decN
  split
  · exact ins_lt _ _ hx
  · show (0 : Nat) < _; omega
set_option maxHeartbeats 1000000 in
theorem words36 (s : ByteArray) (hs : s.size ≤ 100000) (w : World) (hl : Lw w) : Calls Tryd.prog 22 #[.string s] w fun e w' => e = .returned (.string ⟨(wdL s).toArray⟩) ∧ Below w.heap.size w w' := by
  have K71 := W.be_any s w
  have hx : wdN s < 4294967296 := by unfold wdN; omega
  have hw : (W.beS s : Int) % 4294967296 = (wdN s : Int) := by unfold wdN; omega
  have K70 : Hid (∀ w', Below w.heap.size w w' → Calls Tryd.prog 46 #[.int .u32 (wdN s : Int)] w' fun e w'' => e = .returned (.tuple #[(decN (wdN s)).val, .bool (isWord (wdN s))]) ∧ Below w'.heap.size w' w'') := fun w' h => decode8 _ hx w' (hl.keep h).tab
  have him := dec_imm _ hx
  have K9 : Hid (∀ w', Below w.heap.size w w' → Calls Tryd.prog 7 #[(decN (wdN s)).val] w' fun e w'' => e = .returned (.string ⟨(lineL (decN (wdN s))).toArray⟩) ∧ Below w'.heap.size w' w'') := fun w' h => line9 _ him w' (hl.keep h)
  have K34 : Hid (∀ w', Calls Tryd.prog 20 #[.string s] w' fun e w'' => e = .returned (.string ⟨(hexL s.toList).toArray⟩) ∧ Below w'.heap.size w' w'') := fun w' => hex34 s hs w'
  have HE : Hid (wdL s = if isWord (wdN s) && decide (4 ≤ s.size) then lineL (decN (wdN s)) else dotW ++ hexL s.toList) := rfl
  have hhl : (hexL s.toList).length ≤ 200000 := by rw [hex_len, bt_len]; omega
  obtain ⟨XL, hXL⟩ : ∃ z, z = wdL s := ⟨_, rfl⟩
  rw [← hXL] at HE ⊢
  generalize wdN s = x at hw K70 K9 HE
  generalize lineL (decN x) = LX at K9 HE
  generalize decN x = D at K70 K9
  generalize isWord x = ib at K70 HE
  obtain ⟨HXB, hHX⟩ : ∃ z : ByteArray, z = ⟨(hexL s.toList).toArray⟩ := ⟨_, rfl⟩
  have hHs : HXB.size ≤ 200000 := by rw [hHX]; show Array.size _ ≤ _; simpa using hhl
  have hadd : ∀ wx, (Op.stringOp .add ⟨#[46, 119, 111, 114, 100, 32, 48, 120]⟩ HXB).run Tryd.prog wx = .ok (.string (⟨#[46, 119, 111, 114, 100, 32, 48, 120]⟩ ++ HXB)) wx := fun wx => run_string_add_sum wx _ _ (by have : (⟨#[46, 119, 111, 114, 100, 32, 48, 120]⟩ : ByteArray).size = 8 := rfl; omega)
  have HAP : Hid (⟨#[46, 119, 111, 114, 100, 32, 48, 120]⟩ ++ HXB = (⟨(dotW ++ hexL s.toList).toArray⟩ : ByteArray)) := by show _ = _; rw [hHX]; exact ba_app dotW _
  rw [← hHX] at K34
  unfold In.val at K70 K9
  clear hXL hx him hHX hhl hHs hl
  cases ib with
  | false =>
    have HE : Hid (XL = dotW ++ hexL s.toList) := by show _ = _; rw [HE.out]; rfl
    go_enter Tryd.func22, Tryd.ntmps22
    go_wp2_with fail
    refine K71.mono ?_
    rintro e w1 ⟨rfl, hb1⟩
    clear K71
    have KK := K70.out w1 hb1
    have HB1 : Hid (Below w.heap.size w w1) := hb1
    clear hb1 K70
    go_wp2_with fail
    refine KK.mono ?_
    rintro e w2 ⟨rfl, hb2⟩
    have hb3 := below_tr HB1.out hb2
    obtain ⟨W3, hW3⟩ : ∃ z, w2.alloc (.cells #[.string D.name, .int .i64 D.rs, .int .i64 D.rt, .int .i64 D.rd, .int .i64 D.sa, .int .u32 (D.imm : Int)] 29) = z := ⟨_, rfl⟩
    have HB3 : Hid (Below w.heap.size w W3) := by rw [← hW3]; exact hb3.alloc hb3.size _
    have K3 := K34.out W3
    clear KK hb2 hb3 K9 K34
    go_wp2_with fail
    refine K3.mono ?_
    rintro e w4 ⟨rfl, hb4⟩
    go_wp2
    go_ret
    exact ⟨by rw [HE.out, ← HAP.out]; rfl, below_tr HB3.out hb4⟩
  | true =>
    by_cases h4 : 4 ≤ s.size
    · have HE : Hid (XL = LX) := by show _ = _; rw [HE.out, decide_eq_true h4]; rfl
      have hi4 : ¬ (s.size : Int) < 4 := by omega
      have hi5 : decide ((s.size : Int) < 4) = false := decide_eq_false hi4
      go_enter Tryd.func22, Tryd.ntmps22
      go_wp2_with fail
      refine K71.mono ?_
      rintro e w1 ⟨rfl, hb1⟩
      clear K71
      have KK := K70.out w1 hb1
      have HB1 : Hid (Below w.heap.size w w1) := hb1
      clear hb1 K70
      go_wp2_with fail
      refine KK.mono ?_
      rintro e w2 ⟨rfl, hb2⟩
      have hb3 := below_tr HB1.out hb2
      obtain ⟨W3, hW3⟩ : ∃ z, w2.alloc (.cells #[.string D.name, .int .i64 D.rs, .int .i64 D.rt, .int .i64 D.rd, .int .i64 D.sa, .int .u32 (D.imm : Int)] 29) = z := ⟨_, rfl⟩
      have HB3 : Hid (Below w.heap.size w W3) := by rw [← hW3]; exact hb3.alloc hb3.size _
      have I3 : In6 D w2.heap.size W3 := by rw [← hW3]; exact In6.new D w2
      obtain ⟨d0, d1, d2, d3, d4, d5⟩ := I3.cells
      have K3 := K9.out W3 HB3.out
      clear KK hb2 hb3 K9 K34 I3
      go_wp2_with fail
      refine K3.mono ?_
      rintro e w4 ⟨rfl, hb4⟩
      go_wp2
      go_ret
      exact ⟨by rw [HE.out]; rfl, below_tr HB3.out hb4⟩
    · have HE : Hid (XL = dotW ++ hexL s.toList) := by show _ = _; rw [HE.out, decide_eq_false h4]; rfl
      have hi4 : (s.size : Int) < 4 := by omega
      go_enter Tryd.func22, Tryd.ntmps22
      go_wp2_with fail
      refine K71.mono ?_
      rintro e w1 ⟨rfl, hb1⟩
      clear K71
      have KK := K70.out w1 hb1
      have HB1 : Hid (Below w.heap.size w w1) := hb1
      clear hb1 K70
      go_wp2_with fail
      refine KK.mono ?_
      rintro e w2 ⟨rfl, hb2⟩
      have hb3 := below_tr HB1.out hb2
      obtain ⟨W3, hW3⟩ : ∃ z, w2.alloc (.cells #[.string D.name, .int .i64 D.rs, .int .i64 D.rt, .int .i64 D.rd, .int .i64 D.sa, .int .u32 (D.imm : Int)] 29) = z := ⟨_, rfl⟩
      have HB3 : Hid (Below w.heap.size w W3) := by rw [← hW3]; exact hb3.alloc hb3.size _
      have K3 := K34.out W3
      clear KK hb2 hb3 K9 K34
      go_wp2_with fail
      refine K3.mono ?_
      rintro e w4 ⟨rfl, hb4⟩
      go_wp2
      go_ret
      exact ⟨by rw [HE.out, ← HAP.out]; rfl, below_tr HB3.out hb4⟩
/-- The bytes from the j-th four on, four at most. -/
def ck (l : L8) (j : Nat) : L8 := (l.take (4 * j + 4)).drop (4 * j)
def cks (l : L8) (j : Nat) : List L8 := (List.range j).map (ck l)
def ckN (l : L8) : Nat := (l.length + 3) / 4
def CkNx (l : L8) (pre : List L8) (x : L8) : Prop := ∃ j, pre = cks l j ∧ 4 * j < l.length ∧ x = ck l j
theorem cks_snoc (l : L8) (j : Nat) : cks l (j + 1) = cks l j ++ [ck l j] := by unfold cks; rw [List.range_succ, List.map_append]; rfl
theorem pieces33 (p : ByteArray) (w : World) : Calls Tryd.prog 19 #[.string p] w fun e w' => e = .returned (.func (.func 43) #[] #[.pointer (some ⟨w.heap.size, 0, none⟩)]) ∧ w' = w.alloc (.cells #[.string p] 9) := by
  go_enter Tryd.func19, Tryd.ntmps19
  go_wp2
  go_ret
  exact ⟨rfl, rfl⟩
set_option maxHeartbeats 1000000 in
theorem pieces67_in (m : Nat) (hm : 2 ≤ m) (l' Bp : Nat) (p : ByteArray) (l : L8) (hl : l = p.toList) (hp : p.size ≤ 100000) (J Jx : List L8 → World → Prop)
    (hY : ∀ pre x W, J pre W → CkNx l pre x → YieldAt Fence.wide (m - 1) Tryd.prog l' (encS x) W fun e W' =>
      (e = .returned (.bool true) ∧ J (pre ++ [x]) W' ∧ W'.cell? ⟨Bp, 0, none⟩ = W.cell? ⟨Bp, 0, none⟩) ∨ (e = .returned (.bool false) ∧ Jx (pre ++ [x]) W'))
    (W : World) (hc : W.cell? ⟨Bp, 0, none⟩ = some (.string p)) (h0 : J [] W) :
    CallsIn Fence.wide m Tryd.prog 43 #[.func (.yield l') #[] #[], .pointer (some ⟨Bp, 0, none⟩)] W fun e W' => (∃ v, e = .returned v) ∧ ((∃ xs, xs = cks l (ckN l) ∧ J xs W') ∨ (∃ pre, True ∧ Jx pre W')) := by
  have HL : Hid (l.length = p.size ∧ l = p.toList) := ⟨by rw [hl]; exact bt_len p, hl⟩
  have HY : Hid _ := hY
  clear hY hl
  refine callsIn_of_wp Tryd.func43 rfl trivial ?_ rfl
  simp only [Tryd.ntmps43, List.size_toArray, List.length_cons, List.length_nil, Nat.reduceAdd, Nat.reduceSub, Array.replicate_succ, Array.replicate_zero, List.push_toArray, List.append_toArray, List.nil_append, List.cons_append]
  gi_wp2
  gi_loopw [3] (fun x wr => ∃ (j : Nat), x = .int .i64 ((4 * j : Nat) : Int) ∧ 4 * j ≤ p.size + 3 ∧ J (cks l j) wr ∧ wr.cell? ⟨Bp, 0, none⟩ = some (.string p)) (fun x _ => p.size + 4 - (intOf x).toNat)
  case atStart => exact ⟨0, rfl, by omega, h0, hc⟩
  case round =>
    obtain ⟨j, rfl, hj, hJ, hcell⟩ := hrel
    obtain ⟨q, hq⟩ : ∃ z, z = 4 * j := ⟨_, rfl⟩
    have HLL := HL.out
    clear h0 hc
    by_cases hlt : q < p.size
    · obtain ⟨r, hr⟩ : ∃ z : Nat, z = min (q + 4) p.size := ⟨_, rfl⟩
      have hri : min ((q : Int) + 4) (p.size : Int) = (r : Int) := by omega
      have hsl : ∀ W', (Instr.slice 9 (.string p) (some (.int .i64 (q : Int))) (some (.int .i64 (r : Int))) none).run Tryd.prog W' = .ok (.string (p.extract q r)) W' := fun W' => by
        rw [run_slice_string W' 9 p .i64 .i64 (q : Int) (r : Int) Tryd.underlying9 (by omega) (by omega) (by omega)]
        congr 3
      obtain ⟨fn, tmps, assign, body, hy, hRd⟩ := HY.out _ (ck l j) wr hJ ⟨j, rfl, by omega, rfl⟩
      have hex : (⟨(ck l j).toArray⟩ : ByteArray) = p.extract q r := by
        rw [ext_list, ← HLL.2]
        unfold ck
        rw [← hq]
        congr 2
        by_cases h4 : q + 4 ≤ p.size
        · rw [show r = q + 4 by omega]
        · rw [show r = p.size by omega, List.take_of_length_le (by omega), List.take_of_length_le (by omega)]
      simp only [encS] at hy
      rw [hex] at hy
      have hqi : (q : Int) < (p.size : Int) := by omega
      have HQ : Hid (q = 4 * j ∧ q < p.size) := ⟨hq, hlt⟩
      rw [← hq]
      clear hr hq hex HLL
      gi_wp2
      refine ⟨fun _ => by omega, hRd.mono ?_⟩
      rintro e W3 (⟨rfl, hJ3, hk3⟩ | ⟨rfl, hJx3⟩)
      · have hcell3 := hk3.trans hcell
        clear hRd hy hk3 hcell
        gi_wp2
        go_roundw
        case rel => exact ⟨j + 1, by have := HQ.out; simp; omega, by have := HQ.out; omega, by rw [cks_snoc]; exact hJ3, hcell3⟩
        case measure => have := HQ.out; simp [intOf]; omega
      · clear hRd hy
        gi_wp2
        refine bodyPost_ret (results_none rfl _ _ _) rfl ?_
        exact ⟨⟨_, rfl⟩, .inr ⟨_, trivial, hJx3⟩⟩
    · have hqi : ¬ (q : Int) < (p.size : Int) := by omega
      have hqj : decide ((q : Int) < (p.size : Int)) = false := decide_eq_false hqi
      have HE : Hid (j = ckN l) := by show _ = _; unfold ckN; omega
      rw [← hq]
      clear hq HLL
      gi_wp2
      go_end0
      exact ⟨⟨_, rfl⟩, .inl (by rw [← HE.out]; exact hJ)⟩
theorem pieces_next (m : Nat) (hm : 2 ≤ m) (p : ByteArray) (l : L8) (hl : l = p.toList) (hp : p.size ≤ 100000) (Bp : Nat) (w0 : World) (hc : w0.cell? ⟨Bp, 0, none⟩ = some (.string p)) :
    SeqNx m Tryd.prog 43 #[.pointer (some ⟨Bp, 0, none⟩)] encS (fun A C => C.cell? ⟨Bp, 0, none⟩ = A.cell? ⟨Bp, 0, none⟩) (CkNx l) (fun xs => xs = cks l (ckN l)) (fun _ => True) w0 := by
  intro l' J Jx W hb _ _ hY h0
  exact pieces67_in m hm l' Bp p l hl hp J Jx hY W (keep_cell hb hc) h0
end Go.Proofs.YtglkkeelocdanaaDoor
namespace Go.Proofs.YtglkkeelocdanaaDoor
open Go.RowKit
set_option linter.unusedVariables false
set_option linter.unusedSimpArgs false
set_option maxRecDepth 100000
attribute [local go_sem] Oper.semAt_some
/-- A line of a listing. -/
def lnL (l : L8) (a i : Nat) : L8 := ((hexL (W.putBeS ((a + 4 * i) % 4294967296) 4).toList ++ [58, 32]) ++ wdL ⟨(ck l i).toArray⟩) ++ [10]
def outL (l : L8) (a j : Nat) : L8 := (List.range j).flatMap (lnL l a)
/-- Words as text. -/
def lstL (l : L8) (a : Nat) : L8 := outL l a (ckN l)
theorem outL_snoc (l : L8) (a j : Nat) : outL l a (j + 1) = outL l a j ++ lnL l a j := by unfold outL; rw [List.range_succ, List.flatMap_append]; simp
theorem wd_len (s : ByteArray) (hs : s.size ≤ 4) : (wdL s).length ≤ 1342177500 := by
  unfold wdL
  split
  · rename_i h
    rw [Bool.and_eq_true] at h
    exact line_len (back1 h.1).1
  · rw [List.length_append, hex_len, bt_len]
    show 8 + _ ≤ _
    omega
theorem pb_len (v : Nat) : (W.putBeS v 4).size = 4 := by
  unfold W.putBeS
  rw [if_pos (by decide)]
  show Array.size _ = _
  simp [W.leB_length]
theorem ck_len (l : L8) (j : Nat) : (ck l j).length ≤ 4 := by unfold ck; simp; omega
theorem ln_len (l : L8) (a i : Nat) : (lnL l a i).length ≤ 1342177600 := by
  unfold lnL
  have h1 := wd_len ⟨(ck l i).toArray⟩ (by show Array.size _ ≤ _; have := ck_len l i; simpa using this)
  have h2 : (hexL (W.putBeS ((a + 4 * i) % 4294967296) 4).toList).length = 8 := by rw [hex_len, bt_len, pb_len]
  simp only [List.length_append, h2]
  simp
  omega
theorem out_lenL (l : L8) (a : Nat) : ∀ j, (outL l a j).length ≤ 1342177600 * j
  | 0 => by simp [outL]
  | j + 1 => by
    have h1 := out_lenL l a j
    have h2 := ln_len l a j
    rw [outL_snoc, List.length_append]
    omega
theorem str_cells (l : L8) : Go.Lib.strCells ⟨l.toArray⟩ = cellsB l := by simp [Go.Lib.strCells, cellsB]
theorem wpIn_append_own_str {F : Fence} {m : Nat} {P : Program} (w : World) {o : Oper} {a : Act} {K : Act → World → Prop} {Q : Exit → Act → World → Prop}
    (s x : Operand) (t u : TypeId) (hop : o.op = Op.call { callee := Callee.builtin Builtin.append, args := #[s, x], argTypes := #[t, u] })
    (base : Nat) (e : TypeId) (i : TypeInfo) (h1 : P.underlying t = some (.slice e)) (hu : P.underlying u = some .string) (h2 : P.info? e = some i) (hz : i.zero = some (.int .u8 0)) (h4 : i.size = 1) (h5 : i.bytes = 1)
    (v : Value) (n : Nat) (xs : List Value) (hs : a.eval s = v) (hown : w.ownsRow base e 1 v n xs) (str : ByteArray) (hx : a.eval x = .string str) (hb : n + str.size ≤ 140737488355328) (hbase : base ≤ w.heap.size)
    (hK : ∀ v' w', w'.ownsRow base e 1 v' (n + str.size) (xs ++ Go.Lib.strCells str) → w.grownBy w' v.ownBlock → K (a.put o.dst v') w') :
    Oper.wpIn F m P o a w K Q := by
  obtain ⟨v', w', hrun, r1, r2, _⟩ := Go.Lib.run_append_own_string (P := P) w base t u o.type e i h1 hu h2 hz h4 h5 v n xs hown str (by unfold maxLen; omega) hb hbase
  unfold Oper.wpIn
  refine ⟨?_, ?_⟩
  · simp [Oper.about, hop, resolve, Target.leads, Sem.run_pure]
  · rw [Oper.semAt_plain F _ _ (by rw [hop]; intro c hc'; cases hc')]
    simp [execOp, hop, resolve, invoke, builtin, hs, hx, hrun, Result.andThen]
    exact hK v' w' r1 r2
theorem own_row1 {w w' : World} {B e n : Nat} {v : Value} {xs : List Value} {row : Option Nat} (h : w.ownsRow B e 1 v n xs) (hg : w.grownBy w' row) (hr : ∀ r, row = some r → ∃ o : Obj, w.heap[r]? = some o ∧ o.isCells = false) : w'.ownsRow B e 1 v n xs := by
  obtain ⟨h0, h | ⟨g, cap, cur, h1, h2, h3, h4⟩⟩ := h
  · exact ⟨h0, Or.inl h⟩
  · refine ⟨h0, Or.inr ⟨g, cap, cur, h1, h2, ?_, h4⟩⟩
    rw [hg.block g (Array.getElem?_eq_some_iff.1 h3).1 (not_cells_row h3 hr)]; exact h3
theorem own_block1 {w w' : World} {B e n : Nat} {v : Value} {xs : List Value} {b : Nat} {t : TypeId} {u : Value} (h : w.ownsRow B e 1 v n xs) (hx : Boxed w b t u) (hte : t ≠ e) (hg : w.grownBy w' (some b)) : w'.ownsRow B e 1 v n xs := by
  obtain ⟨h0, h | ⟨g, cap, cur, h1, h2, h3, h4⟩⟩ := h
  · exact ⟨h0, Or.inl h⟩
  · refine ⟨h0, Or.inr ⟨g, cap, cur, h1, h2, ?_, h4⟩⟩
    rw [hg.block g (Array.getElem?_eq_some_iff.1 h3).1 (by
      intro e'
      injection e' with e'
      subst e'
      rw [show w.heap[g]? = _ from hx] at h3
      cases h3
      exact hte rfl)]; exact h3
theorem not_own {w : World} {B e n : Nat} {v : Value} {xs : List Value} {b : Nat} {t : TypeId} {u : Value} (h : w.ownsRow B e 1 v n xs) (hx : Boxed w b t u) (hte : t ≠ e) : some b ≠ v.ownBlock := by
  obtain ⟨h0, ⟨rfl, _⟩ | ⟨g, cap, cur, rfl, h2, h3, h4⟩⟩ := h
  · simp [Value.ownBlock]
  · simp [Value.ownBlock]
    intro e'
    subst e'
    rw [show w.heap[b]? = _ from hx] at h3
    cases h3
    exact hte rfl
theorem own_kind1 {w : World} {B e n : Nat} {v : Value} {xs : List Value} {j : Nat} {o : Obj} (h : w.ownsRow B e 1 v n xs) (he : v.ownBlock = some j) (ho : w.heap[j]? = some o) : o.isCells = true := by
  obtain ⟨_, ⟨rfl, _⟩ | ⟨g, cap, cur, rfl, _, hh, _⟩⟩ := h
  · simp [Value.ownBlock] at he
  · simp [Value.ownBlock] at he
    subst he
    rw [hh] at ho
    cases ho
    rfl
/-- What stands between two lines. -/
def LsI (w : World) (S : ByteArray) (l : L8) (a BP B3 : Nat) (pre : List L8) (Wx : World) : Prop := ∃ j vs, pre = cks l j ∧ Boxed Wx w.heap.size 27 (.int .u32 ((a + 4 * j) % 4294967296 : Nat)) ∧ Boxed Wx (w.heap.size + 1) 34 vs ∧ Wx.ownsRow w.heap.size 5 1 vs (outL l a j).length (cellsB (outL l a j)) ∧ Boxed Wx BP 9 (.string S) ∧ Below w.heap.size w Wx ∧ B3 ≤ Wx.heap.size
set_option maxHeartbeats 2000000 in
theorem listing13 (l : L8) (hn : l.length ≤ 1000) (a : Nat) (ha : a < 4294967296) (w : World) (hl : Lw w) : Calls Tryd.prog 8 #[.string ⟨l.toArray⟩, .int .u32 (a : Int)] w fun e w' => e = .returned (.string ⟨(lstL l a).toArray⟩) ∧ Below w.heap.size w w' := by
  obtain ⟨i0, hi0, hz0, hz1, hz2⟩ := info_parts info5
  have HI : Hid (Tryd.prog.info? 5 = some i0 ∧ i0.zero = some (.int .u8 0) ∧ i0.size = 1 ∧ i0.bytes = 1) := ⟨hi0, hz0, hz1, hz2⟩
  obtain ⟨S, hS⟩ : ∃ z : ByteArray, z = ⟨l.toArray⟩ := ⟨_, rfl⟩
  have hSl : l = S.toList := by rw [hS, bal]
  have hSz : S.size ≤ 100000 := by rw [← bt_len, ← hSl]; omega
  rw [← hS]
  obtain ⟨FR, hFR⟩ : ∃ z, z = lstL l a := ⟨_, rfl⟩
  have HFR : Hid (FR = outL l a (ckN l)) := hFR
  rw [← hFR]
  obtain ⟨W2, hW2⟩ : ∃ z, (w.alloc (.cells #[.int .u32 (a : Int)] 27)).alloc (.cells #[.slice none 0 0] 34) = z := ⟨_, rfl⟩
  have hb2 : Below w.heap.size w W2 := by rw [← hW2]; exact ((Below.refl _ _).alloc (Nat.le_refl _) _).alloc (by simp) _
  have hs2 : W2.heap.size = w.heap.size + 2 := by rw [← hW2]; simp
  have x3 : Boxed W2 w.heap.size 27 (.int .u32 (a : Int)) := by rw [← hW2]; exact (Boxed.new w 27 _).alloc _
  have x5 : Boxed W2 (w.heap.size + 1) 34 (.slice none 0 0) := by
    have := Boxed.new (w.alloc (.cells #[.int .u32 (a : Int)] 27)) 34 (.slice none 0 0)
    rw [World.size_alloc] at this
    rw [← hW2]; exact this
  have K33 := pieces33 S W2
  have HL : Hid (Lw w) := hl
  have H2 : Hid (Below w.heap.size w W2 ∧ W2.heap.size = w.heap.size + 2 ∧ Boxed W2 w.heap.size 27 (.int .u32 (a : Int)) ∧ Boxed W2 (w.heap.size + 1) 34 (.slice none 0 0) ∧ l = S.toList ∧ l.length ≤ 1000) := ⟨hb2, hs2, x3, x5, hSl, hn⟩
  clear hFR hi0 hz0 hz1 hz2 hS hl hb2 x3 x5 hn
  refine callsIn_wide.1 (callsIn_of_wp_marks (F := Fence.wide) (n := 3) Tryd.func8 rfl trivial ?_ rfl)
  simp only [Tryd.ntmps8, List.size_toArray, List.length_cons, List.length_nil, Nat.reduceAdd, Nat.reduceSub, Array.replicate_succ, Array.replicate_zero, List.push_toArray, List.append_toArray, List.nil_append, List.cons_append]
  refine wpIn_wide.2 ?_
  go_wp2_with fail
  refine K33.mono ?_
  rintro e w3 ⟨rfl, rfl⟩
  clear K33
  obtain ⟨W3, hW3⟩ : ∃ z, W2.alloc (.cells #[.string S] 9) = z := ⟨_, rfl⟩
  have hb3 : Below W2.heap.size W2 W3 := by rw [← hW3]; exact (Below.refl _ _).alloc (Nat.le_refl _) _
  have xP : Boxed W3 W2.heap.size 9 (.string S) := by rw [← hW3]; exact Boxed.new W2 9 _
  obtain ⟨BP, hBP⟩ : ∃ z, W2.heap.size = z := ⟨_, rfl⟩
  rw [hBP] at xP
  have hseq := pieces_next (3 - 1) (by omega) S l hSl hSz BP W3 xP.cell
  have HW3 : Hid (Below w.heap.size w W3 ∧ BP = w.heap.size + 2 ∧ BP < W3.heap.size ∧ Boxed W3 w.heap.size 27 (.int .u32 (a : Int)) ∧ Boxed W3 (w.heap.size + 1) 34 (.slice none 0 0) ∧ Boxed W3 BP 9 (.string S)) := by
    obtain ⟨a1, a2, a3, a4, _⟩ := H2.out
    exact ⟨below_tr a1 hb3, by omega, xP.lt, (hb3.block _ a3.lt).trans a3, (hb3.block _ a4.lt).trans a4, xP⟩
  clear xP hb3 hs2 hSl hSz
  go_wp2
  try rw [hW3]
  try rw [hBP]
  clear hW3 hBP hW2
  refine wpIn_wide.1 (wpIn_range_next (n := 3) (by omega) (gf := 43) rfl (enters_of Tryd.func43 (by kernel_rfl) rfl)
    hseq (fun h1 h2 => h2.trans h1) (fun W' l' o o' hl' _ _ _ => ?hkb) (Below.refl _ _) (fun _ => rfl)
    (fun pre Wx => LsI w S l a BP W3.heap.size pre Wx)
    (fun c pre Wx => False)
    (fun pre A C row hh hgr hrr => ?hI)
    (fun c pre A C row hh hgr hrr => hh)
    ⟨0, .slice none 0 0, rfl, ?h0a, HW3.out.2.2.2.2.1, World.ownsRow_nil _ _ _ _, HW3.out.2.2.2.2.2, HW3.out.1, Nat.le_refl _⟩
    (fun x a' Wx => ∃ v0 v1 v2 v4 v7 v8 v9, a' = { tmps := #[v0, v1, v2, .pointer (some ⟨w.heap.size, 0, none⟩), v4, .pointer (some ⟨w.heap.size + 1, 0, none⟩), .string ⟨x.toArray⟩, v7, v8, v9, undef, undef, undef, undef, undef, undef, undef, undef, undef, undef, undef, undef, undef, undef, undef], defers := [] })
    (fun x a' s A C row hh hgr hrr => hh) ?assign ?body ?done ?stop)
  case hkb => exact World.cell?_of_block (World.putObj_heap_other (by have := HW3.out.2.2.1; simp; omega))
  case h0a =>
    have := HW3.out.2.2.2.1
    rw [show (a + 4 * 0) % 4294967296 = a by omega]
    exact this
  case hI =>
    obtain ⟨j, vs, e1, e2, e3, e4, e5, e6, e7⟩ := hh
    exact ⟨j, vs, e1, e2.kept hgr (not_cells_row e2 (fun r e => (hrr r e).2)), e3.kept hgr (not_cells_row e3 (fun r e => (hrr r e).2)), own_row1 e4 hgr (fun r e => (hrr r e).2), e5.kept hgr (not_cells_row e5 (fun r e => (hrr r e).2)), e6.grown hgr e6.size (fun r e => by have := (hrr r e).1; have := HW3.out.1.size; omega), Nat.le_trans e7 hgr.size⟩
  case assign =>
    intro lp pre x Wx K hnx hi hK
    simp only [encS]
    gi_wp2
    exact hK _ _ (KeepsFrom.refl _ _) rfl hi ⟨_, _, _, _, _, _, _, rfl⟩
  case body =>
    rintro lp pre x a' Wx ⟨j', hpj, hjl, hxj⟩ ⟨j, vs, e1, e2, e3, e4, e5, e6, e7⟩ ⟨v0, v1, v2, v4, v7, v8, v9, rfl⟩
    have ejj : j = j' := by
      have := congrArg List.length (e1.symm.trans hpj)
      simpa [cks] using this
    subst ejj
    obtain ⟨sa, sc, rfl⟩ := own_shape1 e4
    obtain ⟨A0, hA0⟩ : ∃ z, z = (a + 4 * j) % 4294967296 := ⟨_, rfl⟩
    have hA0l : A0 < 4294967296 := by omega
    rw [← hA0] at e2
    obtain ⟨PC, hPC⟩ : ∃ z : ByteArray, z = ⟨x.toArray⟩ := ⟨_, rfl⟩
    have hPCs : PC.size ≤ 4 := by rw [hPC, hxj]; show Array.size _ ≤ _; have := ck_len l j; simpa using this
    obtain ⟨PB, hPB⟩ : ∃ z, z = W.putBeS A0 4 := ⟨_, rfl⟩
    obtain ⟨HX, hHX⟩ : ∃ z : ByteArray, z = ⟨(hexL PB.toList).toArray⟩ := ⟨_, rfl⟩
    obtain ⟨WD, hWD⟩ : ∃ z : ByteArray, z = ⟨(wdL PC).toArray⟩ := ⟨_, rfl⟩
    have sPB : PB.size = 4 := by rw [hPB]; exact pb_len A0
    have sHX : HX.size = 8 := by rw [hHX]; show Array.size _ = _; have := hex_len PB.toList; rw [bt_len, sPB] at this; simpa using this
    have sWD : WD.size ≤ 1342177500 := by rw [hWD]; show Array.size _ ≤ _; have := wd_len PC hPCs; simpa using this
    have K35 : Hid (∀ w', Calls Tryd.prog 21 #[.int .u64 (A0 : Int), .int .i64 4] w' fun e w'' => e = .returned (.string PB) ∧ Below w'.heap.size w' w'') := fun w' => by rw [hPB]; exact W.putBe_any A0 4 w'
    have K34 : Hid (∀ w', Calls Tryd.prog 20 #[.string PB] w' fun e w'' => e = .returned (.string HX) ∧ Below w'.heap.size w' w'') := fun w' => by rw [hHX]; exact hex34 PB (by omega) w'
    have K36 : Hid (∀ w', Below w.heap.size w w' → Calls Tryd.prog 22 #[.string PC] w' fun e w'' => e = .returned (.string WD) ∧ Below w'.heap.size w' w'') := fun w' h => by rw [hWD]; exact words36 PC (by omega) w' (HL.out.keep h)
    obtain ⟨X15, e15⟩ : ∃ z : ByteArray, z = HX ++ ⟨#[58, 32]⟩ := ⟨_, rfl⟩
    have s15 : X15.size = 10 := by rw [e15, ByteArray.size_append, sHX]; rfl
    obtain ⟨X18, e18⟩ : ∃ z : ByteArray, z = X15 ++ WD := ⟨_, rfl⟩
    have s18 : X18.size = 10 + WD.size := by rw [e18, ByteArray.size_append, s15]
    obtain ⟨X19, e19⟩ : ∃ z : ByteArray, z = X18 ++ ⟨#[10]⟩ := ⟨_, rfl⟩
    have s19 : X19.size = 10 + WD.size + 1 := by rw [e19, ByteArray.size_append, s18]; rfl
    have a15 : ∀ wx, (Op.stringOp .add HX ⟨#[58, 32]⟩).run Tryd.prog wx = .ok (.string X15) wx := fun wx => by rw [e15]; exact run_string_add_sum wx _ _ (by rw [← ByteArray.size_append, ← e15]; omega)
    have a18 : ∀ wx, (Op.stringOp .add X15 WD).run Tryd.prog wx = .ok (.string X18) wx := fun wx => by rw [e18]; exact run_string_add_sum wx _ _ (by rw [← ByteArray.size_append, ← e18]; omega)
    have a19 : ∀ wx, (Op.stringOp .add X18 ⟨#[10]⟩).run Tryd.prog wx = .ok (.string X19) wx := fun wx => by rw [e19]; exact run_string_add_sum wx _ _ (by rw [← ByteArray.size_append, ← e19]; omega)
    have HX19 : Hid (X19 = ⟨(lnL l a j).toArray⟩) := by
      show _ = _
      rw [e19, e18, e15, hHX, hWD, hPB, hA0, hPC, hxj]
      unfold lnL
      rw [ba_app, ba_app, ba_app]
    have hu64 : IntKind.u64.wrap (A0 : Int) = (A0 : Int) := by rw [IntKind.wrap_u64]; omega
    have hol := out_lenL l a j
    have HSZ : Hid ((outL l a j).length + X19.size ≤ 140737488355328) := by
      have := H2.out.2.2.2.2.2
      show _ ≤ _
      have : 1342177600 * j ≤ 1342177600 * 1000 := Nat.mul_le_mul_left _ (by omega)
      omega
    obtain ⟨n0, hn0⟩ : ∃ z, z = (outL l a j).length := ⟨_, rfl⟩
    rw [← hn0] at e3 e4 HSZ
    have o3 := e2.cell
    have o5 := e3.cell
    have HLX : Hid (Below w.heap.size w Wx) := e6
    have HII : Hid (Boxed Wx w.heap.size 27 (.int .u32 (A0 : Int)) ∧ Boxed Wx (w.heap.size + 1) 34 (.slice sa n0 sc) ∧ Wx.ownsRow w.heap.size 5 1 (.slice sa n0 sc) n0 (cellsB (outL l a j)) ∧ Boxed Wx BP 9 (.string S) ∧ Below w.heap.size w Wx ∧ W3.heap.size ≤ Wx.heap.size) := ⟨e2, e3, e4, e5, e6, e7⟩
    have HJ : Hid (pre = cks l j ∧ x = ck l j ∧ n0 = (outL l a j).length ∧ A0 = (a + 4 * j) % 4294967296) := ⟨e1, hxj, hn0, hA0⟩
    rw [← hPC]
    clear e1 e2 e3 e4 e5 e6 e7 hPC hPCs hPB hHX hWD sPB sHX sWD e15 e18 e19 s15 s18 s19 hpj hjl hxj hol hn0 hA0
    gi_wp2
    refine wpIn_region_cut (R := Ext) [⟨10, fun v _ => v = .slice sa n0 sc, fun _ _ _ _ h => h⟩, ⟨11, fun v _ => v = .int .u32 (A0 : Int), fun _ _ _ _ h => h⟩, ⟨12, fun v _ => v = .int .u64 (A0 : Int), fun _ _ _ _ h => h⟩, ⟨13, fun v _ => v = .string PB, fun _ _ _ _ h => h⟩, ⟨14, fun v _ => v = .string HX, fun _ _ _ _ h => h⟩, ⟨15, fun v _ => v = .string X15, fun _ _ _ _ h => h⟩, ⟨16, fun v _ => v = .string PC, fun _ _ _ _ h => h⟩, ⟨17, fun v _ => v = .string WD, fun _ _ _ _ h => h⟩, ⟨18, fun v _ => v = .string X18, fun _ _ _ _ h => h⟩, ⟨19, fun v _ => v = .string X19, fun _ _ _ _ h => h⟩] _ 10 (by kernel_rfl) rfl (by kernel_rfl) (by decide) (by kernel_rfl) (Below.drew (Below.refl _ _)) (fun _ _ _ h1 h2 => below_tr h1 h2) (fun QQ => ⟨?_, ?_, ?_, ?_, ?_, ?_, ?_, ?_, ?_, ?_, trivial⟩) (fun f wy hR hf A hA => ?_)
    · intro A wx hR hout hdep K hK
      have h5 : A.tmps[5]?.getD undef = .pointer (some ⟨w.heap.size + 1, 0, none⟩) := hout 5 (by kernel_rfl)
      refine if_yes (by kernel_rfl) ?_
      have o3 := keep_cell hR o3
      have o5 := keep_cell hR o5
      simp [go_sem, h5, o3, o5, hu64, a15, a18, a19]
      exact hK.out _ _ (Below.refl _ _) rfl
    · intro A wx hR hout hdep K hK
      have h3 : A.tmps[3]?.getD undef = .pointer (some ⟨w.heap.size, 0, none⟩) := hout 3 (by kernel_rfl)
      refine if_yes (by kernel_rfl) ?_
      have o3 := keep_cell hR o3
      have o5 := keep_cell hR o5
      simp [go_sem, h3, o3, o5, hu64, a15, a18, a19]
      exact hK.out _ _ (Below.refl _ _) rfl
    · intro A wx hR hout hdep K hK
      have h11 : A.tmps[11]?.getD undef = .int .u32 (A0 : Int) := hdep 11 (by kernel_rfl)
      refine if_yes (by kernel_rfl) ?_
      simp [go_sem, h11, hu64, a15, a18, a19]
      exact hK.out _ _ (Below.refl _ _) rfl
    · intro A wx hR hout hdep K hK
      have h12 : A.tmps[12]?.getD undef = .int .u64 (A0 : Int) := hdep 12 (by kernel_rfl)
      refine if_yes (by kernel_rfl) ?_
      simp [go_sem, h12, hu64, a15, a18, a19]
      refine ⟨trivial, (CallsIn.inRound lp (callsIn_wide.2 (K35.out wx))).mono ?_⟩
      rintro e wG ⟨rfl, hbG⟩
      exact hK.out _ _ hbG rfl
    · intro A wx hR hout hdep K hK
      have h13 : A.tmps[13]?.getD undef = .string PB := hdep 13 (by kernel_rfl)
      refine if_yes (by kernel_rfl) ?_
      simp [go_sem, h13, hu64, a15, a18, a19]
      refine ⟨trivial, (CallsIn.inRound lp (callsIn_wide.2 (K34.out wx))).mono ?_⟩
      rintro e wG ⟨rfl, hbG⟩
      exact hK.out _ _ hbG rfl
    · intro A wx hR hout hdep K hK
      have h14 : A.tmps[14]?.getD undef = .string HX := hdep 14 (by kernel_rfl)
      refine if_yes (by kernel_rfl) ?_
      simp [go_sem, h14, hu64, a15, a18, a19]
      exact hK.out _ _ (Below.refl _ _) rfl
    · intro A wx hR hout hdep K hK
      have h6 : A.tmps[6]?.getD undef = .string PC := hout 6 (by kernel_rfl)
      refine if_yes (by kernel_rfl) ?_
      simp [go_sem, h6, hu64, a15, a18, a19]
      exact hK.out _ _ (Below.refl _ _) rfl
    · intro A wx hR hout hdep K hK
      have h16 : A.tmps[16]?.getD undef = .string PC := hdep 16 (by kernel_rfl)
      refine if_yes (by kernel_rfl) ?_
      simp [go_sem, h16, hu64, a15, a18, a19]
      refine ⟨trivial, (CallsIn.inRound lp (callsIn_wide.2 (K36.out wx (below_tr HLX.out hR)))).mono ?_⟩
      rintro e wG ⟨rfl, hbG⟩
      exact hK.out _ _ hbG rfl
    · intro A wx hR hout hdep K hK
      have h15 : A.tmps[15]?.getD undef = .string X15 := hdep 15 (by kernel_rfl)
      have h17 : A.tmps[17]?.getD undef = .string WD := hdep 17 (by kernel_rfl)
      refine if_yes (by kernel_rfl) ?_
      simp [go_sem, h15, h17, hu64, a15, a18, a19]
      exact hK.out _ _ (Below.refl _ _) rfl
    · intro A wx hR hout hdep K hK
      have h18 : A.tmps[18]?.getD undef = .string X18 := hdep 18 (by kernel_rfl)
      refine if_yes (by kernel_rfl) ?_
      simp [go_sem, h18, hu64, a15, a18, a19]
      exact hK.out _ _ (Below.refl _ _) rfl
    have hv10 : f 10 = .slice sa n0 sc := hf 10 (by kernel_rfl)
    have hv19 : f 19 = .string X19 := hf 19 (by kernel_rfl)
    simp only [putSl, List.take_succ_cons, List.take_zero, Act.put, List.setIfInBounds_toArray, List.set_cons_zero, List.set_cons_succ, hv10, hv19] at hA
    subst hA
    obtain ⟨j1, j2, j3, j4, j5, j6⟩ := HII.out
    have how := own_keep1 j3 hR
    have k1 : Boxed wy w.heap.size 27 (.int .u32 (A0 : Int)) := (hR.block _ j1.lt).trans j1
    have k2 : Boxed wy (w.heap.size + 1) 34 (.slice sa n0 sc) := (hR.block _ j2.lt).trans j2
    have k4 : Boxed wy BP 9 (.string S) := (hR.block _ j4.lt).trans j4
    have k5 := below_tr j5 hR
    refine wpAnyIn_ready (rs := [10]) (by kernel_rfl) (by simp) ?_
    refine AllReadyIn.cons rfl (fun K hK => ?_) AllReadyIn.nil
    refine if_yes (by kernel_rfl) ?_
    refine wpIn_append_own_str wy (.tmp 10) (.tmp 19) 34 9 rfl w.heap.size 5 i0 Tryd.underlying34 Tryd.underlying9 HI.out.1 HI.out.2.1 HI.out.2.2.1 HI.out.2.2.2 _ n0 _ rfl how X19 rfl HSZ.out k5.size ?_
    intro v' w2 how2 hgr2
    refine hK _ _ ?_
    clear hK K
    obtain ⟨sa2, sc2, rfl⟩ := own_shape1 how2
    have m1 := k1.kept hgr2 (not_own how k1 (by decide))
    have m2 := k2.kept hgr2 (not_own how k2 (by decide))
    have m4 := k4.kept hgr2 (not_own how k4 (by decide))
    have m5 : Below w.heap.size w w2 := k5.grown hgr2 k5.size (fun r e => own_ge1 how r e)
    have g3 := grown_set w2 (w.heap.size + 1) (.slice sa2 (n0 + X19.size) sc2)
    have q0 := m2.cell
    have q1 := m2.frozen
    obtain ⟨w3, hw3⟩ : ∃ z, w2.setCell ⟨w.heap.size + 1, 0, none⟩ (.slice sa2 (n0 + X19.size) sc2) = z := ⟨_, rfl⟩
    have n2 := Boxed.set (.slice sa2 (n0 + X19.size) sc2) m2
    rw [hw3] at g3 n2
    have n1 := m1.kept g3 (by intro e; injection e with e; omega)
    have n4 := m4.kept g3 (by intro e; injection e with e; have := HW3.out.2.1; omega)
    have n3 := own_block1 how2 m2 (by decide) g3
    have n5 : Below w.heap.size w w3 := m5.grown g3 m5.size (fun r e => by injection e with e; omega)
    have hko : KeepsOthers Wx w3 := ((KeepsOthers.of_below hR).trans (KeepsOthers.of_grownBy hgr2 (fun jj o e ho => own_kind1 how e ho))).trans (by rw [← hw3]; exact KeepsOthers.setCell _ _ _)
    obtain ⟨A1, hA1⟩ : ∃ z, z = (A0 + 4) % 4294967296 := ⟨_, rfl⟩
    have hA1i : ((A0 : Int) + 4) % 4294967296 = (A1 : Int) := by omega
    have g4 := grown_set w3 w.heap.size (.int .u32 (A1 : Int))
    have p0 := n1.cell
    have p1 := n1.frozen
    obtain ⟨w4, hw4⟩ : ∃ z, w3.setCell ⟨w.heap.size, 0, none⟩ (.int .u32 (A1 : Int)) = z := ⟨_, rfl⟩
    have r1 := Boxed.set (.int .u32 (A1 : Int)) n1
    rw [hw4] at g4 r1
    have HEE : Hid (KeepsFrom W3.heap.size Wx w4 ∧ w4.cell? ⟨BP, 0, none⟩ = Wx.cell? ⟨BP, 0, none⟩ ∧ (fun (pre : List L8) (Wx : World) => LsI w S l a BP W3.heap.size pre Wx) (pre ++ [x]) w4) := by
      obtain ⟨hJ1, hJ2, hJ3, hJ4⟩ := HJ.out
      have r4 := n4.kept g4 (by intro e; injection e with e; have := HW3.out.2.1; omega)
      refine ⟨(hko.trans (by rw [← hw4]; exact KeepsOthers.setCell _ _ _)).from _, r4.cell.trans j4.cell.symm, j + 1, _, by rw [cks_snoc, hJ1, hJ2], ?_, n2.kept g4 (by intro e; injection e with e; omega), ?_, r4, n5.grown g4 n5.size (fun r e => by injection e with e; omega), ?_⟩
      · rw [show (a + 4 * (j + 1)) % 4294967296 = A1 by omega]; exact r1
      · have h := own_block1 n3 n1 (by decide) g4
        have hsz : X19.size = (lnL l a j).length := by rw [HX19.out]; show Array.size _ = _; simp
        rw [outL_snoc, List.length_append, ← hJ3, ← hsz]
        have e : cellsB (outL l a j ++ lnL l a j) = cellsB (outL l a j) ++ Go.Lib.strCells X19 := by
          rw [HX19.out, str_cells]
          unfold cellsB
          rw [List.map_append]
        rw [e]
        exact h
      · have h1 := hR.size; have h2 := hgr2.size; have h3 := g3.size; have h4 := g4.size
        omega
    clear how how2 k1 k2 k4 k5 m1 m2 m4 m5 g3 n2 n1 n4 n3 n5 hko g4 r1 hA1 hf hv10 hv19 j1 j2 j3 j4 j5 j6 hgr2
    simp only [Act.put, List.setIfInBounds_toArray, List.set_cons_zero, List.set_cons_succ]
    refine wpAnyIn_ready (rs := [11]) (by kernel_rfl) (by simp) ?_
    refine AllReadyIn.cons rfl (fun K hK => ?_) AllReadyIn.nil
    refine if_yes (by kernel_rfl) ?_
    simp [go_sem, q0, q1, hw3]
    refine hK _ _ ?_
    refine wpAnyIn_done (by kernel_rfl) ?_ _
    clear hK K q0 q1 hw3 hR
    gi_wp2
    exact HEE.out
  case done =>
    rintro D xs Wx hD rfl ⟨j, vs, e1, e2, e3, e4, e5, e6, e7⟩ hK
    have ejj : j = ckN l := by
      have := congrArg List.length e1
      simpa [cks] using this.symm
    rw [ejj, ← HFR.out] at e4
    have o5 := e3.cell
    have hcv := own_text e4
    clear ejj e1 e4
    go_wp2
    refine ⟨by simp, .inl ⟨_, _, rfl, run_takeDeferred hK, ?_⟩⟩
    exact ⟨_, results_tmp rfl _ _ _, rfl, e6.trans (belowK_b (w := w) (Nat.le_refl _) Wx D _ _ (by have := HW3.out.1.size; omega) hK rfl rfl)⟩
  case stop =>
    rintro D c pre Wx _ _ h _
    exact h.elim
end Go.Proofs.YtglkkeelocdanaaDoor
