/- What is proved here: an instruction as text: the program's Line. -/
import Derived.Test.YtglkkeelocdanaaDoorNg
import Derived.Test.YtglkkeelocdanaaDoorPs
import Derived.Test.YtglkkeelocdanaaDoorEach
namespace Go.Proofs.YtglkkeelocdanaaDoor
open Go.RowKit
set_option linter.unusedVariables false
set_option linter.unusedSimpArgs false
set_option maxRecDepth 100000
attribute [local go_sem] Oper.semAt_some
/-- An instruction's block. -/
def In6 (i : In) (b : Nat) (w : World) : Prop := w.heap[b]? = some (.cells #[.string i.name, .int .i64 i.rs, .int .i64 i.rt, .int .i64 i.rd, .int .i64 i.sa, .int .u32 (i.imm : Int)] 29 (0, 0))
theorem In6.lt {i : In} {b : Nat} {w : World} (h : In6 i b w) : b < w.heap.size := (Array.getElem?_eq_some_iff.1 h).1
theorem In6.cells {i : In} {b : Nat} {w : World} (h : In6 i b w) : w.cell? ⟨b, 0, none⟩ = some (.string i.name) ∧ w.cell? ⟨b, 1, none⟩ = some (.int .i64 i.rs) ∧ w.cell? ⟨b, 2, none⟩ = some (.int .i64 i.rt) ∧ w.cell? ⟨b, 3, none⟩ = some (.int .i64 i.rd) ∧ w.cell? ⟨b, 4, none⟩ = some (.int .i64 i.sa) ∧ w.cell? ⟨b, 5, none⟩ = some (.int .u32 (i.imm : Int)) := by
  have h' : w.heap[b]? = _ := h
  refine ⟨?_, ?_, ?_, ?_, ?_, ?_⟩ <;> simp [World.cell?, h']
theorem In6.frozen {i : In} {b : Nat} {w : World} (h : In6 i b w) (k : Nat) : w.frozen? ⟨b, k, none⟩ = false := by
  have h' : w.heap[b]? = _ := h
  simp [World.frozen?, h']
theorem In6.row {i : In} {b : Nat} {w w' : World} {row : Option Nat} (h : In6 i b w) (hg : w.grownBy w' row) (hr : some b ≠ row) : In6 i b w' := (hg.block b h.lt hr).trans h
theorem In6.keep {i : In} {b : Nat} {w w' : World} (h : In6 i b w) (hb : Below w.heap.size w w') : In6 i b w' := (hb.block b h.lt).trans h
theorem In6.new (i : In) (w : World) : In6 i w.heap.size (w.alloc (.cells #[.string i.name, .int .i64 i.rs, .int .i64 i.rt, .int .i64 i.rd, .int .i64 i.sa, .int .u32 (i.imm : Int)] 29)) := World.alloc_heap_new w _
theorem not_cells_row {W : World} {b : Nat} {cs : Array Value} {t : Nat} {z : Nat × Nat} {row : Option Nat} (h : W.heap[b]? = some (.cells cs t z)) (hr : ∀ r, row = some r → ∃ o : Obj, W.heap[r]? = some o ∧ o.isCells = false) : some b ≠ row := by
  intro e
  obtain ⟨o, h1, h2⟩ := hr b e.symm
  rw [h] at h1
  cases h1
  simp [Obj.isCells] at h2
theorem KeepsOthers.of_below {W W' : World} (h : Below W.heap.size W W') : KeepsOthers W W' := ⟨h.size, fun k o hk _ => (h.block k (Array.getElem?_eq_some_iff.1 hk).1).trans hk⟩
theorem dec_len : ∀ u, (Lib.decDigits u).length ≤ u + 1 := by
  intro u
  induction u using Nat.strongRecOn with
  | ind u ih =>
    rw [Lib.decDigits]
    split
    · simp
    · have := ih (u / 10) (by omega)
      rw [List.length_append, List.length_singleton]
      omega
theorem itoa_len (n : Int) : (Lib.itoa n).length ≤ n.natAbs + 2 := by
  unfold Lib.itoa
  split
  · have := dec_len n.natAbs
    rw [List.length_cons]; omega
  · have := dec_len n.toNat
    omega
theorem told_len (i : In) (hb : Bd i) (x : L8) : (toldL i x).length ≤ 67108870 * x.length := by
  have b1 := hb.rs; have b2 := hb.rt; have b3 := hb.rd; have b4 := hb.sa; have b5 := hb.imm
  unfold toldL
  split
  · rename_i h; rw [h]; have := itoa_len i.rs; simp only [List.length_singleton]; omega
  split
  · rename_i h; rw [h]; have := itoa_len i.rt; simp only [List.length_singleton]; omega
  split
  · rename_i h; rw [h]; have := itoa_len i.rd; simp only [List.length_singleton]; omega
  split
  · rename_i h; rw [h]; have := itoa_len i.sa; simp only [List.length_singleton]; omega
  split
  · rename_i h; rw [h]; have := itoa_len (sgn i.imm)
    have : -32768 ≤ sgn i.imm ∧ sgn i.imm < 32768 := by unfold sgn; split <;> omega
    simp only [List.length_singleton]; omega
  split
  · rename_i h; rw [h]; have := itoa_len (i.imm : Int); simp only [List.length_singleton]; omega
  · omega
theorem flat_len (i : In) (hb : Bd i) : ∀ xs : List L8, (xs.flatMap (toldL i)).length ≤ 67108870 * xs.flatten.length
  | [] => by simp
  | x :: t => by
    have h1 := told_len i hb x
    have h2 := flat_len i hb t
    rw [List.flatMap_cons, List.length_append, List.flatten_cons, List.length_append]
    omega
theorem ptR_flat : ∀ (l acc : L8), (ptR acc l).flatten = acc ++ l
  | [], acc => by
    rw [ptR]
    split
    · rename_i h; rw [h]; rfl
    · simp
  | c :: t, acc => by
    rw [ptR]
    split
    · have h := ptR_flat t []
      rw [List.flatten_append, List.flatten_cons, h]
      split
      · rename_i h; rw [h]; rfl
      · simp
    · rw [ptR_flat t, List.append_assoc]; rfl
theorem names_len : rowsL.all (fun r => decide (r.name.toList.length ≤ 16)) = true := by decide +kernel
/-- How long what is written at most is. -/
theorem out_len {i : In} (h : isIns i = true) (PT : L8) (hp : PT.length ≤ 20) (ys suf : List L8) (hy : ys ++ suf = partsL PT) : (i.name.toList ++ ys.flatMap (toldL i)).length ≤ 1342177500 := by
  obtain ⟨a, ha, p⟩ := in_p h
  have h1 : i.name.toList.length ≤ 16 := by rw [p.name]; exact of_decide_eq_true (List.all_eq_true.1 names_len _ (List.getElem_mem ha))
  have h2 := flat_len i (in_bd h) ys
  have h3 : (partsL PT).flatten = PT := by unfold partsL; rw [ptR_flat]; rfl
  rw [← hy, List.flatten_append] at h3
  have h4 := congrArg List.length h3
  rw [List.length_append] at h4
  rw [List.length_append]
  have h5 : 67108870 * ys.flatten.length ≤ 67108870 * 20 := Nat.mul_le_mul_left _ (by omega)
  omega
theorem ba_app (a b : L8) : (⟨a.toArray⟩ : ByteArray) ++ ⟨b.toArray⟩ = ⟨(a ++ b).toArray⟩ := by
  apply ByteArray.ext
  simp
theorem pat_size (n f : L8) (b : Bool) : (patL n f b).length ≤ 20 := by
  have h1 : ∀ (c : Bool) (x y : L8), x.length ≤ 20 → y.length ≤ 20 → (if c = true then x else y).length ≤ 20 := fun c x y hx hy => by cases c; exact hy; exact hx
  unfold patL
  iterate 21 (refine h1 _ _ _ (by first | decide | (cases b <;> decide)) ?_)
  decide
set_option maxHeartbeats 1000000 in
theorem line9 (i : In) (hi : i.imm < 4294967296) (w : World) (hl : Lw w) : Calls Tryd.prog 7 #[i.val] w fun e w' => e = .returned (.string ⟨(lineL i).toArray⟩) ∧ Below w.heap.size w w' := by
  obtain ⟨W, hW⟩ : ∃ z, w.alloc (.cells #[.string i.name, .int .i64 i.rs, .int .i64 i.rt, .int .i64 i.rd, .int .i64 i.sa, .int .u32 (i.imm : Int)] 29) = z := ⟨_, rfl⟩
  have hb : Below w.heap.size w W := by rw [← hW]; exact (Below.refl _ _).alloc (Nat.le_refl _) _
  have hz : W.heap.size = w.heap.size + 1 := by rw [← hW]; simp
  have I0 : In6 i w.heap.size W := by rw [← hW]; exact In6.new i w
  obtain ⟨d0, d1, d2, d3, d4, d5⟩ := I0.cells
  have K21 := encode11 i hi W (hl.keep hb).tab
  have HB : Hid (Below w.heap.size w W ∧ W.heap.size = w.heap.size + 1 ∧ In6 i w.heap.size W) := ⟨hb, hz, I0⟩
  have HL : Hid (Lw w) := hl
  unfold In.val at K21 ⊢
  clear hb I0 hl hz
  cases hins : isIns i with
  | false =>
    rw [hins] at K21
    have e0 : lineL i = [] := by unfold lineL; rw [hins]; rfl
    rw [e0]
    go_enter Tryd.func7, Tryd.ntmps7
    go_wp2_with fail
    refine K21.mono ?_
    rintro e w1 ⟨rfl, hb1⟩
    go_wp2
    go_ret
    exact ⟨rfl, below_tr HB.out.1 hb1⟩
  | true =>
    rw [hins] at K21
    have hbd := in_bd hins
    have HINS : Hid (isIns i = true) := hins
    have HE : Hid (lineL i = i.name.toList ++ (partsL (patL i.name.toList (formL8 i.name) (i.imm == 0))).flatMap (toldL i)) := by show _ = _; unfold lineL tailL; rw [hins]; rfl
    obtain ⟨LN, hLN⟩ : ∃ z, z = lineL i := ⟨_, rfl⟩
    rw [← hLN] at HE ⊢
    clear hLN
    have K23 : Hid (∀ w', Calls Tryd.prog 17 #[.string i.name, .bool (i.imm == 0)] w' fun e w'' => e = .returned (.string ⟨(patL i.name.toList (formL8 i.name) (i.imm == 0)).toArray⟩) ∧ Below w'.heap.size w' w'') := fun w' => pattern23 i.name _ w'
    have K24 : Hid (∀ (x : ByteArray) w', Below w.heap.size w w' → Calls Tryd.prog 18 #[.agg #[.string i.name, .int .i64 i.rs, .int .i64 i.rt, .int .i64 i.rd, .int .i64 i.sa, .int .u32 (i.imm : Int)], .string x] w' fun e w'' => e = .returned (.string ⟨(toldL i x.toList).toArray⟩) ∧ Below w'.heap.size w' w'') := fun x w' h => told24 i hbd x w' (HL.out.keep h)
    have hps := pat_size i.name.toList (formL8 i.name) (i.imm == 0)
    obtain ⟨PT, hPT⟩ : ∃ z, z = patL i.name.toList (formL8 i.name) (i.imm == 0) := ⟨_, rfl⟩
    rw [← hPT] at K23 HE hps
    have HPS : Hid (PT.length ≤ 20) := hps
    have hbz : (i.imm == 0) = ((i.imm : Int) == 0) := by rw [Bool.eq_iff_iff]; simp
    rw [hbz] at K23
    clear hPT hbd hps hbz
    refine callsIn_wide.1 (callsIn_of_wp_marks (F := Fence.wide) (n := 3) Tryd.func7 rfl trivial ?_ rfl)
    simp only [Tryd.ntmps7, List.size_toArray, List.length_cons, List.length_nil, Nat.reduceAdd, Nat.reduceSub, Array.replicate_succ, Array.replicate_zero, List.push_toArray, List.append_toArray, List.nil_append, List.cons_append]
    refine wpIn_wide.2 ?_
    go_wp2_with fail
    refine K21.mono ?_
    rintro e w1 ⟨rfl, hb1⟩
    clear K21
    have d0 := keep_cell hb1 d0
    have d5 := keep_cell hb1 d5
    obtain ⟨W2, hW2⟩ : ∃ z, w1.alloc (.cells #[.string i.name] 9) = z := ⟨_, rfl⟩
    have hb2 : Below w1.heap.size w1 W2 := by rw [← hW2]; exact (Below.refl _ _).alloc (Nat.le_refl _) _
    obtain ⟨OB, hOB⟩ : ∃ z, z = w1.heap.size := ⟨_, rfl⟩
    have BO : Boxed W2 OB 9 (.string i.name) := by rw [← hW2, hOB]; exact Boxed.new w1 9 _
    have d0 := keep_cell hb2 d0
    have d5 := keep_cell hb2 d5
    go_wp2_with fail
    have HB2 : Hid (Below w.heap.size w W2 ∧ OB < W2.heap.size ∧ w.heap.size < OB) := by
      have h1 := hb1.size; have h2 := HB.out.2.1; have h3 := BO.lt
      exact ⟨below_tr HB.out.1 (below_tr hb1 hb2), h3, by omega⟩
    have HI2 : Hid (In6 i w.heap.size W2) := HB.out.2.2.keep (below_tr hb1 hb2)
    have HBO : Hid (Boxed W2 OB 9 (.string i.name)) := BO
    rw [← hOB]
    clear hW2 hb1 hb2 BO
    refine (K23.out W2).mono ?_
    rintro e w3 ⟨rfl, hb3⟩
    have K22 := parts22 ⟨PT.toArray⟩ w3
    have HB3 : Hid (Below W2.heap.size W2 w3) := hb3
    clear K23 hb3 hOB
    go_wp2_with fail
    refine K22.mono ?_
    rintro e w4 ⟨rfl, rfl⟩
    clear K22
    obtain ⟨W4, hW4⟩ : ∃ z, w3.alloc (.cells #[.string ⟨PT.toArray⟩] 9) = z := ⟨_, rfl⟩
    have hb4 : Below w3.heap.size w3 W4 := by rw [← hW4]; exact (Below.refl _ _).alloc (Nat.le_refl _) _
    have hs4 : W4.heap.size = w3.heap.size + 1 := by rw [← hW4]; simp
    have c4 : W4.cell? ⟨w3.heap.size, 0, none⟩ = some (.string ⟨PT.toArray⟩) := by rw [← hW4]; exact (Boxed.new w3 9 _).cell
    obtain ⟨BP, hBP⟩ : ∃ z, w3.heap.size = z := ⟨_, rfl⟩
    have hseq := (parts_next (3 - 1) (by omega) ⟨PT.toArray⟩ (by show PT.toArray.size ≤ _; have := HPS.out; simp; omega) w3.heap.size W4 c4).next
    rw [bal] at hseq
    rw [hBP] at hseq c4 hs4
    have HW4 : Hid (Below w.heap.size w W4 ∧ Below W2.heap.size W2 W4 ∧ BP < W4.heap.size ∧ W2.heap.size ≤ BP) := ⟨below_tr HB2.out.1 (below_tr HB3.out hb4), below_tr HB3.out hb4, by omega, by rw [← hBP]; exact HB3.out.size⟩
    go_wp2
    try rw [hW4]
    try rw [hBP]
    clear hb4 hs4 hW4 hBP HB3
    refine wpIn_wide.1 (wpIn_range_next (n := 3) (by omega) (gf := 38) rfl (enters_of Tryd.func38 (by kernel_rfl) rfl)
      hseq (fun h1 h2 => h2.trans h1) (fun W' l' o o' hl' _ _ _ => ?hkb) (Below.refl _ _) (fun _ => rfl)
      (fun pre Wx => Below w.heap.size w Wx ∧ W4.heap.size ≤ Wx.heap.size ∧ In6 i w.heap.size Wx ∧ Boxed Wx OB 9 (.string ⟨(i.name.toList ++ pre.flatMap (toldL i)).toArray⟩))
      (fun c pre Wx => False)
      (fun pre A C row hh hgr hrr => ?hI)
      (fun c pre A C row hh hgr hrr => hh)
      ⟨HW4.out.1, Nat.le_refl _, HI2.out.keep HW4.out.2.1, ?h0⟩
      (fun x a' Wx => ∃ v0 v2 v3 v4 v7 v8 v9 v10 v11 v12 v13 v14 v15 v16 v17 v18 v19 v20 v21 v22 v23, a' = { tmps := #[v0, .pointer (some ⟨w.heap.size, 0, none⟩), v2, v3, v4, .pointer (some ⟨OB, 0, none⟩), .string ⟨x.toArray⟩, v7, v8, v9, v10, v11, v12, v13, v14, v15, v16, v17, v18, v19, v20, v21, v22, v23, undef, undef, undef, undef, undef, undef], defers := [] })
      (fun x a' s A C row hh hgr hrr => hh) ?assign ?body ?done ?stop)
    case hkb =>
      exact World.cell?_of_block (World.putObj_heap_other (by have := HW4.out.2.2.1; simp; omega))
    case h0 =>
      rw [List.flatMap_nil, List.append_nil, ba_list]
      exact (HW4.out.2.1.block _ HB2.out.2.1).trans HBO.out
    case hI =>
      obtain ⟨e1, e2, e3, e4⟩ := hh
      have hn := not_cells_row e3 (fun r e => (hrr r e).2)
      have hn2 := not_cells_row e4 (fun r e => (hrr r e).2)
      exact ⟨e1.grown hgr e1.size (fun r e => by have := (hrr r e).1; have := HW4.out.1.size; omega), Nat.le_trans e2 hgr.size, e3.row hgr hn, e4.kept hgr hn2⟩
    case assign =>
      intro l pre x Wx K hnx hi hK
      simp only [encS]
      gi_wp2
      exact hK _ _ (KeepsFrom.refl _ _) rfl hi ⟨_, _, _, _, _, _, _, _, _, _, _, _, _, _, _, _, _, _, _, _, _, rfl⟩
    case body =>
      rintro l pre x a' Wx hnx ⟨i1, i2, i3, i4⟩ ⟨v0, v2, v3, v4, v7, v8, v9, v10, v11, v12, v13, v14, v15, v16, v17, v18, v19, v20, v21, v22, v23, rfl⟩
      obtain ⟨e0, e1, e2, e3, e4, e5⟩ := i3.cells
      obtain ⟨X, hX⟩ : ∃ z : ByteArray, z = ⟨x.toArray⟩ := ⟨_, rfl⟩
      obtain ⟨OUT, hOUT⟩ : ∃ z : ByteArray, z = ⟨(i.name.toList ++ pre.flatMap (toldL i)).toArray⟩ := ⟨_, rfl⟩
      obtain ⟨T, hT⟩ : ∃ z : ByteArray, z = ⟨(toldL i X.toList).toArray⟩ := ⟨_, rfl⟩
      have K24 : Hid (∀ w', Below w.heap.size w w' → Calls Tryd.prog 18 #[.agg #[.string i.name, .int .i64 i.rs, .int .i64 i.rt, .int .i64 i.rd, .int .i64 i.sa, .int .u32 (i.imm : Int)], .string X] w' fun e w'' => e = .returned (.string T) ∧ Below w'.heap.size w' w'') := by rw [hT]; exact fun w' h => K24.out X w' h
      have HSN : Hid (OUT ++ T = ⟨(i.name.toList ++ (pre ++ [x]).flatMap (toldL i)).toArray⟩) := by
        show _ = _
        rw [hOUT, hT, ba_app, hX, bal, List.flatMap_append]
        simp
      rw [← hOUT] at i4
      rw [← hX]
      have hadd : ∀ wx, (Op.stringOp .add OUT T).run Tryd.prog wx = .ok (.string (OUT ++ T)) wx := fun wx => by
        obtain ⟨suf, hsuf⟩ := hnx
        have h := out_len HINS.out PT HPS.out (pre ++ [x]) suf (by rw [List.append_assoc]; exact hsuf)
        have h2 : OUT.size + T.size = (i.name.toList ++ (pre ++ [x]).flatMap (toldL i)).length := by
          have := congrArg ByteArray.size HSN.out
          rw [ByteArray.size_append] at this
          rw [this]
          show Array.size _ = _
          simp
        exact run_string_add_sum wx OUT T (by omega)
      have o5 := i4.cell
      have HLX : Hid (Below w.heap.size w Wx) := i1
      have HII : Hid (Below w.heap.size w Wx ∧ W4.heap.size ≤ Wx.heap.size ∧ In6 i w.heap.size Wx ∧ Boxed Wx OB 9 (.string OUT)) := ⟨i1, i2, i3, i4⟩
      clear i1 i2 i3 i4 hX hOUT hT hnx
      gi_wp2
      refine wpIn_region_cut (R := Ext) [⟨24, fun v _ => v = .string OUT, fun _ _ _ _ h => h⟩, ⟨25, fun v _ => v = .agg #[.string i.name, .int .i64 i.rs, .int .i64 i.rt, .int .i64 i.rd, .int .i64 i.sa, .int .u32 (i.imm : Int)], fun _ _ _ _ h => h⟩, ⟨26, fun v _ => v = .string X, fun _ _ _ _ h => h⟩, ⟨27, fun v _ => v = .string T, fun _ _ _ _ h => h⟩, ⟨28, fun v _ => v = .string (OUT ++ T), fun _ _ _ _ h => h⟩] _ 5 (by kernel_rfl) rfl (by kernel_rfl) (by decide) (by kernel_rfl) (Below.drew (Below.refl _ _)) (fun _ _ _ h1 h2 => below_tr h1 h2) (fun QQ => ⟨?_, ?_, ?_, ?_, ?_, trivial⟩) (fun f wy hR hf A hA => ?_)
      · intro A wx hR hout hdep K hK
        have h5 : A.tmps[5]?.getD undef = .pointer (some ⟨OB, 0, none⟩) := hout 5 (by kernel_rfl)
        refine if_yes (by kernel_rfl) ?_
        have e0 := keep_cell hR e0
        have e1 := keep_cell hR e1
        have e2 := keep_cell hR e2
        have e3 := keep_cell hR e3
        have e4 := keep_cell hR e4
        have e5 := keep_cell hR e5
        have o5 := keep_cell hR o5
        simp [go_sem, h5, e0, e1, e2, e3, e4, e5, o5, hadd]
        exact hK.out _ _ (Below.refl _ _) rfl
      · intro A wx hR hout hdep K hK
        have h1 : A.tmps[1]?.getD undef = .pointer (some ⟨w.heap.size, 0, none⟩) := hout 1 (by kernel_rfl)
        refine if_yes (by kernel_rfl) ?_
        have e0 := keep_cell hR e0
        have e1 := keep_cell hR e1
        have e2 := keep_cell hR e2
        have e3 := keep_cell hR e3
        have e4 := keep_cell hR e4
        have e5 := keep_cell hR e5
        have o5 := keep_cell hR o5
        simp [go_sem, h1, e0, e1, e2, e3, e4, e5, o5, hadd]
        exact hK.out _ _ (Below.refl _ _) rfl
      · intro A wx hR hout hdep K hK
        have h6 : A.tmps[6]?.getD undef = .string X := hout 6 (by kernel_rfl)
        refine if_yes (by kernel_rfl) ?_
        simp [go_sem, h6, hadd]
        exact hK.out _ _ (Below.refl _ _) rfl
      · intro A wx hR hout hdep K hK
        have h25 : A.tmps[25]?.getD undef = .agg #[.string i.name, .int .i64 i.rs, .int .i64 i.rt, .int .i64 i.rd, .int .i64 i.sa, .int .u32 (i.imm : Int)] := hdep 25 (by kernel_rfl)
        have h26 : A.tmps[26]?.getD undef = .string X := hdep 26 (by kernel_rfl)
        refine if_yes (by kernel_rfl) ?_
        simp [go_sem, h25, h26, hadd]
        refine ⟨trivial, (CallsIn.inRound l (callsIn_wide.2 (K24.out wx (below_tr HLX.out hR)))).mono ?_⟩
        rintro e wG ⟨rfl, hbG⟩
        exact hK.out _ _ hbG rfl
      · intro A wx hR hout hdep K hK
        have h24 : A.tmps[24]?.getD undef = .string OUT := hdep 24 (by kernel_rfl)
        have h27 : A.tmps[27]?.getD undef = .string T := hdep 27 (by kernel_rfl)
        refine if_yes (by kernel_rfl) ?_
        simp [go_sem, h24, h27, hadd]
        exact hK.out _ _ (Below.refl _ _) rfl
      have hv28 : f 28 = .string (OUT ++ T) := hf 28 (by kernel_rfl)
      simp only [putSl, List.take_succ_cons, List.take_zero, Act.put, List.setIfInBounds_toArray, List.set_cons_zero, List.set_cons_succ, hv28] at hA
      subst hA
      obtain ⟨j1, j2, j3, j4⟩ := HII.out
      have k4 : Boxed wy OB 9 (.string OUT) := (hR.block _ j4.lt).trans j4
      have q0 := k4.cell
      have q1 := k4.frozen
      refine wpAnyIn_ready (rs := [5]) (by kernel_rfl) (by simp) ?_
      refine AllReadyIn.cons rfl (fun K hK => ?_) AllReadyIn.nil
      refine if_yes (by kernel_rfl) ?_
      have HEE : Hid (KeepsFrom W4.heap.size Wx (wy.setCell ⟨OB, 0, none⟩ (.string (OUT ++ T))) ∧ (wy.setCell ⟨OB, 0, none⟩ (.string (OUT ++ T))).cell? ⟨BP, 0, none⟩ = Wx.cell? ⟨BP, 0, none⟩ ∧ (fun (pre : List L8) (Wx : World) => Below w.heap.size w Wx ∧ W4.heap.size ≤ Wx.heap.size ∧ In6 i w.heap.size Wx ∧ Boxed Wx OB 9 (.string ⟨(i.name.toList ++ pre.flatMap (toldL i)).toArray⟩)) (pre ++ [x]) (wy.setCell ⟨OB, 0, none⟩ (.string (OUT ++ T)))) := by
        have h1 := hR.size
        have h2 := HW4.out.2.2.1
        have h3 := HW4.out.2.2.2
        have h4 := HB2.out.2.1
        have h5 := HB2.out.2.2
        have g1 := grown_set wy OB (.string (OUT ++ T))
        have s1 := g1.size
        refine ⟨((KeepsOthers.of_below hR).trans (KeepsOthers.setCell _ _ _)).from _, ?_, (below_tr j1 hR).setCell (by show w.heap.size ≤ OB; omega) _, by omega, (j3.keep hR).row g1 (by intro e; injection e with e; omega), ?_⟩
        · rw [World.cell?_setCell_other _ _ _ _ (by intro e; injection e with e; omega)]
          exact hR.cell (p := ⟨BP, 0, none⟩) (by show BP < _; omega)
        · rw [← HSN.out]
          exact Boxed.set _ k4
      simp [go_sem, q0, q1]
      refine hK _ _ ?_
      refine wpAnyIn_done (by kernel_rfl) ?_ _
      exact HEE.out
    case done =>
      rintro D xs Wx hD rfl ⟨i1, i2, i3, i4⟩ hK
      have o5 := i4.cell
      have HLE : Hid (LN = i.name.toList ++ (partsL PT).flatMap (toldL i)) := HE.out
      rw [← HLE.out] at i4 o5
      go_wp2
      refine ⟨by simp, .inl ⟨_, _, rfl, run_takeDeferred hK, ?_⟩⟩
      refine ⟨_, results_tmp rfl _ _ _, rfl, i1.trans (belowK_b (w := w) (Nat.le_refl _) Wx D _ _ (by have := HW4.out.1.size; omega) hK rfl rfl)⟩
    case stop =>
      rintro D c pre Wx _ _ h _
      exact h.elim
end Go.Proofs.YtglkkeelocdanaaDoor
