/- What is proved here: the words of a table of places, in plain words, and the function that reads one. -/
import Derived.Test.YtgdflobcbhnimaaGreatPze
import Derived.Test.YtgdflobcbhnimaaGreatPkj
import Derived.Test.YtgdflobcbhnimaaGreatSx
import Derived.Maps.Own
namespace Go.Proofs.YtgdflobcbhnimaaGreat
open Go.RowKit 
set_option linter.unusedVariables false
set_option linter.unusedSimpArgs false
set_option maxRecDepth 100000
theorem wds_at : ∀ (xs : List Nat) k (h : k < xs.length), ((wds xs).drop (4 * k)).take 4 = bN 4 xs[k]
  | a :: r, 0, _ => by
    show ((bN 4 a ++ wds r).drop 0).take 4 = bN 4 a
    rw [List.drop_zero, List.take_left' (bN_len 4 a)]
  | a :: r, k + 1, h => by
    show ((bN 4 a ++ wds r).drop (4 * (k + 1))).take 4 = bN 4 (r[k]'(by simpa using h))
    rw [show 4 * (k + 1) = (bN 4 a).length + 4 * k by rw [bN_len]; omega, ← List.drop_drop, List.drop_left]
    exact wds_at r k (by simpa using h)
theorem file_word {l : Lb} (h : FitP l) (k : Nat) (hk : k < l.lay.plW.length) : (l.file.drop (l.lay.at_ 8 + 4 * k)).take 4 = bN 4 (l.lay.plW[k]) := by
  have h1 := file_part h 8 (by decide)
  have e : l.lay.part 8 = wds l.lay.plW := rfl
  rw [e] at h1
  have hl := wds_len l.lay.plW
  rw [← wds_at l.lay.plW k hk, ← h1, List.drop_take, List.take_take, List.drop_drop]
  congr 1
  omega
theorem pl_len {l : Lb} (h : FitP l) : l.lay.plW.length = 2 + l.locals.length + l.global.toNat := by
  have g := h.g1
  have e : l.lay.plW = [0, 2147483648] ++ (l.locals.map l.lay.locW ++ (l.syms.drop (l.syms.length - l.global.toNat)).map l.lay.symV) := rfl
  rw [e]
  simp only [List.length_append, List.length_map, List.length_drop, List.length_cons, List.length_nil]
  omega
theorem pl_loc {l : Lb} (h : FitP l) (i : Nat) (hi : i < l.locals.length) (hk : 2 + i < l.lay.plW.length) : l.lay.plW[2 + i] = l.lay.locW l.locals[i] := by
  have e : l.lay.plW = [0, 2147483648] ++ (l.locals.map l.lay.locW ++ (l.syms.drop (l.syms.length - l.global.toNat)).map l.lay.symV) := rfl
  simp only [e]
  rw [List.getElem_append_right (by simp)]
  simp only [List.length_cons, List.length_nil]
  rw [List.getElem_append_left (by simp; omega), List.getElem_map]
  congr 2
  omega
theorem pl_sym {l : Lb} (h : FitP l) (i : Nat) (hi : i < l.lay.lastS.length) (hk : 2 + l.locals.length + i < l.lay.plW.length) : l.lay.plW[2 + l.locals.length + i] = l.lay.symV l.lay.lastS[i] := by
  have e : l.lay.plW = [0, 2147483648] ++ (l.locals.map l.lay.locW ++ l.lay.lastS.map l.lay.symV) := rfl
  simp only [e]
  rw [List.getElem_append_right (by simp; omega)]
  simp only [List.length_cons, List.length_nil]
  rw [List.getElem_append_right (by simp; omega), List.getElem_map]
  congr 2
  simp
  omega
theorem word_be {FB : ByteArray} {L : L8} (hF : FB.toList = L) (a v : Nat) (hv : (L.drop a).take 4 = bN 4 v) (hv2 : v < 4294967296) : W.beS (FB.extract a (a + 4)) = v ∧ (FB.extract a (a + 4)).size = 4 := by
  have e : FB.extract a (a + 4) = ⟨(bN 4 v).toArray⟩ := by
    rw [E.ext_list, hF, List.drop_take, show a + 4 - a = 4 by omega, hv]
  have hs : (⟨(bN 4 v).toArray⟩ : ByteArray).size = 4 := by
    show (bN 4 v).toArray.size = 4
    rw [List.size_toArray, bN_len]
  rw [e]
  refine ⟨?_, hs⟩
  unfold W.beS
  rw [if_pos (by rw [hs]; decide)]
  exact E.be4 v hv2
set_option maxHeartbeats 1000000 in
theorem word16 (FB : ByteArray) (A k v ps pa : Nat) (w : World) (hs : w.cell? ⟨ps, 0, none⟩ = some (.string FB)) (ha : w.cell? ⟨pa, 0, none⟩ = some (.int .i64 (A : Int))) (hk : A + 4 * k + 4 ≤ FB.size) (hz : FB.size ≤ 1000000)
    (hv : W.beS (FB.extract (A + 4 * k) (A + 4 * k + 4)) = v ∧ (FB.extract (A + 4 * k) (A + 4 * k + 4)).size = 4) (hv2 : v < 4294967296) :
    Calls Tryz.prog 16 #[.int .i64 (k : Int), .pointer (some ⟨ps, 0, none⟩), .pointer (some ⟨pa, 0, none⟩)] w fun e w' => e = .returned (.int .u32 (v : Int)) ∧ w' = w := by
  obtain ⟨X, hX⟩ : ∃ z, z = FB.extract (A + 4 * k) (A + 4 * k + 4) := ⟨_, rfl⟩
  rw [← hX] at hv
  have K17 := W.rbe_any X w (by rw [hv.2]; decide)
  rw [hv.1] at K17
  obtain ⟨K4, hK4⟩ : ∃ z, z = 4 * k := ⟨_, rfl⟩
  obtain ⟨B, hB⟩ : ∃ z, z = A + K4 := ⟨_, rfl⟩
  obtain ⟨B4, hB4⟩ : ∃ z, z = B + 4 := ⟨_, rfl⟩
  have HF : Hid (IntKind.i64.wrap (4 * (k : Int)) = (K4 : Int) ∧ IntKind.i64.wrap ((A : Int) + (K4 : Int)) = (B : Int) ∧ IntKind.i64.wrap ((B : Int) + 4) = (B4 : Int) ∧ B ≤ B4 ∧ B4 ≤ FB.size ∧ FB.extract B B4 = X ∧ IntKind.u32.wrap (v : Int) = (v : Int)) :=
    ⟨Sx.w64 (by omega) (by omega), Sx.w64 (by omega) (by omega), Sx.w64 (by omega) (by omega), by omega, by omega, by rw [hX, hB4, hB, hK4], Sx.w32 rfl hv2⟩
  clear hX hv hv2 hK4 hB hB4 hk hz
  go_enter Tryz.func16, Tryz.ntmps16
  go_upto_region 1 with fail
  refine wp_region_list ?_
  refine Sx.take (v := .string FB) (by kernel_rfl) ?_ ?_
  · have p_ := hs; go_simp
  simp only [Act.put, List.getElem_toArray, List.getElem_cons_zero, List.getElem_cons_succ, List.setIfInBounds_toArray, List.set_cons_zero, List.set_cons_succ]
  refine Sx.take (v := .int .i64 (A : Int)) (by kernel_rfl) ?_ ?_
  · have p_ := ha; go_simp
  simp only [Act.put, List.getElem_toArray, List.getElem_cons_zero, List.getElem_cons_succ, List.setIfInBounds_toArray, List.set_cons_zero, List.set_cons_succ]
  refine Sx.take (v := .int .i64 (k : Int)) (by kernel_rfl) ?_ ?_
  · exact Sx.mv rfl rfl
  simp only [Act.put, List.getElem_toArray, List.getElem_cons_zero, List.getElem_cons_succ, List.setIfInBounds_toArray, List.set_cons_zero, List.set_cons_succ]
  refine Sx.take (v := .int .i64 (K4 : Int)) (by kernel_rfl) ?_ ?_
  · exact Sx.mul rfl rfl rfl HF.out.1
  simp only [Act.put, List.getElem_toArray, List.getElem_cons_zero, List.getElem_cons_succ, List.setIfInBounds_toArray, List.set_cons_zero, List.set_cons_succ]
  refine Sx.take (v := .int .i64 (B : Int)) (by kernel_rfl) ?_ ?_
  · exact Sx.add rfl rfl rfl HF.out.2.1
  simp only [Act.put, List.getElem_toArray, List.getElem_cons_zero, List.getElem_cons_succ, List.setIfInBounds_toArray, List.set_cons_zero, List.set_cons_succ]
  refine Sx.take (v := .int .i64 (A : Int)) (by kernel_rfl) ?_ ?_
  · have p_ := ha; go_simp
  simp only [Act.put, List.getElem_toArray, List.getElem_cons_zero, List.getElem_cons_succ, List.setIfInBounds_toArray, List.set_cons_zero, List.set_cons_succ]
  refine Sx.take (v := .int .i64 (k : Int)) (by kernel_rfl) ?_ ?_
  · exact Sx.mv rfl rfl
  simp only [Act.put, List.getElem_toArray, List.getElem_cons_zero, List.getElem_cons_succ, List.setIfInBounds_toArray, List.set_cons_zero, List.set_cons_succ]
  refine Sx.take (v := .int .i64 (K4 : Int)) (by kernel_rfl) ?_ ?_
  · exact Sx.mul rfl rfl rfl HF.out.1
  simp only [Act.put, List.getElem_toArray, List.getElem_cons_zero, List.getElem_cons_succ, List.setIfInBounds_toArray, List.set_cons_zero, List.set_cons_succ]
  refine Sx.take (v := .int .i64 (B : Int)) (by kernel_rfl) ?_ ?_
  · exact Sx.add rfl rfl rfl HF.out.2.1
  simp only [Act.put, List.getElem_toArray, List.getElem_cons_zero, List.getElem_cons_succ, List.setIfInBounds_toArray, List.set_cons_zero, List.set_cons_succ]
  refine Sx.take (v := .int .i64 (B4 : Int)) (by kernel_rfl) ?_ ?_
  · exact Sx.add rfl rfl rfl HF.out.2.2.1
  simp only [Act.put, List.getElem_toArray, List.getElem_cons_zero, List.getElem_cons_succ, List.setIfInBounds_toArray, List.set_cons_zero, List.set_cons_succ]
  refine Sx.take (v := .string X) (by kernel_rfl) ?_ ?_
  · exact Sx.sliceS (by kernel_rfl) rfl rfl rfl rfl HF.out.2.2.2.1 HF.out.2.2.2.2.1 HF.out.2.2.2.2.2.1
  simp only [Act.put, List.getElem_toArray, List.getElem_cons_zero, List.getElem_cons_succ, List.setIfInBounds_toArray, List.set_cons_zero, List.set_cons_succ]
  refine BigFrame.wpList_want (by kernel_rfl) ?_
  intro K hK
  unfold Oper.wp
  simp [go_sem]
  refine K17.mono ?_
  rintro e w6 ⟨rfl, rfl⟩
  refine hK _ _ ?_
  try simp only [Act.put, List.getElem_toArray, List.getElem_cons_zero, List.getElem_cons_succ, List.setIfInBounds_toArray, List.set_cons_zero, List.set_cons_succ]
  refine Sx.take (v := .int .u32 (v : Int)) (by kernel_rfl) ?_ ?_
  · exact Sx.convI rfl (by kernel_rfl) (by kernel_rfl) rfl HF.out.2.2.2.2.2.2
  simp only [Act.put, List.getElem_toArray, List.getElem_cons_zero, List.getElem_cons_succ, List.setIfInBounds_toArray, List.set_cons_zero, List.set_cons_succ]
  refine Sx.take (v := .int .u32 (v : Int)) (by kernel_rfl) ?_ ?_
  · exact Sx.asn rfl rfl
  simp only [Act.put, List.getElem_toArray, List.getElem_cons_zero, List.getElem_cons_succ, List.setIfInBounds_toArray, List.set_cons_zero, List.set_cons_succ]
  refine wpList_nil ?_
  go_wp2
  go_ret
  exact ⟨rfl, rfl⟩
end Go.Proofs.YtgdflobcbhnimaaGreat
namespace Go.Proofs.YtgdflobcbhnimaaGreat
open Go.RowKit Go.Maps
set_option linter.unusedVariables false
set_option linter.unusedSimpArgs false
set_option maxRecDepth 100000
abbrev LM := List (Lit × DataW Unit)
def MapP (w : World) (b : Nat) (L : LM) : Prop := w.ownsMap (H := Unit) Tryz.prog 3 (plainElem Tryz.prog 22) b 2 (.map L)
theorem MapP.low {w : World} {b n : Nat} {L : LM} (h : w.ownsMap (H := Unit) Tryz.prog 3 (plainElem Tryz.prog 22) b n (.map L)) (hL : L.length ≤ 2) : MapP w b L := by
  obtain ⟨es, cl, hb, F, hs, hD⟩ := h
  refine ⟨es, cl, hb, F, ?_, hD⟩
  have e : L = (es.toList.map (Go.WideElems.rg Tryz.prog 3 (plainElem Tryz.prog 22))).foldr DataW.insert [] := by cases hD; rfl
  have e1 : L.length = es.size := by rw [e, length_sorted]; simp
  omega
theorem MapP.keep {w w' : World} {b : Nat} {L : LM} (h : MapP w b L) (hb : Below w.heap.size w w') : MapP w' b L := by
  have hlt := World.ownsMap.lt h
  obtain ⟨es, cl, hbk, F, hs, hD⟩ := h
  exact ⟨es, cl, (hb.block b hlt).trans hbk, F, hs, hD⟩
theorem map_made (w : World) : MapP (w.alloc (.map #[] 0)) w.heap.size [] := MapP.low (World.ownsMap_made w _ _ _) (by simp)
def pr (k x : Nat) : Lit × DataW Unit := (.int .i64 (k : Int), .lit (.int .u32 (x : Int)))
theorem map_ins {b : Nat} {w : World} {L : LM} (L' : LM) (m : MapP w b L) (k x : Nat) (hk : k = 1 ∨ k = 2) (hx : x < 4294967296) (hp : (DataW.map L : DataW Unit).put (.int .i64 (k : Int)) (.lit (.int .u32 (x : Int))) = .map L') (hL : L'.length ≤ 2) :
    ∃ w', (Instr.mapUpdate 47 (.map (some b)) (.int .i64 (k : Int)) (.int .u32 (x : Int))).run Tryz.prog w = .ok () w' ∧ Below b w w' ∧ MapP w' b L' := by
  have hkw : (Lit.int .i64 (k : Int)).wf = true := by rcases hk with rfl | rfl <;> rfl
  have hxw : (Lit.int .u32 (x : Int)).wf = true := by simp [Lit.wf, IntKind.min, IntKind.max, IntKind.signed, IntKind.bits]; omega
  obtain ⟨w', hrun, hown, hg⟩ := World.ownsMap.update m (int_keyed Tryz.underlying3) Tryz.underlying47 (by unfold maxLen; omega) (keyOf_int_mk Tryz.underlying3 hkw) (plainElem_int Tryz.underlying22 hxw)
  have hblt := World.ownsMap.lt m
  rw [hp] at hown
  exact ⟨w', hrun, (Below.refl b w).grown hg (Nat.le_of_lt hblt) (fun j hj => by cases hj; exact Nat.le_refl _), MapP.low hown hL⟩
theorem zero22 (w : World) : (zeroValue 22).run Tryz.prog w = .ok (.int .u32 0) w := by kernel_rfl
def two (c d : Nat) : LM := [pr 1 c, pr 2 d]
theorem ins1 (c : Nat) : (DataW.map [] : DataW Unit).put (.int .i64 (1 : Nat)) (.lit (.int .u32 (c : Int))) = .map [pr 1 c] := rfl
theorem ins2 (d : Nat) : (DataW.map [] : DataW Unit).put (.int .i64 (2 : Nat)) (.lit (.int .u32 (d : Int))) = .map [pr 2 d] := rfl
theorem ins12 (c d : Nat) : (DataW.map [pr 1 c] : DataW Unit).put (.int .i64 (2 : Nat)) (.lit (.int .u32 (d : Int))) = .map (two c d) := rfl
theorem ins21 (c d : Nat) : (DataW.map [pr 2 d] : DataW Unit).put (.int .i64 (1 : Nat)) (.lit (.int .u32 (c : Int))) = .map (two c d) := rfl
theorem map_look {c d b : Nat} {w : World} (m : MapP w b (two c d)) (k : Int) (hk : -9223372036854775808 ≤ k ∧ k ≤ 9223372036854775807) :
    (Instr.lookup 47 (.map (some b)) (.int .i64 k) false).run Tryz.prog w = .ok (.int .u32 ((if k = 1 then c else if k = 2 then d else 0 : Nat) : Int)) w := by
  have hkw : (Lit.int .i64 k).wf = true := by simp [Lit.wf, IntKind.min, IntKind.max, IntKind.signed, IntKind.bits]; omega
  obtain ⟨x, hrun, hat, _⟩ := World.ownsMap.lookup_int m (int_keyed Tryz.underlying3) Tryz.underlying47 Tryz.underlying22 (zero22 w) (keyOf_int_mk Tryz.underlying3 hkw)
  rw [hrun]
  have e : (DataW.map (two c d) : DataW Unit).atKey (.int .i64 k) (.lit (.int .u32 0)) = .lit (.int .u32 ((if k = 1 then c else if k = 2 then d else 0 : Nat) : Int)) := by
    by_cases h1 : k = 1
    · subst h1; rfl
    · by_cases h2 : k = 2
      · subst h2; rfl
      · rw [if_neg h1, if_neg h2]
        simp [DataW.atKey, two, pr, Lit.sameKey, Ne.symm h1, Ne.symm h2]
  rw [e] at hat
  cases hat
  rfl
end Go.Proofs.YtgdflobcbhnimaaGreat
namespace Go.Proofs.YtgdflobcbhnimaaGreat
open Go.RowKit Go.Maps
set_option linter.unusedVariables false
set_option linter.unusedSimpArgs false
set_option maxRecDepth 100000
/-- A whole variable is stored, as the only operation that may come up. -/
theorem wpAny_storeR {P : Program} {md : Region.Mode} {ops : Array Oper} {Q : Exit → Act → World → Prop} {i : Nat} {o : Oper} {fuel : Nat} {listed : Array Bool} {a : Act} {w : World} (hr : Region.ready md ops listed = [i]) (ho : ops[i]? = some o) (hgd : o.guard = none) (hd : o.dst = none)
    (ty : TypeId) (x y : Operand) (hop : o.op = .store ty x y) (g : Nat) (cells : Array Value) (hx : a.eval x = .pointer (some ⟨g, 0, none⟩)) (hy : a.eval y = .agg cells)
    (t : TypeId) (old : Array Value) (hg : w.heap[g]? = some (.cells old t (0, 0))) (hi : (P.info? ty).map (·.size) = some cells.size) (hold : old.size = cells.size) (h1 : cells.all (·.oneCell') = true)
    (h : wpAny P md ops Q fuel (listed.setIfInBounds i true) a (w.setRow g cells)) : wpAny P md ops Q (fuel + 1) listed a w := by
  refine wpAny_all (rs := [i]) hr (by simp) ?_
  intro j hj
  obtain rfl : j = i := by simpa using hj
  refine wpOp_step ho ?_
  intro K hK
  simp only [Region.wanted, hgd, if_true]
  refine wp_store_row ty x y hop g cells hx hy t old hg hi hold h1 ?_
  rw [hd]
  exact hK _ _ h
theorem four {w : World} {b T : Nat} {a0 a1 a2 a3 : Value} (h : w.heap[b]? = some (.cells #[a0, a1, a2, a3] T (0, 0))) : w.cell? ⟨b, 0, none⟩ = some a0 ∧ w.cell? ⟨b, 1, none⟩ = some a1 ∧ w.cell? ⟨b, 2, none⟩ = some a2 ∧ w.cell? ⟨b, 3, none⟩ = some a3 := by
  refine ⟨?_, ?_, ?_, ?_⟩ <;> simp [World.cell?, h]
theorem one_cell {w : World} {b T : Nat} {a0 : Value} (h : w.heap[b]? = some (.cells #[a0] T (0, 0))) : w.cell? ⟨b, 0, none⟩ = some a0 := by simp [World.cell?, h]
theorem one_free {w : World} {b T : Nat} {xs : Array Value} (h : w.heap[b]? = some (.cells xs T (0, 0))) (i : Nat) : w.frozen? ⟨b, i, none⟩ = false := by simp [World.frozen?, h]
theorem set1_heap {w : World} {b T : Nat} {a0 : Value} (h : w.heap[b]? = some (.cells #[a0] T (0, 0))) (v : Value) : (w.setCell ⟨b, 0, none⟩ v).heap[b]? = some (.cells #[v] T (0, 0)) := by
  have := blk_set h 0 v
  simpa using this
end Go.Proofs.YtgdflobcbhnimaaGreat
