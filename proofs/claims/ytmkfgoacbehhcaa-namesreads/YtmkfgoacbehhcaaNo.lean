/- What is proved here: rows of symbols of one's own; a table's symbols: the program's Read. -/
import Derived.Test.YtmkfgoacbehhcaaNn
import Derived.Test.YtmkfgoacbehhcaaNh
import Derived.Test.YtmkfgoacbehhcaaNk
import Derived.OwnWalk
namespace Go.Proofs.Ytmkfgoacbehhcaa
open Go.RowKit
set_option linter.unusedVariables false
set_option linter.unusedSimpArgs false
set_option maxRecDepth 100000
/-- A row of symbols of one's own. -/
def OwnY (B : Nat) (w : World) (v : Value) (gs : List Sy) : Prop := w.ownsRow B 39 5 v gs.length (gs.flatMap Sy.cells)
theorem cells_len (gs : List Sy) : (gs.flatMap Sy.cells).length = gs.length * 5 := by
  induction gs with
  | nil => rfl
  | cons g t ih => rw [List.flatMap_cons, List.length_append, ih, List.length_cons]; show 5 + _ = _; omega
theorem cells_at (gs : List Sy) : ∀ i (h : i < gs.length) j (hj : j < 5), (gs.flatMap Sy.cells)[i * 5 + j]? = (gs[i].cells)[j]? := by
  induction gs with
  | nil => intro i h; simp at h
  | cons g t ih =>
    intro i h j hj
    rw [List.flatMap_cons]
    match i, h with
    | 0, _ => rw [Nat.zero_mul, Nat.zero_add, List.getElem?_append_left (by show j < 5; exact hj)]; rfl
    | i + 1, h =>
      rw [List.getElem?_append_right (by show 5 ≤ _; omega), show (i + 1) * 5 + j - g.cells.length = i * 5 + j from by show (i + 1) * 5 + j - 5 = _; omega]
      exact ih i (by simpa using h) j hj
theorem OwnY.sl {B : Nat} {w : World} {v : Value} {gs : List Sy} (h : OwnY B w v gs) : SlY w v gs := by
  obtain ⟨h0, h | ⟨g, cap, cur, h1, h2, h3, h4, h5, h6, h7⟩⟩ := h
  · obtain ⟨rfl, h⟩ := h
    have : gs = [] := List.eq_nil_of_length_eq_zero h
    subst this
    exact SlY.nil w
  · refine ⟨some ⟨g, 0, none⟩, cap, h1, h4, by unfold maxLen at h5; omega, (by simp), fun i hi => ⟨g, 0, rfl, ?_⟩⟩
    have key : ∀ j v, j < 5 → (gs[i].cells)[j]? = some v → w.cell? ⟨g, 0 + i * 5 + j, none⟩ = some v := by
      intro j v hj hv
      have e := cells_at gs i hi j hj
      rw [hv, ← h7] at e
      have hlt : i * 5 + j < gs.length * 5 := by omega
      rw [List.getElem?_take_of_lt hlt] at e
      simp only [World.cell?, h3, Nat.zero_add]
      simpa using e
    exact ⟨key 0 _ (by decide) rfl, key 1 _ (by decide) rfl, key 2 _ (by decide) rfl, key 3 _ (by decide) rfl, key 4 _ (by decide) rfl⟩
theorem OwnY.keep {B : Nat} {w w' : World} {v : Value} {gs : List Sy} (h : OwnY B w v gs) (hb : Below w.heap.size w w') : OwnY B w' v gs := own_keep h hb
theorem OwnY.row {B n : Nat} {w w' : World} {v : Value} {gs : List Sy} (h : OwnY B w v gs) (hg : w.grownBy w' (some n)) (hn : n < B) : OwnY B w' v gs := by
  obtain ⟨h0, h | ⟨g, cap, cur, h1, h2, h3, h4⟩⟩ := h
  · exact ⟨h0, Or.inl h⟩
  · refine ⟨h0, Or.inr ⟨g, cap, cur, h1, h2, ?_, h4⟩⟩
    rw [hg.block g (Array.getElem?_eq_some_iff.1 h3).1 (by intro e; injection e with e; omega)]; exact h3
theorem OwnY.base {B B' : Nat} {w : World} {v : Value} {gs : List Sy} (h : OwnY B w v gs) (hb : B' ≤ B) : OwnY B' w v gs := by
  obtain ⟨h0, h | ⟨g, cap, cur, h1, h2, h3, h4⟩⟩ := h
  · exact ⟨h0, Or.inl h⟩
  · exact ⟨h0, Or.inr ⟨g, cap, cur, h1, Nat.le_trans hb h2, h3, h4⟩⟩
theorem OwnY.shape {B : Nat} {w : World} {v : Value} {gs : List Sy} (h : OwnY B w v gs) : ∃ a c, v = .slice a gs.length c := by
  obtain ⟨_, h | ⟨g, cap, cur, h1, _⟩⟩ := h
  · exact ⟨none, 0, by rw [h.1, h.2]⟩
  · exact ⟨_, _, h1⟩
theorem OwnY.ge {B : Nat} {w : World} {v : Value} {gs : List Sy} (h : OwnY B w v gs) : ∀ r, v.ownBlock = some r → B ≤ r := by
  intro r hr
  obtain ⟨_, h | ⟨g, cap, cur, h1, h2, _⟩⟩ := h
  · rw [h.1] at hr; cases hr
  · rw [h1] at hr
    injection hr with hr
    subst hr
    exact h2
theorem infoY : ∃ i, Try.prog.info? 39 = some i ∧ i.zero = some (.agg #[.string ⟨#[]⟩, .int .u32 0, .int .u32 0, .int .i64 0, .int .i64 0]) ∧ i.size = 5 ∧ i.bytes = 40 := info_parts (P := Try.prog) (e := 39) (by kernel_rfl)
theorem cells5 {wy : World} {g : Nat} {G : Sy} (h : B5 G g wy) : ∀ j u, (G.cells)[j]? = some u → wy.cell? ((⟨g, 0, none⟩ : Addr).add j) = some u := by
  intro j u hj
  have : j < 5 := (List.getElem?_eq_some_iff.1 hj).1
  obtain ⟨h0, h1, h2, h3, h4⟩ := h.cells
  have hc : j = 0 ∨ j = 1 ∨ j = 2 ∨ j = 3 ∨ j = 4 := by omega
  rcases hc with rfl | rfl | rfl | rfl | rfl <;> (simp [Sy.cells] at hj; subst hj; simp only [Addr.add]; assumption)
theorem one5 (G : Sy) : ∀ u ∈ G.cells, u.oneCell' = true := by
  intro u hu
  simp [Sy.cells] at hu
  rcases hu with rfl | rfl | rfl | rfl | rfl <;> rfl
theorem symsAt_len (t : Tb) (n : Nat) : (symsAt t n).length = n := by unfold symsAt; simp
theorem symsAt_snoc (t : Tb) (n : Nat) : symsAt t (n + 1) = symsAt t n ++ [symN t.strs (rowAt t.syms (n + 1))] := by unfold symsAt; rw [List.range_succ, List.map_append]; rfl
theorem rowsOk_snoc (t : Tb) (n : Nat) (h : rowsOk t n = true) : rowsOk t (n + 1) = rowOk t.strs (rowAt t.syms (n + 1)) := by
  unfold rowsOk at h ⊢
  rw [List.range_succ, List.all_append, h]; simp
theorem rowsOk_no (t : Tb) (n m : Nat) (h : rowOk t.strs (rowAt t.syms (n + 1)) = false) (hm : n < m) : rowsOk t m = false := by
  cases hh : rowsOk t m with
  | false => rfl
  | true =>
    unfold rowsOk at hh
    rw [List.all_eq_true] at hh
    rw [hh n (List.mem_range.2 hm)] at h
    cases h
theorem box3 (w : World) (t : Tb) : ∃ W, w.alloc (.cells #[.string ⟨t.syms.toArray⟩, .string ⟨t.strs.toArray⟩, .string ⟨t.hash.toArray⟩] 23) = W ∧ Below w.heap.size w W ∧ W.heap.size = w.heap.size + 1 ∧ T3 t w.heap.size W := by
  refine ⟨_, rfl, (Below.refl _ _).alloc (Nat.le_refl _) _, by simp, T3.new t w⟩
theorem read_no1 {t : Tb} (h : lenOk t = false) : readE t = false := by unfold readE; rw [h]; rfl
theorem read_no2 {t : Tb} (h : (t.syms.take 16 == zero16) = false) : readE t = false := by unfold readE; rw [h, Bool.and_false]; rfl
theorem read_no3 {t : Tb} (h : rowsOk t (cntN t) = false) : readE t = false := by unfold readE; rw [h, Bool.and_false]; rfl
theorem read_fit {t : Tb} (h1 : lenOk t = true) (h2 : (t.syms.take 16 == zero16) = true) (h3 : rowsOk t (cntN t) = true) : readE t = fitL (symsAt t (cntN t)) := by unfold readE; rw [h1, h2, h3]; rfl
theorem readL_no {t : Tb} (h : readE t = false) : readL t = [] := by unfold readL; rw [if_neg (by rw [h]; decide)]
theorem readL_yes {t : Tb} (h : readE t = true) : readL t = symsAt t (cntN t) := by unfold readL; rw [if_pos h]
def errN (t : Tb) : Int := if readE t = true then 0 else 103
theorem err_no {t : Tb} (h : readE t = false) : errN t = 103 := by unfold errN; rw [if_neg (by rw [h]; decide)]
theorem err_yes {t : Tb} (h : readE t = true) : errN t = 0 := by unfold errN; rw [if_pos h]
set_option maxHeartbeats 8000000 in
theorem read9 (T : Tb) (hl1 : T.syms.length ≤ 1000000) (hl2 : T.strs.length ≤ 1000000) (w : World) :
    Calls Try.prog 9 #[T.val] w fun e w' => (∃ v, e = .returned (.tuple #[v, .int .i64 (errN T)]) ∧ OwnY w.heap.size w' v (readL T)) ∧ Below w.heap.size w w' := by
  obtain ⟨S, hS0⟩ : ∃ S : ByteArray, S = ⟨T.syms.toArray⟩ := ⟨_, rfl⟩
  have hSl : S.toList = T.syms := by rw [hS0]; exact bal _
  have hsz : S.size = T.syms.length := by rw [← bt_len, hSl]
  have hm : S.size ≤ 1000000 := by omega
  obtain ⟨Q, hQ0⟩ : ∃ S : ByteArray, S = ⟨T.strs.toArray⟩ := ⟨_, rfl⟩
  obtain ⟨W1, hW1, hb1, hz1, h31⟩ := box3 w T
  have H1 : Hid (Below w.heap.size w W1 ∧ T3 T w.heap.size W1 ∧ W1.heap.size = w.heap.size + 1) := ⟨hb1, h31, hz1⟩
  obtain ⟨q0, q1, q2⟩ := h31.cells
  unfold Tb.val
  rw [← hS0, ← hQ0] at hW1 ⊢
  rw [← hS0] at q0
  rw [← hQ0] at q1
  generalize (⟨T.hash.toArray⟩ : ByteArray) = HB0 at hW1 q2 ⊢
  have HN : Hid (∀ w', readE T = false → Below w.heap.size w w' → (∃ v, Ending.returned (.tuple #[.slice none 0 0, .int .i64 103]) = .returned (.tuple #[v, .int .i64 (errN T)]) ∧ OwnY w.heap.size w' v (readL T)) ∧ Below w.heap.size w w') := fun w' h hb => ⟨⟨_, by rw [err_no h], by rw [readL_no h]; exact ⟨by simp, Or.inl ⟨rfl, rfl⟩⟩⟩, hb⟩
  clear hb1 hz1 h31
  by_cases g1 : S.size % 16 = 0
  · have e1 : (S.size : Int).tmod 16 = 0 := (Int.ofNat_tmod S.size 16).symm.trans (by rw [g1]; rfl)
    have e1' : (S.size : Int) % 16 = 0 := by omega
    by_cases g2 : S.size < 16
    · have e2 : (S.size : Int) < 16 := by omega
      have d2 := decide_eq_true e2
      have HR : Hid (readE T = false) := read_no1 (by unfold lenOk; exact decide_eq_false (by omega))
      clear hS0 hSl hsz hl1 hl2 hQ0
      go_enter Try.func9, Try.ntmps9
      go_wp2
      go_ret2
      exact HN.out _ HR.out H1.out.1
    · have e2 : ¬ (S.size : Int) < 16 := by omega
      have d2 := decide_eq_false e2
      by_cases g3 : 3216 < S.size
      · have e3 : (3216 : Int) < (S.size : Int) := by omega
        have d3 := decide_eq_true e3
        have HR : Hid (readE T = false) := read_no1 (by unfold lenOk; exact decide_eq_false (by omega))
        clear hS0 hSl hsz hl1 hl2 hQ0
        go_enter Try.func9, Try.ntmps9
        go_wp2
        go_ret2
        exact HN.out _ HR.out H1.out.1
      · have e3 : ¬ (3216 : Int) < (S.size : Int) := by omega
        have d3 := decide_eq_false e3
        have HLEN : Hid (lenOk T = true) := by show _ = _; unfold lenOk; exact decide_eq_true (by omega)
        have h16 : 16 ≤ S.size := by omega
        have h16i : (16 : Int) ≤ (S.size : Int) := by omega
        obtain ⟨Z, hZ⟩ : ∃ z : ByteArray, z = S.extract 0 16 := ⟨_, rfl⟩
        have hZl : Z.toList = T.syms.take 16 := by rw [hZ, ext_list, bal, List.drop_zero, hSl]
        have hq : (Z.toList == [0, 0, 0, 0, 0, 0, 0, 0, 0, 0, 0, 0, 0, 0, 0, 0]) = (T.syms.take 16 == zero16) := by rw [hZl]; rfl
        cases hz : (T.syms.take 16 == zero16) with
        | false =>
          rw [hz] at hq
          have HR : Hid (readE T = false) := read_no2 hz
          have hZ' := hZ.symm
          have hq2 : (Z.toList != [0, 0, 0, 0, 0, 0, 0, 0, 0, 0, 0, 0, 0, 0, 0, 0]) = true := by rw [bne, hq]; rfl
          clear hS0 hSl hsz hl1 hl2 hQ0 hz hZl hZ
          go_enter Try.func9, Try.ntmps9
          go_wp2
          go_ret2
          exact HN.out _ HR.out H1.out.1
        | true =>
          rw [hz] at hq
          have hZ' := hZ.symm
          have hq2 : (Z.toList != [0, 0, 0, 0, 0, 0, 0, 0, 0, 0, 0, 0, 0, 0, 0, 0]) = false := by rw [bne, hq]; rfl
          obtain ⟨hc1, hc2⟩ := len_parts HLEN.out
          have HC : Hid ((T.syms.take 16 == zero16) = true ∧ S.size = 16 * (cntN T + 1) ∧ cntN T ≤ 200) := ⟨hz, by rw [hsz]; exact hc1, hc2⟩
          have HSL : Hid (S.toList = T.syms ∧ Q = ⟨T.strs.toArray⟩ ∧ T.strs.length ≤ 1000000) := ⟨hSl, hQ0, hl2⟩
          obtain ⟨B, hB⟩ : ∃ B, B = W1.heap.size := ⟨_, rfl⟩
          have HBB : Hid (B = w.heap.size + 1) := by rw [hB]; exact H1.out.2.2
          have HB1 : Hid (B ≤ W1.heap.size) := by rw [hB]; exact Nat.le_refl _
          clear hS0 hSl hsz hl1 hl2 hQ0 hz hZl hZ hc1 hc2 hB
          go_enter Try.func9, Try.ntmps9
          go_wp2
          clear q0 q1 q2 hW1
          go_loopw [5, 4] (fun x y wr => ∃ (k : Nat) (sa : Option Addr) (sc : Nat), x = .int .i64 ((16 * (k + 1) : Nat) : Int) ∧ y = .slice sa k sc ∧ k ≤ cntN T ∧ rowsOk T k = true ∧ OwnY B wr (.slice sa k sc) (symsAt T k) ∧ T3 T w.heap.size wr ∧ Below w.heap.size w wr ∧ B ≤ wr.heap.size) (fun x _ _ => S.size + 16 - (intOf x).toNat)
          case atStart => exact ⟨0, none, 0, rfl, rfl, Nat.zero_le _, rfl, ⟨by simp [symsAt], Or.inl ⟨rfl, by simp [symsAt]⟩⟩, H1.out.2.1, H1.out.1, HB1.out⟩
          case round =>
            obtain ⟨k, sa, sc, rfl, rfl, hk, hok, hO, h3, hbr, hsB⟩ := hrel
            obtain ⟨A1, hA1⟩ : ∃ z, z = 16 * (k + 1) := ⟨_, rfl⟩
            rw [← hA1]
            have HA : Hid (A1 = 16 * (k + 1) ∧ S.size = 16 * (cntN T + 1)) := ⟨hA1, HC.out.2.1⟩
            obtain ⟨q0, q1, q2⟩ := h3.cells
            have hSx : (⟨T.syms.toArray⟩ : ByteArray) = S := by rw [← HSL.out.1, ByteArray.toList_eq]
            rw [hSx] at q0
            rw [← HSL.out.2.1] at q1
            have HOK : Hid (rowsOk T k = true) := hok
            have HO : Hid (OwnY B wr (.slice sa k sc) (symsAt T k)) := hO
            have HT3 : Hid (T3 T w.heap.size wr) := h3
            have HB : Hid (Below w.heap.size w wr) := hbr
            have HSZ : Hid (B ≤ wr.heap.size) := hsB
            by_cases hlt : k < cntN T
            · have HKC : Hid (k < cntN T) := hlt
              have hl1 : A1 < S.size := by have := HC.out.2.1; omega
              have hl1i : (A1 : Int) < (S.size : Int) := by omega
              obtain ⟨A2, hA2⟩ : ∃ z, z = A1 + 16 := ⟨_, rfl⟩
              have hl2 : A2 ≤ S.size := by have := HC.out.2.1; omega
              have hl2i : (A2 : Int) ≤ (S.size : Int) := by omega
              have hl3 : A1 ≤ A2 := by omega
              have hl3i : (A1 : Int) ≤ (A2 : Int) := by omega
              have eA : (A1 : Int) + 16 = (A2 : Int) := by omega
              have eA3 := wrapI_nat A2 (by omega)
              obtain ⟨RW, hRW⟩ : ∃ z : ByteArray, z = ⟨(rowAt T.syms (k + 1)).toArray⟩ := ⟨_, rfl⟩
              have hx : S.extract A1 A2 = RW := by
                rw [part_ext T.syms S HSL.out.1 A1 A2 16 hA2, hRW, hA1]; rfl
              obtain ⟨OK, hOK⟩ : ∃ z, z = rowOk T.strs (rowAt T.syms (k + 1)) := ⟨_, rfl⟩
              have K20 : Hid (∀ w', Calls Try.prog 20 #[.string RW, .string Q] w' fun e w'' => (∃ G : Sy, e = .returned (.tuple #[G.val, .bool OK]) ∧ (OK = true → G = symN T.strs (rowAt T.syms (k + 1)))) ∧ Below w'.heap.size w' w'') := fun w' => by
                rw [hRW, HSL.out.2.1, hOK]
                exact symbol20 _ _ (rowAt_len _ _ (by rw [← HSL.out.1, bt_len]; have := HC.out.2.1; omega)) HSL.out.2.2 w'
              have HG0 : Hid (∀ G : Sy, (OK = true → G = symN T.strs (rowAt T.syms (k + 1))) → (OK = rowOk T.strs (rowAt T.syms (k + 1)) ∧ (OK = true → G = symN T.strs (rowAt T.syms (k + 1))))) := fun G h => ⟨hOK, h⟩
              clear hRW hOK hA1 hA2 hok hO h3 hbr hsB hlt hk hSx
              go_wp2
              refine wp_region_held_drew (S := fun w' => Below wr.heap.size wr w') (by kernel_rfl) (Below.refl _ _).drew (fun hS => ?_)
              refine wpAnyH_take (i := 0) (v := .pointer (some ⟨w.heap.size, 0, none⟩)) rfl (by kernel_rfl) (by kernel_rfl) (by kernel_rfl) (fun _ _ _ h => h) (Or.inl ⟨by kernel_rfl, fun wq hSw => ?_⟩) hS ?_
              · go_simp
              simp only [Act.put, List.getElem_toArray, List.getElem_cons_zero, List.getElem_cons_succ, List.setIfInBounds_toArray, List.set_cons_zero, List.set_cons_succ]
              refine wpAnyH_take (i := 1) (v := .string S) rfl (by kernel_rfl) (by kernel_rfl) (by kernel_rfl) (fun _ _ _ h => h) (Or.inl ⟨by kernel_rfl, fun wq hSw => ?_⟩) hS ?_
              · have p0 := keep_cell hSw q0; have p1 := keep_cell hSw q1; go_simp
              simp only [Act.put, List.getElem_toArray, List.getElem_cons_zero, List.getElem_cons_succ, List.setIfInBounds_toArray, List.set_cons_zero, List.set_cons_succ]
              refine wpAnyH_take (i := 2) (v := .int .i64 (A1 : Int)) rfl (by kernel_rfl) (by kernel_rfl) (by kernel_rfl) (fun _ _ _ h => h) (Or.inl ⟨by kernel_rfl, fun wq hSw => ?_⟩) hS ?_
              · go_simp
              simp only [Act.put, List.getElem_toArray, List.getElem_cons_zero, List.getElem_cons_succ, List.setIfInBounds_toArray, List.set_cons_zero, List.set_cons_succ]
              refine wpAnyH_take (i := 3) (v := .int .i64 (A1 : Int)) rfl (by kernel_rfl) (by kernel_rfl) (by kernel_rfl) (fun _ _ _ h => h) (Or.inl ⟨by kernel_rfl, fun wq hSw => ?_⟩) hS ?_
              · go_simp
              simp only [Act.put, List.getElem_toArray, List.getElem_cons_zero, List.getElem_cons_succ, List.setIfInBounds_toArray, List.set_cons_zero, List.set_cons_succ]
              refine wpAnyH_take (i := 4) (v := .int .i64 (A2 : Int)) rfl (by kernel_rfl) (by kernel_rfl) (by kernel_rfl) (fun _ _ _ h => h) (Or.inl ⟨by kernel_rfl, fun wq hSw => ?_⟩) hS ?_
              · go_simp
              simp only [Act.put, List.getElem_toArray, List.getElem_cons_zero, List.getElem_cons_succ, List.setIfInBounds_toArray, List.set_cons_zero, List.set_cons_succ]
              refine wpAnyH_take (i := 5) (v := .string RW) rfl (by kernel_rfl) (by kernel_rfl) (by kernel_rfl) (fun _ _ _ h => h) (Or.inl ⟨by kernel_rfl, fun wq hSw => ?_⟩) hS ?_
              · go_simp
              simp only [Act.put, List.getElem_toArray, List.getElem_cons_zero, List.getElem_cons_succ, List.setIfInBounds_toArray, List.set_cons_zero, List.set_cons_succ]
              refine wpAnyH_take (i := 6) (v := .pointer (some ⟨w.heap.size, 1, none⟩)) rfl (by kernel_rfl) (by kernel_rfl) (by kernel_rfl) (fun _ _ _ h => h) (Or.inl ⟨by kernel_rfl, fun wq hSw => ?_⟩) hS ?_
              · go_simp
              simp only [Act.put, List.getElem_toArray, List.getElem_cons_zero, List.getElem_cons_succ, List.setIfInBounds_toArray, List.set_cons_zero, List.set_cons_succ]
              refine wpAnyH_take (i := 7) (v := .string Q) rfl (by kernel_rfl) (by kernel_rfl) (by kernel_rfl) (fun _ _ _ h => h) (Or.inl ⟨by kernel_rfl, fun wq hSw => ?_⟩) hS ?_
              · have p0 := keep_cell hSw q0; have p1 := keep_cell hSw q1; go_simp
              simp only [Act.put, List.getElem_toArray, List.getElem_cons_zero, List.getElem_cons_succ, List.setIfInBounds_toArray, List.set_cons_zero, List.set_cons_succ]
              refine wpAnyH_ready (rs := [8, 12]) (by kernel_rfl) (by simp) (AllReadyH.cons rfl (fun K hK => ?_) (AllReadyH.cons rfl (fun K hK => ?_) AllReadyH.nil))
              · refine if_yes (by kernel_rfl) ?_
                simp [go_sem]
                refine (K20.out _).mono ?_
                rintro e w6 ⟨⟨G, rfl, hG⟩, hb6⟩
                have hS : Below wr.heap.size wr w6 := below_tr hS hb6
                unfold Sy.val
                refine hK.out _ _ hS (fun _ => ?_)
                have HG : Hid (OK = rowOk T.strs (rowAt T.syms (k + 1)) ∧ (OK = true → G = symN T.strs (rowAt T.syms (k + 1)))) := HG0.out G hG
                have hS6 : Hid (wr.heap.size ≤ w6.heap.size) := hS.size
                clear hK K hG hb6
                refine wpAnyH_take (i := 9) (v := .tuple #[.agg #[.string ⟨G.name.toArray⟩, .int .u32 (G.value : Int), .int .u32 (G.size : Int), .int .i64 G.bind, .int .i64 G.part], .bool OK]) rfl (by kernel_rfl) (by kernel_rfl) (by kernel_rfl) (fun _ _ _ h => h) (Or.inl ⟨by kernel_rfl, fun wq hSw => ?_⟩) hS ?_
                · go_simp
                simp only [Act.put, List.getElem_toArray, List.getElem_cons_zero, List.getElem_cons_succ, List.setIfInBounds_toArray, List.set_cons_zero, List.set_cons_succ]
                refine wpAnyH_take (i := 10) (v := .agg #[.string ⟨G.name.toArray⟩, .int .u32 (G.value : Int), .int .u32 (G.size : Int), .int .i64 G.bind, .int .i64 G.part]) rfl (by kernel_rfl) (by kernel_rfl) (by kernel_rfl) (fun _ _ _ h => h) (Or.inl ⟨by kernel_rfl, fun wq hSw => ?_⟩) hS ?_
                · go_simp
                simp only [Act.put, List.getElem_toArray, List.getElem_cons_zero, List.getElem_cons_succ, List.setIfInBounds_toArray, List.set_cons_zero, List.set_cons_succ]
                refine wpAnyH_take (i := 11) (v := .bool OK) rfl (by kernel_rfl) (by kernel_rfl) (by kernel_rfl) (fun _ _ _ h => h) (Or.inl ⟨by kernel_rfl, fun wq hSw => ?_⟩) hS ?_
                · go_simp
                simp only [Act.put, List.getElem_toArray, List.getElem_cons_zero, List.getElem_cons_succ, List.setIfInBounds_toArray, List.set_cons_zero, List.set_cons_succ]
                refine wpAnyH_ready (rs := [12]) (by kernel_rfl) (by simp) (AllReadyH.cons rfl (fun K hK => ?_) AllReadyH.nil)
                refine if_yes (by kernel_rfl) ?_
                simp [go_sem]
                obtain ⟨wA, hwA⟩ : ∃ z, w6.alloc (.cells #[.string ⟨#[]⟩, .int .u32 0, .int .u32 0, .int .i64 0, .int .i64 0] 39) = z := ⟨_, rfl⟩
                have HZ : Hid (B5 zeroY w6.heap.size wA) := by rw [← hwA]; exact B5.new zeroY w6
                have hS : Below wr.heap.size wr wA := by rw [← hwA]; exact hS.alloc hS.size _
                have HNN : Hid (wr.heap.size ≤ w6.heap.size) := hS6.out
                rw [hwA]
                refine hK.out _ _ hS (fun _ => ?_)
                clear hK K hwA
                generalize w6.heap.size = NN at HZ HNN ⊢
                have g9 := grown_setRow wA NN G.cells.toArray
                have i9 := setRow_b5 HZ.out G
                unfold Sy.cells at g9 i9
                have hb9 : Below wr.heap.size wr _ := hS.grown g9 hS.size (fun k e => by injection e with e; have := HNN.out; omega)
                refine wpAnyH_store (i := 13) (by kernel_rfl) rfl (by kernel_rfl) (by kernel_rfl) 39 (.tmp 6) (.tmp 48) (by kernel_rfl) NN #[.string ⟨G.name.toArray⟩, .int .u32 (G.value : Int), .int .u32 (G.size : Int), .int .i64 G.bind, .int .i64 G.part] (by kernel_rfl) (by kernel_rfl) 39 _ HZ.out info39 (by kernel_rfl) (by kernel_rfl) hb9 ?_
                obtain ⟨W9, hW9⟩ : ∃ z, wA.setRow NN #[.string ⟨G.name.toArray⟩, .int .u32 (G.value : Int), .int .u32 (G.size : Int), .int .i64 G.bind, .int .i64 G.part] = z := ⟨_, rfl⟩
                have i9 : B5 G NN W9 := by rw [← hW9]; exact i9
                have hS : Below wr.heap.size wr W9 := by rw [← hW9]; exact hb9
                rw [hW9]
                clear g9 hb9 hW9 HZ
                refine wpAnyH_take (i := 14) (v := .bool OK) rfl (by kernel_rfl) (by kernel_rfl) (by kernel_rfl) (fun _ _ _ h => h) (Or.inl ⟨by kernel_rfl, fun wq hSw => ?_⟩) hS ?_
                · go_simp
                simp only [Act.put, List.getElem_toArray, List.getElem_cons_zero, List.getElem_cons_succ, List.setIfInBounds_toArray, List.set_cons_zero, List.set_cons_succ]
                refine wpAnyH_done (by kernel_rfl) ?_ _
                have H9 : Hid (B5 G NN W9 ∧ Below wr.heap.size wr W9) := ⟨i9, hS⟩
                clear i9 hS q0 q1 q2
                cases OK with
                | false =>
                  have HNO : Hid (readE T = false) := read_no3 (rowsOk_no T k (cntN T) HG.out.1.symm HKC.out)
                  have HBW : Hid (Below w.heap.size w W9) := HB.out.trans (H9.out.2.mono HB.out.size)
                  go_wp2
                  go_ret2
                  exact ⟨⟨.slice none 0 0, by rw [err_no HNO.out]; rfl, by rw [readL_no HNO.out]; exact ⟨by simp, Or.inl ⟨rfl, rfl⟩⟩⟩, HBW.out⟩
                | true =>
                  have HGS : Hid (G = symN T.strs (rowAt T.syms (k + 1))) := HG.out.2 rfl
                  have HOK2 : Hid (rowsOk T (k + 1) = true) := by show _ = _; rw [rowsOk_snoc T k HOK.out, ← HG.out.1]
                  obtain ⟨c0, c1, c2, c3, c4⟩ := H9.out.1.cells
                  obtain ⟨W6, hW6⟩ : ∃ W6, W9.alloc (.cells #[.string ⟨G.name.toArray⟩, .int .u32 (G.value : Int), .int .u32 (G.size : Int), .int .i64 G.bind, .int .i64 G.part] 39) = W6 := ⟨_, rfl⟩
                  have hb6 : Below W9.heap.size W9 W6 := by rw [← hW6]; exact (Below.refl _ _).alloc (Nat.le_refl _) _
                  have h6 : B5 G W9.heap.size W6 := by rw [← hW6]; exact B5.new G W9
                  have HOW : Hid (W6.ownsRow B 39 5 (.slice sa k sc) (symsAt T k).length ((symsAt T k).flatMap Sy.cells) ∧ B ≤ W6.heap.size ∧ ∀ j u, (G.cells)[j]? = some u → W6.cell? ((⟨W9.heap.size, 0, none⟩ : Addr).add j) = some u) := by
                    have h1 : OwnY B W6 (.slice sa k sc) (symsAt T k) := (HO.out.keep H9.out.2).keep hb6
                    refine ⟨h1, ?_, cells5 h6⟩
                    have := H9.out.2.size
                    have := hb6.size
                    have := HSZ.out
                    omega
                  have HB6 : Hid (Below wr.heap.size wr W6) := below_tr H9.out.2 hb6
                  obtain ⟨i0, hi1, hi2, hi3, hi4⟩ := infoY
                  have HLK : Hid (k ≤ 200) := by show k ≤ 200; have := HKC.out; have := HC.out.2.2; omega
                  clear hb6 h6
                  go_wp2_with (at_builtin; refine wpList_append_own _ rfl _ _ 26 rfl B 39 i0 _ 5 40 Try.underlying26 hi1 hi2 hi3 hi4 rfl (by decide) _ _ _ rfl HOW.out.1 ⟨W9.heap.size, 0, none⟩ 1 1 G.cells rfl rfl HOW.out.2.2 (one5 G) ?_ ?_ HOW.out.2.1 ?_)
                  · rw [symsAt_len]; have := HLK.out; unfold maxLen; omega
                  · rw [symsAt_len]; have := HLK.out; omega
                  intro sv w7 how7 hgr7 _
                  have HO7 : Hid (OwnY B w7 sv (symsAt T (k + 1))) := by
                    show w7.ownsRow _ _ _ _ _ _
                    rw [symsAt_snoc, List.length_append, List.flatMap_append, ← HGS.out]
                    simpa using how7
                  have hge := HO.out.ge
                  have HB7 : Hid (Below w.heap.size w w7 ∧ T3 T w.heap.size w7 ∧ B ≤ w7.heap.size) := by
                    have hb6 : Below w.heap.size w W6 := HB.out.trans (HB6.out.mono HB.out.size)
                    have hs6 := HB6.out.size
                    have h1 := HSZ.out
                    refine ⟨hb6.grown hgr7 hb6.size (fun r e => by have := hge r e; have := HBB.out; omega), (HT3.out.keep HB6.out).row hgr7 (fun e => by have := hge _ e.symm; have := HBB.out; omega), ?_⟩
                    have := hgr7.size
                    omega
                  obtain ⟨sa2, sc2, rfl⟩ := HO7.out.shape
                  rw [symsAt_len] at HO7 ⊢
                  have HK1 : Hid (k + 1 ≤ cntN T) := HKC.out
                  have e16 : (A1 : Int) + 16 = ((16 * (k + 1 + 1) : Nat) : Int) := by have := HA.out; omega
                  clear how7 hgr7 hge c0 c1 c2 c3 c4 hW6 hi1 hi2 hi3 hi4
                  go_wp2
                  go_roundw
                  case rel => exact ⟨k + 1, sa2, sc2, by first | (congr 1; omega) | (simp; omega) | go_num, rfl, HK1.out, HOK2.out, HO7.out, HB7.out.2.1, HB7.out.1, HB7.out.2.2⟩
                  case measure => have := HA.out; simp [intOf]; omega
              · refine if_yes (by kernel_rfl) ?_
                simp [go_sem]
                obtain ⟨w6, hw6⟩ : ∃ z, (wr.alloc (.cells #[.string ⟨#[]⟩, .int .u32 0, .int .u32 0, .int .i64 0, .int .i64 0] 39)).drew = z := ⟨_, rfl⟩
                have hz6 : B5 zeroY wr.heap.size w6 := by rw [← hw6]; exact B5.new zeroY wr
                have hS : Below wr.heap.size wr w6 := by rw [← hw6]; exact ((Below.refl _ _).alloc (Nat.le_refl _) _).drew
                have HNN : Hid (wr.heap.size ≤ wr.heap.size) := Nat.le_refl _
                rw [hw6]
                refine hK.out _ _ hS (fun _ => ?_)
                clear hK K hw6
                refine wpAnyH_ready (rs := [8]) (by kernel_rfl) (by simp) (AllReadyH.cons rfl (fun K hK => ?_) AllReadyH.nil)
                refine if_yes (by kernel_rfl) ?_
                simp [go_sem]
                refine (K20.out _).mono ?_
                rintro e wA ⟨⟨G, rfl, hG⟩, hb6⟩
                have HZ : Hid (B5 zeroY wr.heap.size wA) := hz6.keep hb6
                have hS : Below wr.heap.size wr wA := below_tr hS hb6
                unfold Sy.val
                refine hK.out _ _ hS (fun _ => ?_)
                have HG : Hid (OK = rowOk T.strs (rowAt T.syms (k + 1)) ∧ (OK = true → G = symN T.strs (rowAt T.syms (k + 1)))) := HG0.out G hG
                clear hK K hG hb6 hz6
                obtain ⟨NN, hNN⟩ : ∃ z, z = wr.heap.size := ⟨_, rfl⟩
                rw [← hNN] at HZ
                rw [show (Value.pointer (some ⟨wr.heap.size, 0, none⟩)) = Value.pointer (some ⟨NN, 0, none⟩) by rw [hNN]]
                have HNN : Hid (wr.heap.size ≤ NN) := by rw [hNN]; exact Nat.le_refl _
                clear hNN
                refine wpAnyH_take (i := 9) (v := .tuple #[.agg #[.string ⟨G.name.toArray⟩, .int .u32 (G.value : Int), .int .u32 (G.size : Int), .int .i64 G.bind, .int .i64 G.part], .bool OK]) rfl (by kernel_rfl) (by kernel_rfl) (by kernel_rfl) (fun _ _ _ h => h) (Or.inl ⟨by kernel_rfl, fun wq hSw => ?_⟩) hS ?_
                · go_simp
                simp only [Act.put, List.getElem_toArray, List.getElem_cons_zero, List.getElem_cons_succ, List.setIfInBounds_toArray, List.set_cons_zero, List.set_cons_succ]
                refine wpAnyH_take (i := 10) (v := .agg #[.string ⟨G.name.toArray⟩, .int .u32 (G.value : Int), .int .u32 (G.size : Int), .int .i64 G.bind, .int .i64 G.part]) rfl (by kernel_rfl) (by kernel_rfl) (by kernel_rfl) (fun _ _ _ h => h) (Or.inl ⟨by kernel_rfl, fun wq hSw => ?_⟩) hS ?_
                · go_simp
                simp only [Act.put, List.getElem_toArray, List.getElem_cons_zero, List.getElem_cons_succ, List.setIfInBounds_toArray, List.set_cons_zero, List.set_cons_succ]
                refine wpAnyH_take (i := 11) (v := .bool OK) rfl (by kernel_rfl) (by kernel_rfl) (by kernel_rfl) (fun _ _ _ h => h) (Or.inl ⟨by kernel_rfl, fun wq hSw => ?_⟩) hS ?_
                · go_simp
                simp only [Act.put, List.getElem_toArray, List.getElem_cons_zero, List.getElem_cons_succ, List.setIfInBounds_toArray, List.set_cons_zero, List.set_cons_succ]
                have g9 := grown_setRow wA NN G.cells.toArray
                have i9 := setRow_b5 HZ.out G
                unfold Sy.cells at g9 i9
                have hb9 : Below wr.heap.size wr _ := hS.grown g9 hS.size (fun k e => by injection e with e; have := HNN.out; omega)
                refine wpAnyH_store (i := 13) (by kernel_rfl) rfl (by kernel_rfl) (by kernel_rfl) 39 (.tmp 6) (.tmp 48) (by kernel_rfl) NN #[.string ⟨G.name.toArray⟩, .int .u32 (G.value : Int), .int .u32 (G.size : Int), .int .i64 G.bind, .int .i64 G.part] (by kernel_rfl) (by kernel_rfl) 39 _ HZ.out info39 (by kernel_rfl) (by kernel_rfl) hb9 ?_
                obtain ⟨W9, hW9⟩ : ∃ z, wA.setRow NN #[.string ⟨G.name.toArray⟩, .int .u32 (G.value : Int), .int .u32 (G.size : Int), .int .i64 G.bind, .int .i64 G.part] = z := ⟨_, rfl⟩
                have i9 : B5 G NN W9 := by rw [← hW9]; exact i9
                have hS : Below wr.heap.size wr W9 := by rw [← hW9]; exact hb9
                rw [hW9]
                clear g9 hb9 hW9 HZ
                refine wpAnyH_take (i := 14) (v := .bool OK) rfl (by kernel_rfl) (by kernel_rfl) (by kernel_rfl) (fun _ _ _ h => h) (Or.inl ⟨by kernel_rfl, fun wq hSw => ?_⟩) hS ?_
                · go_simp
                simp only [Act.put, List.getElem_toArray, List.getElem_cons_zero, List.getElem_cons_succ, List.setIfInBounds_toArray, List.set_cons_zero, List.set_cons_succ]
                refine wpAnyH_done (by kernel_rfl) ?_ _
                have H9 : Hid (B5 G NN W9 ∧ Below wr.heap.size wr W9) := ⟨i9, hS⟩
                clear i9 hS q0 q1 q2
                cases OK with
                | false =>
                  have HNO : Hid (readE T = false) := read_no3 (rowsOk_no T k (cntN T) HG.out.1.symm HKC.out)
                  have HBW : Hid (Below w.heap.size w W9) := HB.out.trans (H9.out.2.mono HB.out.size)
                  go_wp2
                  go_ret2
                  exact ⟨⟨.slice none 0 0, by rw [err_no HNO.out]; rfl, by rw [readL_no HNO.out]; exact ⟨by simp, Or.inl ⟨rfl, rfl⟩⟩⟩, HBW.out⟩
                | true =>
                  have HGS : Hid (G = symN T.strs (rowAt T.syms (k + 1))) := HG.out.2 rfl
                  have HOK2 : Hid (rowsOk T (k + 1) = true) := by show _ = _; rw [rowsOk_snoc T k HOK.out, ← HG.out.1]
                  obtain ⟨c0, c1, c2, c3, c4⟩ := H9.out.1.cells
                  obtain ⟨W6, hW6⟩ : ∃ W6, W9.alloc (.cells #[.string ⟨G.name.toArray⟩, .int .u32 (G.value : Int), .int .u32 (G.size : Int), .int .i64 G.bind, .int .i64 G.part] 39) = W6 := ⟨_, rfl⟩
                  have hb6 : Below W9.heap.size W9 W6 := by rw [← hW6]; exact (Below.refl _ _).alloc (Nat.le_refl _) _
                  have h6 : B5 G W9.heap.size W6 := by rw [← hW6]; exact B5.new G W9
                  have HOW : Hid (W6.ownsRow B 39 5 (.slice sa k sc) (symsAt T k).length ((symsAt T k).flatMap Sy.cells) ∧ B ≤ W6.heap.size ∧ ∀ j u, (G.cells)[j]? = some u → W6.cell? ((⟨W9.heap.size, 0, none⟩ : Addr).add j) = some u) := by
                    have h1 : OwnY B W6 (.slice sa k sc) (symsAt T k) := (HO.out.keep H9.out.2).keep hb6
                    refine ⟨h1, ?_, cells5 h6⟩
                    have := H9.out.2.size
                    have := hb6.size
                    have := HSZ.out
                    omega
                  have HB6 : Hid (Below wr.heap.size wr W6) := below_tr H9.out.2 hb6
                  obtain ⟨i0, hi1, hi2, hi3, hi4⟩ := infoY
                  have HLK : Hid (k ≤ 200) := by show k ≤ 200; have := HKC.out; have := HC.out.2.2; omega
                  clear hb6 h6
                  go_wp2_with (at_builtin; refine wpList_append_own _ rfl _ _ 26 rfl B 39 i0 _ 5 40 Try.underlying26 hi1 hi2 hi3 hi4 rfl (by decide) _ _ _ rfl HOW.out.1 ⟨W9.heap.size, 0, none⟩ 1 1 G.cells rfl rfl HOW.out.2.2 (one5 G) ?_ ?_ HOW.out.2.1 ?_)
                  · rw [symsAt_len]; have := HLK.out; unfold maxLen; omega
                  · rw [symsAt_len]; have := HLK.out; omega
                  intro sv w7 how7 hgr7 _
                  have HO7 : Hid (OwnY B w7 sv (symsAt T (k + 1))) := by
                    show w7.ownsRow _ _ _ _ _ _
                    rw [symsAt_snoc, List.length_append, List.flatMap_append, ← HGS.out]
                    simpa using how7
                  have hge := HO.out.ge
                  have HB7 : Hid (Below w.heap.size w w7 ∧ T3 T w.heap.size w7 ∧ B ≤ w7.heap.size) := by
                    have hb6 : Below w.heap.size w W6 := HB.out.trans (HB6.out.mono HB.out.size)
                    have hs6 := HB6.out.size
                    have h1 := HSZ.out
                    refine ⟨hb6.grown hgr7 hb6.size (fun r e => by have := hge r e; have := HBB.out; omega), (HT3.out.keep HB6.out).row hgr7 (fun e => by have := hge _ e.symm; have := HBB.out; omega), ?_⟩
                    have := hgr7.size
                    omega
                  obtain ⟨sa2, sc2, rfl⟩ := HO7.out.shape
                  rw [symsAt_len] at HO7 ⊢
                  have HK1 : Hid (k + 1 ≤ cntN T) := HKC.out
                  have e16 : (A1 : Int) + 16 = ((16 * (k + 1 + 1) : Nat) : Int) := by have := HA.out; omega
                  clear how7 hgr7 hge c0 c1 c2 c3 c4 hW6 hi1 hi2 hi3 hi4
                  go_wp2
                  go_roundw
                  case rel => exact ⟨k + 1, sa2, sc2, by first | (congr 1; omega) | (simp; omega) | go_num, rfl, HK1.out, HOK2.out, HO7.out, HB7.out.2.1, HB7.out.1, HB7.out.2.2⟩
                  case measure => have := HA.out; simp [intOf]; omega
            · obtain rfl : k = cntN T := by omega
              have hl1i : ¬ (A1 : Int) < (S.size : Int) := by have := HC.out.2.1; omega
              have KF := fit16 (symsAt T (cntN T)) _ wr hO.sl (by rw [symsAt_len]; have := HC.out.2.2; omega)
              have HF : Hid (readE T = fitL (symsAt T (cntN T))) := read_fit HLEN.out HC.out.1 hok
              generalize hFF : fitL (symsAt T (cntN T)) = FF at KF HF
              clear hFF hA1 hok hO h3 hbr hsB hlt hk hSx
              go_wp2_with fail
              refine KF.mono ?_
              rintro e w5 ⟨rfl, hb5⟩
              have HBW : Hid (Below w.heap.size w w5) := HB.out.trans (hb5.mono HB.out.size)
              have HO5 : Hid (OwnY w.heap.size w5 (.slice sa (cntN T) sc) (symsAt T (cntN T))) := (HO.out.keep hb5).base (by have := HBB.out; omega)
              clear KF hb5 q0 q1 q2
              cases FF with
              | false =>
                go_wp2
                go_ret2
                exact HN.out _ HF.out HBW.out
              | true =>
                go_wp2
                go_ret2
                exact ⟨⟨_, by rw [err_yes HF.out]; rfl, by rw [readL_yes HF.out]; exact HO5.out⟩, HBW.out⟩
  · have e1 : ¬ (S.size : Int).tmod 16 = 0 := by
      rw [show (S.size : Int).tmod 16 = ((S.size % 16 : Nat) : Int) from (Int.ofNat_tmod S.size 16).symm]
      omega
    have HR : Hid (readE T = false) := read_no1 (by unfold lenOk; exact decide_eq_false (by omega))
    clear hS0 hSl hsz hl1 hl2 hQ0 g1
    go_enter Try.func9, Try.ntmps9
    go_wp2
    go_ret2
    exact HN.out _ HR.out H1.out.1
end Go.Proofs.Ytmkfgoacbehhcaa
