/- What is proved here: a row's symbol: the program's symbol. -/
import Derived.Test.YtmkfgoacbehhcaaNg
import Derived.Laws.Rows
namespace Go.Proofs.Ytmkfgoacbehhcaa
open Go.RowKit
set_option linter.unusedVariables false
set_option linter.unusedSimpArgs false
set_option maxRecDepth 100000
theorem setRow_b5 {w : World} {n : Nat} {j : Sy} (h : B5 j n w) (g : Sy) : B5 g n (w.setRow n g.cells.toArray) := setRow_heap w n _ _ 39 _ h
theorem grown_setRow (w : World) (n : Nat) (X : Array Value) : w.grownBy (w.setRow n X) (some n) :=
  ⟨rfl, rfl, rfl, Nat.le_of_eq (by simp), fun j _ hk => by
    unfold World.setRow
    simp only [Array.getElem?_modify]
    rw [if_neg (fun e => hk (by rw [e]))]⟩
theorem info39 : (Try.prog.info? 39).map (·.size) = some 5 := by rfl
/-- A whole variable is stored, as the only operation that may come up. -/
theorem wpAnyH_store {P : Program} {md : Region.Mode} {ops : Array Oper} {Q : Exit → Act → World → Prop} {S : World → Prop} {i : Nat} {o : Oper} {fuel : Nat} {listed : Array Bool} {a : Act} {w : World} (hr : Region.ready md ops listed = [i]) (ho : ops[i]? = some o) (hgd : o.guard = none) (hd : o.dst = none)
    (ty : TypeId) (x y : Operand) (hop : o.op = .store ty x y) (g : Nat) (cells : Array Value) (hx : a.eval x = .pointer (some ⟨g, 0, none⟩)) (hy : a.eval y = .agg cells)
    (t : TypeId) (old : Array Value) (hg : w.heap[g]? = some (.cells old t (0, 0))) (hi : (P.info? ty).map (·.size) = some cells.size) (hold : old.size = cells.size) (h1 : cells.all (·.oneCell') = true)
    (hS : S (w.setRow g cells)) (h : wpAnyH P md ops Q S fuel (listed.setIfInBounds i true) a (w.setRow g cells)) : wpAnyH P md ops Q S (fuel + 1) listed a w := by
  refine wpAnyH_all (rs := [i]) hr (by simp) ?_
  intro j hj
  obtain rfl : j = i := by simpa using hj
  refine wpOp_step ho ?_
  intro K hK
  simp only [Region.wanted, hgd, if_true]
  refine wp_store_row ty x y hop g cells hx hy t old hg hi hold h1 ?_
  rw [hd]
  exact hK _ _ ⟨hS, h⟩
theorem wrap64_nat (n : Nat) (h : n < 4294967296) : wrap64 (n : Int) = (n : Int) := by unfold wrap64; omega
theorem wrapI_nat (n : Nat) (h : n < 4294967296) : IntKind.i64.wrap (n : Int) = (n : Int) := by rw [IntKind.wrap_i64]; omega
theorem ended_is (strs row : L8) (h : wd row 0 < strs.length) : rowOk strs row = ((strs.drop (wd row 0)).contains 0 && (rowB (symN strs row) (wd row 0) == row)) := by
  unfold rowOk endsAt
  rw [decide_eq_true h, Bool.true_and]
theorem sym_is (strs row : L8) : symN strs row = ⟨nameAt strs (wd row 0), wd row 4, wd row 8, (((row.drop 12).headD 0).toNat / 16 : Nat), (hf row 14 : Int)⟩ := rfl
set_option maxHeartbeats 4000000 in
theorem symbol20 (row strs : L8) (hr : row.length = 16) (hs : strs.length ≤ 1000000) (w : World) :
    Calls Try.prog 20 #[.string ⟨row.toArray⟩, .string ⟨strs.toArray⟩] w fun e w' => (∃ g : Sy, e = .returned (.tuple #[g.val, .bool (rowOk strs row)]) ∧ (rowOk strs row = true → g = symN strs row)) ∧ Below w.heap.size w w' := by
  obtain ⟨post, hpost⟩ : ∃ p : Ending → World → Prop, p = fun e w' => (∃ g : Sy, e = .returned (.tuple #[g.val, .bool (rowOk strs row)]) ∧ (rowOk strs row = true → g = symN strs row)) ∧ Below w.heap.size w w' := ⟨_, rfl⟩
  rw [← hpost]
  have HP : Hid (∀ (g : Sy) (B : Bool) w', rowOk strs row = B → (B = true → g = symN strs row) → Below w.heap.size w w' → post (.returned (.tuple #[.agg #[.string ⟨g.name.toArray⟩, .int .u32 (g.value : Int), .int .u32 (g.size : Int), .int .i64 g.bind, .int .i64 g.part], .bool B])) w') := fun g B w' h1 h2 h3 => by
    rw [hpost]
    subst h1
    exact ⟨⟨g, rfl, h2⟩, h3⟩
  clear hpost
  obtain ⟨S, hS0⟩ : ∃ S : ByteArray, S = ⟨row.toArray⟩ := ⟨_, rfl⟩
  have hSl : S.toList = row := by rw [hS0]; exact bal row
  have hsz : S.size = 16 := by rw [← bt_len, hSl, hr]
  obtain ⟨T, hT0⟩ : ∃ S : ByteArray, S = ⟨strs.toArray⟩ := ⟨_, rfl⟩
  have hTl : T.toList = strs := by rw [hT0]; exact bal strs
  have hTz : T.size = strs.length := by rw [← hTl, bt_len]
  have KW : ∀ k : Nat, k < 4 → ∀ w', Calls Try.prog 32 #[.string S, .int .u64 (k : Int)] w' fun e w'' => e = .returned (.int .u32 (wd row (4 * k) : Int)) ∧ Below w'.heap.size w' w'' := fun k hk w' => by
    have := wordAt32 row k (by omega) (by omega) w'
    rw [wAt_in (by omega), ← hS0] at this
    exact this
  obtain ⟨AT, hAT⟩ : ∃ z, z = wd row 0 := ⟨_, rfl⟩
  obtain ⟨VA, hVA⟩ : ∃ z, z = wd row 4 := ⟨_, rfl⟩
  obtain ⟨SI, hSI⟩ : ∃ z, z = wd row 8 := ⟨_, rfl⟩
  obtain ⟨PA, hPA⟩ : ∃ z, z = hf row 14 := ⟨_, rfl⟩
  have bAT : AT < 4294967296 := by rw [hAT]; exact wd_lt _ _
  have bVA : VA < 4294967296 := by rw [hVA]; exact wd_lt _ _
  have bSI : SI < 4294967296 := by rw [hSI]; exact wd_lt _ _
  have bPA : PA < 65536 := by rw [hPA]; exact hf_lt _ _
  obtain ⟨W1, hW1⟩ : ∃ z, w.alloc (.cells #[.string ⟨#[]⟩, .int .u32 0, .int .u32 0, .int .i64 0, .int .i64 0] 39) = z := ⟨_, rfl⟩
  have HW1 : Hid (Below w.heap.size w W1 ∧ B5 zeroY w.heap.size W1 ∧ W1.heap.size = w.heap.size + 1) := by
    rw [← hW1]
    exact ⟨(Below.refl _ _).alloc (Nat.le_refl _) _, B5.new zeroY w, by simp⟩
  have KA : Calls Try.prog 32 #[.string S, .int .u64 0] W1 fun e w' => e = .returned (.int .u32 (AT : Int)) ∧ Below W1.heap.size W1 w' := by rw [hAT]; exact KW 0 (by decide) W1
  have KV : Hid (∀ w', Calls Try.prog 32 #[.string S, .int .u64 1] w' fun e w'' => e = .returned (.int .u32 (VA : Int)) ∧ Below w'.heap.size w' w'') := fun w' => by rw [hVA]; exact KW 1 (by decide) w'
  have KI : Hid (∀ w', Calls Try.prog 32 #[.string S, .int .u64 2] w' fun e w'' => e = .returned (.int .u32 (SI : Int)) ∧ Below w'.heap.size w' w'') := fun w' => by rw [hSI]; exact KW 2 (by decide) w'
  clear KW
  have hTm : T.size ≤ 1000000 := by omega
  have h64 : (T.size : Int) % 18446744073709551616 = (T.size : Int) := by omega
  have h64' : IntKind.u64.wrap (T.size : Int) = (T.size : Int) := by rw [IntKind.wrap_u64]; omega
  have hA64 : (AT : Int) % 18446744073709551616 = (AT : Int) := by omega
  have hA64' : IntKind.u64.wrap (AT : Int) = (AT : Int) := by rw [IntKind.wrap_u64]; omega
  rw [← hS0, ← hT0]
  by_cases h : AT < strs.length
  · have hq : ¬ (T.size : Int) ≤ (AT : Int) := by omega
    have dq := decide_eq_false hq
    have l1 : AT ≤ T.size := by omega
    have l1i : (AT : Int) ≤ (T.size : Int) := by omega
    obtain ⟨D, hD⟩ : ∃ D : ByteArray, D = T.extract AT T.size := ⟨_, rfl⟩
    have hDl : D.toList = strs.drop AT := by
      rw [hD, ext_list, bal, ← bt_len, List.take_length, hTl]
    have hDm : D.size ≤ 1000000 := by rw [← bt_len, hDl, List.length_drop]; omega
    have K33 : Hid (∀ w', Calls Try.prog 33 #[.string D, .string ⟨#[0]⟩] w' fun e w'' => e = .returned (.tuple #[.string ⟨(cufB D.toList).toArray⟩, .string ⟨(cufA D.toList).toArray⟩, .bool (D.toList.contains 0)]) ∧ Below w'.heap.size w' w'') := cut33 D hDm
    rw [hD] at K33
    obtain ⟨NL, hNL⟩ : ∃ z, z = cufB (T.extract AT T.size).toList := ⟨_, rfl⟩
    obtain ⟨EN, hEN⟩ : ∃ z, z = (T.extract AT T.size).toList.contains 0 := ⟨_, rfl⟩
    rw [← hNL, ← hEN] at K33
    rw [← hD, hDl] at hNL hEN
    generalize cufA (T.extract AT T.size).toList = AF at K33
    obtain ⟨NB, hNB⟩ : ∃ z : ByteArray, z = ⟨NL.toArray⟩ := ⟨_, rfl⟩
    rw [← hNB] at K33
    generalize (⟨AF.toArray⟩ : ByteArray) = AB at K33
    obtain ⟨C12, hC⟩ : ∃ z : Nat, z = ((row.drop 12).headD 0).toNat := ⟨_, rfl⟩
    have bC : C12 < 256 := by rw [hC]; exact ((row.drop 12).headD 0).toNat_lt
    obtain ⟨BI, hBI⟩ : ∃ z, z = C12 / 16 := ⟨_, rfl⟩
    obtain ⟨GY, hGY⟩ : ∃ z : Sy, z = ⟨NL, VA, SI, (BI : Int), (PA : Int)⟩ := ⟨_, rfl⟩
    have hix : ∀ wx, (Instr.index 9 (.string S) (.int .i64 12)).run Try.prog wx = .ok (.int .u8 (C12 : Int)) wx := fun wx => by
      have hl : 12 < S.size := by omega
      have hl2 : 12 < S.toList.length := by rw [bt_len]; exact hl
      have e : S[12] = (row.drop 12).headD 0 := by
        rw [bt_get S 12 hl hl2, List.headD_eq_head?_getD, List.head?_drop, ← hSl, List.getElem?_eq_getElem hl2]; rfl
      rw [run_index_string wx 9 S .i64 12 Try.underlying9]
      have hli : (12 : Int) < (S.size : Int) := by omega
      have e2 : S[12].toNat = C12 := by rw [e, hC]
      simp [hli, e2]
    obtain ⟨E14, hE14⟩ : ∃ z : ByteArray, z = ⟨((row.drop 14).take 2).toArray⟩ := ⟨_, rfl⟩
    have hsl : ∀ wx, (Instr.slice 9 (.string S) (some (.int .i64 14)) none none).run Try.prog wx = .ok (.string E14) wx := fun wx => by
      have e : E14 = S.extract 14 S.size := by
        rw [hE14, ext_list, hSl, hsz, ← hr, List.take_length, List.take_of_length_le (by simp; omega)]
      rw [run_slice_string_from_if wx 9 S .i64 14 Try.underlying9, e]
      simp
      omega
    have KP : Hid (∀ w', Calls Try.prog 34 #[.string E14] w' fun e w'' => e = .returned (.int .u64 (PA : Int)) ∧ Below w'.heap.size w' w'') := fun w' => by
      rw [hE14, hPA]
      exact be34 _ (by simp; omega) w'
    have eb1 : (C12 : Int) / 16 = (BI : Int) := by omega
    have eb2 : (BI : Int) % 256 = (BI : Int) := by omega
    have eb3 : IntKind.u8.wrap (BI : Int) = (BI : Int) := by rw [IntKind.wrap_u8']; omega
    have ep3 : (PA : Int) % 18446744073709551616 = (PA : Int) := by omega
    have HPAL : PA < 4294967296 := by omega
    have HBIL : BI < 4294967296 := by omega
    have HGE : Hid (rowOk strs row = (EN && (rowB (symN strs row) (wd row 0) == row)) ∧ (EN = true → GY = symN strs row)) := by
      refine ⟨by rw [ended_is strs row (by rw [← hAT]; exact h), ← hAT, hEN], fun he => ?_⟩
      rw [hGY, sym_is, ← hAT, ← hVA, ← hSI, ← hPA, ← hC, ← hBI]
      unfold nameAt
      rw [hNL]
      unfold cufB
      rw [if_pos (by rw [← hEN]; exact he)]
    have HROW : Hid (S.toList = row ∧ AT = wd row 0 ∧ AT < 4294967296 ∧ VA < 4294967296 ∧ SI < 4294967296 ∧ BI ≤ 15 ∧ PA ≤ 65535) := ⟨hSl, hAT, bAT, bVA, bSI, by omega, by omega⟩
    have GYd : GY = ⟨NL, VA, SI, (BI : Int), (PA : Int)⟩ := hGY
    have K35 : Hid (∀ w', Calls Try.prog 35 #[GY.val, .int .u32 (AT : Int)] w' fun e w'' => e = .returned (.string ⟨(rowB GY AT).toArray⟩) ∧ Below w'.heap.size w' w'') := fun w' => row35 GY AT bAT (by rw [hGY]; exact bVA) (by rw [hGY]; exact bSI) (by rw [hGY]; simp only; omega) (by rw [hGY]; simp only; omega) (by rw [hGY]; simp only; omega) (by rw [hGY]; simp only; omega) w'
    have HNB : Hid (NB = ⟨NL.toArray⟩) := hNB
    have HLTW : Hid (W1.heap.size = w.heap.size + 1) := HW1.out.2.2
    have HEP : Hid ((IntKind.i64.wrap (PA : Int) = (PA : Int) ∧ wrap64 (PA : Int) = (PA : Int)) ∧ (IntKind.i64.wrap (BI : Int) = (BI : Int) ∧ wrap64 (BI : Int) = (BI : Int))) := ⟨⟨wrapI_nat PA HPAL, wrap64_nat PA HPAL⟩, ⟨wrapI_nat BI HBIL, wrap64_nat BI HBIL⟩⟩
    clear HPAL HBIL
    have HFX : Hid (_ ∧ _ ∧ _ ∧ _ ∧ _ ∧ _ ∧ _) := ⟨hix, hsl, eb1, eb2, eb3, ep3, GYd⟩
    clear hix hsl eb1 eb2 eb3 ep3 GYd
    clear hS0 hSl hT0 hTl hTz hAT hVA hSI hPA bAT bVA bSI bPA h hD hDl hDm hNL hEN hNB hC bC hBI hE14 hsz hr hs hGY
    go_enter Try.func20, Try.ntmps20
    go_wp2_with fail
    refine KA.mono ?_
    rintro e w2 ⟨rfl, hb2⟩
    clear KA hW1
    have HW2 : Hid (Below w.heap.size w w2 ∧ B5 zeroY w.heap.size w2 ∧ w.heap.size < w2.heap.size) := by
      have h := HW1.out
      have := hb2.size
      exact ⟨h.1.trans (hb2.mono h.1.size), h.2.1.keep hb2, by omega⟩
    clear hb2 HW1
    go_wp2_with fail
    refine (K33.out _).mono ?_
    rintro e w3 ⟨rfl, hb3⟩
    have HW3 : Hid (Below w.heap.size w w3 ∧ B5 zeroY w.heap.size w3) := ⟨HW2.out.1.trans (hb3.mono HW2.out.1.size), HW2.out.2.1.keep hb3⟩
    have HLT : Hid (w.heap.size < w3.heap.size) := by have := HW2.out.2.2; have := hb3.size; show _ < _; omega
    clear hb3 K33 HW2 HLTW dq hq l1 l1i h64 h64'
    go_wp2
    obtain ⟨⟨ep2, ep1⟩, ⟨eb5, eb4⟩⟩ := HEP.out
    obtain ⟨hix, hsl, eb1, eb2, eb3, ep3, GYd⟩ := HFX.out
    refine wp_region_slots_last (R := Ext) [⟨28, fun v _ => v = .string NB, fun _ _ _ _ h => h⟩, ⟨29, fun v _ => v = .string S, fun _ _ _ _ h => h⟩, ⟨30, fun v _ => v = .int .u32 (VA : Int), fun _ _ _ _ h => h⟩, ⟨31, fun v _ => v = .string S, fun _ _ _ _ h => h⟩, ⟨32, fun v _ => v = .int .u32 (SI : Int), fun _ _ _ _ h => h⟩, ⟨33, fun v _ => v = .string S, fun _ _ _ _ h => h⟩, ⟨34, fun v _ => v = .int .u8 (C12 : Int), fun _ _ _ _ h => h⟩, ⟨35, fun v _ => v = .int .u8 (BI : Int), fun _ _ _ _ h => h⟩, ⟨36, fun v _ => v = .int .i64 (BI : Int), fun _ _ _ _ h => h⟩, ⟨37, fun v _ => v = .string S, fun _ _ _ _ h => h⟩, ⟨38, fun v _ => v = .string E14, fun _ _ _ _ h => h⟩, ⟨39, fun v _ => v = .int .u64 (PA : Int), fun _ _ _ _ h => h⟩, ⟨40, fun v _ => v = .int .i64 (PA : Int), fun _ _ _ _ h => h⟩, ⟨41, fun v _ => v = .agg #[.string NB, .int .u32 (VA : Int), .int .u32 (SI : Int), .int .i64 (BI : Int), .int .i64 (PA : Int)], fun _ _ _ _ h => h⟩, ⟨10, fun v W => ∃ b, v = .pointer (some ⟨b, 0, none⟩) ∧ B5 zeroY b W ∧ w.heap.size < b, fun v A C hb h => by obtain ⟨b, h1, h2, h3⟩ := h; exact ⟨b, h1, h2.keep hb, h3⟩⟩] _ 15 _ (by kernel_rfl) rfl (by kernel_rfl) rfl rfl rfl rfl (by kernel_rfl) (Below.drew (Below.refl _ _)) (fun _ _ _ h1 h2 => below_tr h1 h2) (fun QQ => ⟨?_, ?_, ?_, ?_, ?_, ?_, ?_, ?_, ?_, ?_, ?_, ?_, ?_, ?_, ?_, trivial⟩) (fun f wy hR hf A hA K hK => ?_)
    · intro A wx hR hout hdep K hK
      have h7 : A.tmps[7]?.getD undef = .string NB := hout 7 (by kernel_rfl)
      refine if_yes (by kernel_rfl) ?_
      simp [go_sem, h7, hix, hsl, eb1, eb2, eb3, eb4, eb5, ep1, ep2, ep3]
      exact hK.out _ _ (Below.refl _ _) rfl
    · intro A wx hR hout hdep K hK
      have h0 : A.tmps[0]?.getD undef = .string S := hout 0 (by kernel_rfl)
      refine if_yes (by kernel_rfl) ?_
      simp [go_sem, h0, hix, hsl, eb1, eb2, eb3, eb4, eb5, ep1, ep2, ep3]
      exact hK.out _ _ (Below.refl _ _) rfl
    · intro A wx hR hout hdep K hK
      have h29 : A.tmps[29]?.getD undef = .string S := hdep 29 (by kernel_rfl)
      refine if_yes (by kernel_rfl) ?_
      simp [go_sem, h29, hix, hsl, eb1, eb2, eb3, eb4, eb5, ep1, ep2, ep3]
      refine (KV.out wx).mono ?_
      rintro e wG ⟨rfl, hbG⟩
      exact hK.out _ _ hbG rfl
    · intro A wx hR hout hdep K hK
      have h0 : A.tmps[0]?.getD undef = .string S := hout 0 (by kernel_rfl)
      refine if_yes (by kernel_rfl) ?_
      simp [go_sem, h0, hix, hsl, eb1, eb2, eb3, eb4, eb5, ep1, ep2, ep3]
      exact hK.out _ _ (Below.refl _ _) rfl
    · intro A wx hR hout hdep K hK
      have h31 : A.tmps[31]?.getD undef = .string S := hdep 31 (by kernel_rfl)
      refine if_yes (by kernel_rfl) ?_
      simp [go_sem, h31, hix, hsl, eb1, eb2, eb3, eb4, eb5, ep1, ep2, ep3]
      refine (KI.out wx).mono ?_
      rintro e wG ⟨rfl, hbG⟩
      exact hK.out _ _ hbG rfl
    · intro A wx hR hout hdep K hK
      have h0 : A.tmps[0]?.getD undef = .string S := hout 0 (by kernel_rfl)
      refine if_yes (by kernel_rfl) ?_
      simp [go_sem, h0, hix, hsl, eb1, eb2, eb3, eb4, eb5, ep1, ep2, ep3]
      exact hK.out _ _ (Below.refl _ _) rfl
    · intro A wx hR hout hdep K hK
      have h33 : A.tmps[33]?.getD undef = .string S := hdep 33 (by kernel_rfl)
      refine if_yes (by kernel_rfl) ?_
      simp [go_sem, h33, hix, hsl, eb1, eb2, eb3, eb4, eb5, ep1, ep2, ep3]
      exact hK.out _ _ (Below.refl _ _) rfl
    · intro A wx hR hout hdep K hK
      have h34 : A.tmps[34]?.getD undef = .int .u8 (C12 : Int) := hdep 34 (by kernel_rfl)
      refine if_yes (by kernel_rfl) ?_
      simp [go_sem, h34, hix, hsl, eb1, eb2, eb3, eb4, eb5, ep1, ep2, ep3]
      exact hK.out _ _ (Below.refl _ _) rfl
    · intro A wx hR hout hdep K hK
      have h35 : A.tmps[35]?.getD undef = .int .u8 (BI : Int) := hdep 35 (by kernel_rfl)
      refine if_yes (by kernel_rfl) ?_
      simp [go_sem, h35, hix, hsl, eb1, eb2, eb3, eb4, eb5, ep1, ep2, ep3]
      exact hK.out _ _ (Below.refl _ _) rfl
    · intro A wx hR hout hdep K hK
      have h0 : A.tmps[0]?.getD undef = .string S := hout 0 (by kernel_rfl)
      refine if_yes (by kernel_rfl) ?_
      simp [go_sem, h0, hix, hsl, eb1, eb2, eb3, eb4, eb5, ep1, ep2, ep3]
      exact hK.out _ _ (Below.refl _ _) rfl
    · intro A wx hR hout hdep K hK
      have h37 : A.tmps[37]?.getD undef = .string S := hdep 37 (by kernel_rfl)
      refine if_yes (by kernel_rfl) ?_
      simp [go_sem, h37, hix, hsl, eb1, eb2, eb3, eb4, eb5, ep1, ep2, ep3]
      exact hK.out _ _ (Below.refl _ _) rfl
    · intro A wx hR hout hdep K hK
      have h38 : A.tmps[38]?.getD undef = .string E14 := hdep 38 (by kernel_rfl)
      refine if_yes (by kernel_rfl) ?_
      simp [go_sem, h38, hix, hsl, eb1, eb2, eb3, eb4, eb5, ep1, ep2, ep3]
      refine (KP.out wx).mono ?_
      rintro e wG ⟨rfl, hbG⟩
      exact hK.out _ _ hbG rfl
    · intro A wx hR hout hdep K hK
      have h39 : A.tmps[39]?.getD undef = .int .u64 (PA : Int) := hdep 39 (by kernel_rfl)
      refine if_yes (by kernel_rfl) ?_
      simp [go_sem, h39, hix, hsl, eb1, eb2, eb3, eb4, eb5, ep1, ep2, ep3]
      exact hK.out _ _ (Below.refl _ _) rfl
    · intro A wx hR hout hdep K hK
      have h28 : A.tmps[28]?.getD undef = .string NB := hdep 28 (by kernel_rfl)
      have h30 : A.tmps[30]?.getD undef = .int .u32 (VA : Int) := hdep 30 (by kernel_rfl)
      have h32 : A.tmps[32]?.getD undef = .int .u32 (SI : Int) := hdep 32 (by kernel_rfl)
      have h36 : A.tmps[36]?.getD undef = .int .i64 (BI : Int) := hdep 36 (by kernel_rfl)
      have h40 : A.tmps[40]?.getD undef = .int .i64 (PA : Int) := hdep 40 (by kernel_rfl)
      refine if_yes (by kernel_rfl) ?_
      simp [go_sem, h28, h30, h32, h36, h40, hix, hsl, eb1, eb2, eb3, eb4, eb5, ep1, ep2, ep3]
      exact hK.out _ _ (Below.refl _ _) rfl
    · intro A wx hR hout hdep K hK
      refine if_yes (by kernel_rfl) ?_
      simp [go_sem]
      exact hK.out _ _ ((Below.refl _ _).alloc (Nat.le_refl _) _) ⟨_, rfl, B5.new zeroY wx, Nat.lt_of_lt_of_le HLT.out hR.size⟩
    obtain ⟨b, hv10, i10, hbl⟩ : ∃ b, f 10 = .pointer (some ⟨b, 0, none⟩) ∧ B5 zeroY b wy ∧ w.heap.size < b := hf 10 (by kernel_rfl)
    have hv41 : f 41 = .agg #[.string NB, .int .u32 (VA : Int), .int .u32 (SI : Int), .int .i64 (BI : Int), .int .i64 (PA : Int)] := hf 41 (by kernel_rfl)
    simp only [putSl, List.take_succ_cons, List.take_zero, Act.put, List.setIfInBounds_toArray, List.set_cons_zero, List.set_cons_succ, hv10, hv41] at hA
    subst hA
    obtain ⟨q0, q1, q2, q3, q4⟩ := i10.cells
    have z0 := i10.frozen 0
    have z1 := i10.frozen 1
    have z2 := i10.frozen 2
    have z3 := i10.frozen 3
    have z4 := i10.frozen 4
    obtain ⟨w5, hw5⟩ : ∃ z, ((((wy.setCell ⟨b, 0, none⟩ (.string NB)).setCell ⟨b, 1, none⟩ (.int .u32 (VA : Int))).setCell ⟨b, 2, none⟩ (.int .u32 (SI : Int))).setCell ⟨b, 3, none⟩ (.int .i64 (BI : Int))).setCell ⟨b, 4, none⟩ (.int .i64 (PA : Int)) = z := ⟨_, rfl⟩
    have hst : st5 wy b GY = w5 := by rw [GYd, ← hw5, HNB.out]; rfl
    have g5 := st5_grown wy b GY
    have j5 := st5_in i10 GY
    rw [hst] at g5 j5
    have HW5 : Hid (Below w.heap.size w w5 ∧ B5 zeroY w.heap.size w5 ∧ B5 GY b w5) := by
      have h1 := HW3.out
      have h2 : Below w.heap.size w wy := h1.1.trans (hR.mono h1.1.size)
      exact ⟨h2.grown g5 h2.size (fun r e => by injection e with e; omega), (h1.2.keep hR).row g5 (by intro e; injection e with e; omega), j5⟩
    have HNE : Hid (w.heap.size < b) := hbl
    simp [go_sem, q0, q1, q2, q3, q4, z0, z1, z2, z3, z4, hw5]
    refine hK.out _ _ ?_
    clear hf hv10 hv41 i10 q0 q1 q2 q3 q4 z0 z1 z2 z3 z4 hw5 hst g5 j5 hR hbl hK HW3 HLT
    clear hix hsl eb1 eb2 eb3 eb4 eb5 ep1 ep2 ep3 KV KI KP
    go_wp2
    have GC : Sy.cells GY = [.string NB, .int .u32 (VA : Int), .int .u32 (SI : Int), .int .i64 (BI : Int), .int .i64 (PA : Int)] := by rw [GYd]; unfold Sy.cells; rw [HNB.out]
    have GVL : GY.val = .agg #[.string NB, .int .u32 (VA : Int), .int .u32 (SI : Int), .int .i64 (BI : Int), .int .i64 (PA : Int)] := by rw [GYd]; unfold Sy.val; rw [HNB.out]
    have HCL : Hid (∀ w', B5 GY b w' → (w'.cell? ⟨b, 0, none⟩ = some (.string NB) ∧ w'.cell? ⟨b, 1, none⟩ = some (.int .u32 (VA : Int)) ∧ w'.cell? ⟨b, 2, none⟩ = some (.int .u32 (SI : Int)) ∧ w'.cell? ⟨b, 3, none⟩ = some (.int .i64 (BI : Int)) ∧ w'.cell? ⟨b, 4, none⟩ = some (.int .i64 (PA : Int)))) := fun w' h => by
      have := h.cells
      rw [GYd] at this
      rw [HNB.out]
      exact this
    have HCS : Hid (∀ w', B5 GY w.heap.size w' → (w'.cell? ⟨w.heap.size, 0, none⟩ = some (.string NB) ∧ w'.cell? ⟨w.heap.size, 1, none⟩ = some (.int .u32 (VA : Int)) ∧ w'.cell? ⟨w.heap.size, 2, none⟩ = some (.int .u32 (SI : Int)) ∧ w'.cell? ⟨w.heap.size, 3, none⟩ = some (.int .i64 (BI : Int)) ∧ w'.cell? ⟨w.heap.size, 4, none⟩ = some (.int .i64 (PA : Int)))) := fun w' h => by
      have := h.cells
      rw [GYd] at this
      rw [HNB.out]
      exact this
    refine wp_region_held_drew (S := fun w' => Below w.heap.size w w' ∧ (∃ z, B5 z w.heap.size w') ∧ B5 GY b w') (by kernel_rfl) ⟨HW5.out.1.drew, ⟨_, HW5.out.2.1.keep (Below.refl _ _).drew⟩, HW5.out.2.2.keep (Below.refl _ _).drew⟩ (fun hS => ?_)
    cases EN with
    | false =>
      refine wpAnyH_take (i := 0) (v := .agg #[.string NB, .int .u32 (VA : Int), .int .u32 (SI : Int), .int .i64 (BI : Int), .int .i64 (PA : Int)]) rfl (by kernel_rfl) (by kernel_rfl) (by kernel_rfl) (fun _ _ _ h => h) (Or.inl ⟨by kernel_rfl, fun wq hSw => ?_⟩) hS ?_
      · obtain ⟨_, _, hB⟩ := hSw; obtain ⟨s0, s1, s2, s3, s4⟩ := HCL.out _ hB; go_simp
      simp only [Act.put, List.getElem_toArray, List.getElem_cons_zero, List.getElem_cons_succ, List.setIfInBounds_toArray, List.set_cons_zero, List.set_cons_succ]
      refine wpAnyH_take (i := 1) (v := .bool false) rfl (by kernel_rfl) (by kernel_rfl) (by kernel_rfl) (fun _ _ _ h => h) (Or.inl ⟨by kernel_rfl, fun wq hSw => ?_⟩) hS ?_
      · go_simp
      simp only [Act.put, List.getElem_toArray, List.getElem_cons_zero, List.getElem_cons_succ, List.setIfInBounds_toArray, List.set_cons_zero, List.set_cons_succ]
      refine wpAnyH_take (i := 2) (v := .bool false) rfl (by kernel_rfl) (by kernel_rfl) (by kernel_rfl) (fun _ _ _ h => h) (Or.inl ⟨by kernel_rfl, fun wq hSw => ?_⟩) hS ?_
      · go_simp
      simp only [Act.put, List.getElem_toArray, List.getElem_cons_zero, List.getElem_cons_succ, List.setIfInBounds_toArray, List.set_cons_zero, List.set_cons_succ]
      refine wpAnyH_take (i := 3) (v := undef) rfl (by kernel_rfl) (by kernel_rfl) (by kernel_rfl) (fun _ _ _ h => h) (Or.inr ⟨by kernel_rfl, rfl⟩) hS ?_
      simp only [Act.put, List.getElem_toArray, List.getElem_cons_zero, List.getElem_cons_succ, List.setIfInBounds_toArray, List.set_cons_zero, List.set_cons_succ]
      refine wpAnyH_take (i := 4) (v := undef) rfl (by kernel_rfl) (by kernel_rfl) (by kernel_rfl) (fun _ _ _ h => h) (Or.inr ⟨by kernel_rfl, rfl⟩) hS ?_
      simp only [Act.put, List.getElem_toArray, List.getElem_cons_zero, List.getElem_cons_succ, List.setIfInBounds_toArray, List.set_cons_zero, List.set_cons_succ]
      refine wpAnyH_take (i := 5) (v := undef) rfl (by kernel_rfl) (by kernel_rfl) (by kernel_rfl) (fun _ _ _ h => h) (Or.inr ⟨by kernel_rfl, rfl⟩) hS ?_
      simp only [Act.put, List.getElem_toArray, List.getElem_cons_zero, List.getElem_cons_succ, List.setIfInBounds_toArray, List.set_cons_zero, List.set_cons_succ]
      refine wpAnyH_take (i := 6) (v := undef) rfl (by kernel_rfl) (by kernel_rfl) (by kernel_rfl) (fun _ _ _ h => h) (Or.inr ⟨by kernel_rfl, rfl⟩) hS ?_
      simp only [Act.put, List.getElem_toArray, List.getElem_cons_zero, List.getElem_cons_succ, List.setIfInBounds_toArray, List.set_cons_zero, List.set_cons_succ]
      refine wpAnyH_take (i := 7) (v := undef) rfl (by kernel_rfl) (by kernel_rfl) (by kernel_rfl) (fun _ _ _ h => h) (Or.inr ⟨by kernel_rfl, rfl⟩) hS ?_
      simp only [Act.put, List.getElem_toArray, List.getElem_cons_zero, List.getElem_cons_succ, List.setIfInBounds_toArray, List.set_cons_zero, List.set_cons_succ]
      refine wpAnyH_take (i := 8) (v := .bool false) rfl (by kernel_rfl) (by kernel_rfl) (by kernel_rfl) (fun _ _ _ h => h) (Or.inl ⟨by kernel_rfl, fun wq hSw => ?_⟩) hS ?_
      · go_simp
      simp only [Act.put, List.getElem_toArray, List.getElem_cons_zero, List.getElem_cons_succ, List.setIfInBounds_toArray, List.set_cons_zero, List.set_cons_succ]
      obtain ⟨zY, zz⟩ := hS.2.1
      have g9 := grown_setRow w5.drew w.heap.size GY.cells.toArray
      have i9 := setRow_b5 zz GY
      rw [GC] at g9 i9
      have HB9 : Hid (Below w.heap.size w _) := hS.1.grown g9 hS.1.size (fun k e => by injection e with e; omega)
      have hb5 := hS.2.2.row g9 (by intro e; injection e with e; have := HNE.out; omega)
      refine wpAnyH_store (i := 9) (by kernel_rfl) rfl (by kernel_rfl) (by kernel_rfl) 39 (.tmp 4) (.tmp 42) (by kernel_rfl) w.heap.size #[.string NB, .int .u32 (VA : Int), .int .u32 (SI : Int), .int .i64 (BI : Int), .int .i64 (PA : Int)] (by kernel_rfl) (by kernel_rfl) 39 _ zz info39 (by kernel_rfl) (by kernel_rfl) ⟨HB9.out, ⟨_, i9⟩, hb5⟩ ?_
      obtain ⟨W9, hW9⟩ : ∃ z, w5.drew.setRow w.heap.size #[.string NB, .int .u32 (VA : Int), .int .u32 (SI : Int), .int .i64 (BI : Int), .int .i64 (PA : Int)] = z := ⟨_, rfl⟩
      have i9 : B5 GY w.heap.size W9 := by rw [← hW9]; exact i9
      have HB9 : Hid (Below w.heap.size w W9) := by rw [← hW9]; exact HB9.out
      have hb5 : B5 GY b W9 := by rw [← hW9]; exact hb5
      rw [hW9]
      have hS : Below w.heap.size w W9 ∧ (∃ z, B5 z w.heap.size W9) ∧ B5 GY b W9 := ⟨HB9.out, ⟨_, i9⟩, hb5⟩
      refine wpAnyH_take (i := 10) (v := .bool false) rfl (by kernel_rfl) (by kernel_rfl) (by kernel_rfl) (fun _ _ _ h => h) (Or.inl ⟨by kernel_rfl, fun wq hSw => ?_⟩) hS ?_
      · go_simp
      simp only [Act.put, List.getElem_toArray, List.getElem_cons_zero, List.getElem_cons_succ, List.setIfInBounds_toArray, List.set_cons_zero, List.set_cons_succ]
      obtain ⟨s0, s1, s2, s3, s4⟩ := HCS.out _ i9
      have HP9 := HP.out GY false W9 (by rw [HGE.out.1]; rfl) (by intro h; cases h) HB9.out
      rw [GYd] at HP9
      simp only at HP9
      rw [← HNB.out] at HP9
      clear g9 i9 hb5 hW9
      refine wpAnyH_done (by kernel_rfl) ?_ _
      go_wp2
      refine bodyPost_ret (v := .tuple #[.agg #[.string NB, .int .u32 (VA : Int), .int .u32 (SI : Int), .int .i64 (BI : Int), .int .i64 (PA : Int)], .bool false]) ?_ rfl HP9
      rw [results_cell_tmp rfl]; simp [go_sem, s0, s1, s2, s3, s4]
    | true =>
      refine wpAnyH_take (i := 0) (v := .agg #[.string NB, .int .u32 (VA : Int), .int .u32 (SI : Int), .int .i64 (BI : Int), .int .i64 (PA : Int)]) rfl (by kernel_rfl) (by kernel_rfl) (by kernel_rfl) (fun _ _ _ h => h) (Or.inl ⟨by kernel_rfl, fun wq hSw => ?_⟩) hS ?_
      · obtain ⟨_, _, hB⟩ := hSw; obtain ⟨s0, s1, s2, s3, s4⟩ := HCL.out _ hB; go_simp
      simp only [Act.put, List.getElem_toArray, List.getElem_cons_zero, List.getElem_cons_succ, List.setIfInBounds_toArray, List.set_cons_zero, List.set_cons_succ]
      refine wpAnyH_take (i := 1) (v := .bool true) rfl (by kernel_rfl) (by kernel_rfl) (by kernel_rfl) (fun _ _ _ h => h) (Or.inl ⟨by kernel_rfl, fun wq hSw => ?_⟩) hS ?_
      · go_simp
      simp only [Act.put, List.getElem_toArray, List.getElem_cons_zero, List.getElem_cons_succ, List.setIfInBounds_toArray, List.set_cons_zero, List.set_cons_succ]
      refine wpAnyH_take (i := 2) (v := .bool true) rfl (by kernel_rfl) (by kernel_rfl) (by kernel_rfl) (fun _ _ _ h => h) (Or.inl ⟨by kernel_rfl, fun wq hSw => ?_⟩) hS ?_
      · go_simp
      simp only [Act.put, List.getElem_toArray, List.getElem_cons_zero, List.getElem_cons_succ, List.setIfInBounds_toArray, List.set_cons_zero, List.set_cons_succ]
      refine wpAnyH_take (i := 3) (v := .agg #[.string NB, .int .u32 (VA : Int), .int .u32 (SI : Int), .int .i64 (BI : Int), .int .i64 (PA : Int)]) rfl (by kernel_rfl) (by kernel_rfl) (by kernel_rfl) (fun _ _ _ h => h) (Or.inl ⟨by kernel_rfl, fun wq hSw => ?_⟩) hS ?_
      · obtain ⟨_, _, hB⟩ := hSw; obtain ⟨s0, s1, s2, s3, s4⟩ := HCL.out _ hB; go_simp
      simp only [Act.put, List.getElem_toArray, List.getElem_cons_zero, List.getElem_cons_succ, List.setIfInBounds_toArray, List.set_cons_zero, List.set_cons_succ]
      refine wpAnyH_take (i := 4) (v := .int .u32 (AT : Int)) rfl (by kernel_rfl) (by kernel_rfl) (by kernel_rfl) (fun _ _ _ h => h) (Or.inl ⟨by kernel_rfl, fun wq hSw => ?_⟩) hS ?_
      · go_simp
      simp only [Act.put, List.getElem_toArray, List.getElem_cons_zero, List.getElem_cons_succ, List.setIfInBounds_toArray, List.set_cons_zero, List.set_cons_succ]
      refine wpAnyH_take (i := 6) (v := .string S) rfl (by kernel_rfl) (by kernel_rfl) (by kernel_rfl) (fun _ _ _ h => h) (Or.inl ⟨by kernel_rfl, fun wq hSw => ?_⟩) hS ?_
      · go_simp
      simp only [Act.put, List.getElem_toArray, List.getElem_cons_zero, List.getElem_cons_succ, List.setIfInBounds_toArray, List.set_cons_zero, List.set_cons_succ]
      refine wpAnyH_ready (rs := [5]) (by kernel_rfl) (by simp) (AllReadyH.cons rfl (fun K hK => ?_) AllReadyH.nil)
      refine if_yes (by kernel_rfl) ?_
      have K6 := K35.out w5.drew
      rw [GVL] at K6
      simp [go_sem]
      refine K6.mono ?_
      rintro e w6 ⟨rfl, hb6⟩
      have hS : Below w.heap.size w w6 ∧ (∃ z, B5 z w.heap.size w6) ∧ B5 GY b w6 := ⟨hS.1.trans (hb6.mono hS.1.size), ⟨_, hS.2.1.choose_spec.keep hb6⟩, hS.2.2.keep hb6⟩
      refine hK.out _ _ hS (fun _ => ?_)
      clear hK K K6 hb6
      have HQ : Hid (((⟨(rowB GY AT).toArray⟩ : ByteArray).toList == S.toList) = (rowB (symN strs row) (wd row 0) == row)) := by
        rw [Hid, bal, HROW.out.1, HGE.out.2 rfl, HROW.out.2.1]
      generalize (⟨(rowB GY AT).toArray⟩ : ByteArray) = RB at HQ ⊢
      obtain ⟨QB, hQB⟩ : ∃ z, z = (RB.toList == S.toList) := ⟨_, rfl⟩
      have hqb : (RB.toList == S.toList) = QB := hQB.symm
      clear hQB
      refine wpAnyH_take (i := 7) (v := .bool QB) rfl (by kernel_rfl) (by kernel_rfl) (by kernel_rfl) (fun _ _ _ h => h) (Or.inl ⟨by kernel_rfl, fun wq hSw => ?_⟩) hS ?_
      · simp [go_sem, hqb]
      simp only [Act.put, List.getElem_toArray, List.getElem_cons_zero, List.getElem_cons_succ, List.setIfInBounds_toArray, List.set_cons_zero, List.set_cons_succ]
      refine wpAnyH_take (i := 8) (v := .bool QB) rfl (by kernel_rfl) (by kernel_rfl) (by kernel_rfl) (fun _ _ _ h => h) (Or.inl ⟨by kernel_rfl, fun wq hSw => ?_⟩) hS ?_
      · go_simp
      simp only [Act.put, List.getElem_toArray, List.getElem_cons_zero, List.getElem_cons_succ, List.setIfInBounds_toArray, List.set_cons_zero, List.set_cons_succ]
      obtain ⟨zY, zz⟩ := hS.2.1
      have g9 := grown_setRow w6 w.heap.size GY.cells.toArray
      have i9 := setRow_b5 zz GY
      rw [GC] at g9 i9
      have HB9 : Hid (Below w.heap.size w _) := hS.1.grown g9 hS.1.size (fun k e => by injection e with e; omega)
      have hb5 := hS.2.2.row g9 (by intro e; injection e with e; have := HNE.out; omega)
      refine wpAnyH_store (i := 9) (by kernel_rfl) rfl (by kernel_rfl) (by kernel_rfl) 39 (.tmp 4) (.tmp 42) (by kernel_rfl) w.heap.size #[.string NB, .int .u32 (VA : Int), .int .u32 (SI : Int), .int .i64 (BI : Int), .int .i64 (PA : Int)] (by kernel_rfl) (by kernel_rfl) 39 _ zz info39 (by kernel_rfl) (by kernel_rfl) ⟨HB9.out, ⟨_, i9⟩, hb5⟩ ?_
      obtain ⟨W9, hW9⟩ : ∃ z, w6.setRow w.heap.size #[.string NB, .int .u32 (VA : Int), .int .u32 (SI : Int), .int .i64 (BI : Int), .int .i64 (PA : Int)] = z := ⟨_, rfl⟩
      have i9 : B5 GY w.heap.size W9 := by rw [← hW9]; exact i9
      have HB9 : Hid (Below w.heap.size w W9) := by rw [← hW9]; exact HB9.out
      have hb5 : B5 GY b W9 := by rw [← hW9]; exact hb5
      rw [hW9]
      have hS : Below w.heap.size w W9 ∧ (∃ z, B5 z w.heap.size W9) ∧ B5 GY b W9 := ⟨HB9.out, ⟨_, i9⟩, hb5⟩
      refine wpAnyH_take (i := 10) (v := .bool QB) rfl (by kernel_rfl) (by kernel_rfl) (by kernel_rfl) (fun _ _ _ h => h) (Or.inl ⟨by kernel_rfl, fun wq hSw => ?_⟩) hS ?_
      · go_simp
      simp only [Act.put, List.getElem_toArray, List.getElem_cons_zero, List.getElem_cons_succ, List.setIfInBounds_toArray, List.set_cons_zero, List.set_cons_succ]
      obtain ⟨s0, s1, s2, s3, s4⟩ := HCS.out _ i9
      have HP9 := HP.out GY QB W9 (by rw [HGE.out.1, ← HQ.out, hqb]; cases QB <;> rfl) (by intro h; exact HGE.out.2 rfl) HB9.out
      rw [GYd] at HP9
      simp only at HP9
      rw [← HNB.out] at HP9
      clear g9 i9 hb5 hW9
      refine wpAnyH_done (by kernel_rfl) ?_ _
      go_wp2
      refine bodyPost_ret (v := .tuple #[.agg #[.string NB, .int .u32 (VA : Int), .int .u32 (SI : Int), .int .i64 (BI : Int), .int .i64 (PA : Int)], .bool QB]) ?_ rfl HP9
      rw [results_cell_tmp rfl]; simp [go_sem, s0, s1, s2, s3, s4]
  · have hq : (T.size : Int) ≤ (AT : Int) := by omega
    have dq := decide_eq_true hq
    have HN : Hid (rowOk strs row = false) := by
      show _ = _
      unfold rowOk endsAt
      rw [← hAT, decide_eq_false h]
      rfl
    clear hS0 hSl hT0 hTl hTz hAT hVA hSI hPA bAT bVA bSI bPA h hsz hr hs KV KI
    go_enter Try.func20, Try.ntmps20
    go_wp2_with fail
    refine KA.mono ?_
    rintro e w2 ⟨rfl, hb2⟩
    clear KA hW1
    have zz := HW1.out.2.1.keep hb2
    have HBZ : Hid (Below w.heap.size w w2) := HW1.out.1.trans (hb2.mono HW1.out.1.size)
    clear hb2 HW1
    obtain ⟨q0, q1, q2, q3, q4⟩ := zz.cells
    have f0 := zz.frozen 0
    have f1 := zz.frozen 1
    have f2 := zz.frozen 2
    have f3 := zz.frozen 3
    have f4 := zz.frozen 4
    obtain ⟨W9, hW9⟩ : ∃ z, ((((w2.setCell ⟨w.heap.size, 0, none⟩ (.string ⟨#[]⟩)).setCell ⟨w.heap.size, 1, none⟩ (.int .u32 0)).setCell ⟨w.heap.size, 2, none⟩ (.int .u32 0)).setCell ⟨w.heap.size, 3, none⟩ (.int .i64 0)).setCell ⟨w.heap.size, 4, none⟩ (.int .i64 0) = z := ⟨_, rfl⟩
    have g9 := st5_grown w2 w.heap.size zeroY
    have i9 := st5_in zz zeroY
    rw [show st5 w2 w.heap.size zeroY = W9 from hW9] at g9 i9
    have hc9 : W9.cell? ⟨w.heap.size, 0, none⟩ = some (.string ⟨#[]⟩) ∧ W9.cell? ⟨w.heap.size, 1, none⟩ = some (.int .u32 0) ∧ W9.cell? ⟨w.heap.size, 2, none⟩ = some (.int .u32 0) ∧ W9.cell? ⟨w.heap.size, 3, none⟩ = some (.int .i64 0) ∧ W9.cell? ⟨w.heap.size, 4, none⟩ = some (.int .i64 0) := i9.cells
    obtain ⟨s0, s1, s2, s3, s4⟩ := hc9
    have HB9 : Hid (Below w.heap.size w W9) := HBZ.out.grown g9 HBZ.out.size (fun k e => by injection e with e; omega)
    have HP9 := HP.out zeroY false W9 HN.out (by intro h; cases h) HB9.out
    clear zz g9 i9
    go_wp2
    refine bodyPost_ret (v := .tuple #[.agg #[.string ⟨#[]⟩, .int .u32 0, .int .u32 0, .int .i64 0, .int .i64 0], .bool false]) ?_ rfl HP9
    rw [results_cell_tmp rfl]; simp [go_sem, s0, s1, s2, s3, s4]
end Go.Proofs.Ytmkfgoacbehhcaa
