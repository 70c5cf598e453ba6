/- What is proved here: a symbol's address, and who loads a library. -/
import Derived.Test.YtgdflobcbhnimaaGreatPkb
import Derived.OrdersHeld
import Derived.Deep.RegionHeld
import Derived.Laws.Rows
import Derived.Test.YtgdflobcbhnimaaGreatETk
import Derived.Test.YtgdflobcbhnimaaGreatEHr
namespace Go.Proofs.YtgdflobcbhnimaaGreat
open Go.RowKit
set_option linter.unusedVariables false
set_option linter.unusedSimpArgs false
set_option maxRecDepth 100000
theorem below_dn {B : Nat} {w w1 : World} (h : Below B w w1) (n : Nat) : Below B w (w1.drewN n) := h.trans ⟨rfl, rfl, rfl, Nat.le_refl _, fun _ _ => rfl⟩
theorem grown_setRow (w : World) (n : Nat) (X : Array Value) : w.grownBy (w.setRow n X) (some n) :=
  ⟨rfl, rfl, rfl, Nat.le_of_eq (by simp), fun j _ hk => by
    unfold World.setRow
    simp only [Array.getElem?_modify]
    rw [if_neg (fun e => hk (by rw [e]))]⟩
/-- A whole variable is stored, as the only operation that may come up. -/
theorem wpAnyH_store {P : Program} {md : Region.Mode} {ops : Array Oper} {Q : Exit → Act → World → Prop} {S : World → Prop} {i : Nat} {o : Oper} {fuel : Nat} {listed : Array Bool} {a : Act} {w : World} (hr : Region.ready md ops listed = [i]) (ho : ops[i]? = some o) (hgd : o.guard = none) (hd : o.dst = none)
    (ty : TypeId) (x y : Operand) (hop : o.op = .store ty x y) (g : Nat) (cells : Array Value) (hx : a.eval x = .pointer (some ⟨g, 0, none⟩)) (hy : a.eval y = .agg cells)
    (t : TypeId) (old : Array Value) (hg : w.heap[g]? = some (.cells old t (0, 0))) (hi : (P.info? ty).map (·.size) = some cells.size) (hold : old.size = cells.size) (h1 : cells.all (·.oneCell') = true)
    (hS : S (w.setRow g cells)) (h : wpAnyH P md ops Q S fuel (listed.setIfInBounds i true) a (w.setRow g cells)) : wpAnyH P md ops Q S (fuel + 1) listed a w := by
  refine wpAnyH_all (rs := [i]) hr (by simp) ?_
  intro j hj
  obtain rfl : j = i := by simpa using hj
  refine wpOp_step ho ?_
  intro K hK
  simp only [Region.wanted, hgd, if_true]
  refine wp_store_row ty x y hop g cells hx hy t old hg hi hold h1 ?_
  rw [hd]
  exact hK _ _ ⟨hS, h⟩
set_option maxHeartbeats 1000000 in
theorem symbol87 (y : Ly) (q : Lv) (b : Nat) (s : Sy) (w : World) (h : BY y q b w) (ok : y.Ok) (hb : s.Bd) :
    Calls Tryz.prog 87 #[.pointer (some ⟨b, 0, none⟩), s.val] w fun e w' => e = .returned (.int .u32 (y.symV s : Int)) ∧ Below w.heap.size w w' := by
  obtain ⟨W1, hW1, hb1, hz1, q0, q1, q2, q3, q4⟩ := box5 w s
  have HB1 : Hid (Below w.heap.size w W1 ∧ BY y q b W1) := ⟨hb1, h.keep hb1⟩
  have K25 : Hid (∀ (p : Nat) w', p < 10 → Below W1.heap.size W1 w' → Calls Tryz.prog 25 #[.pointer (some ⟨b, 0, none⟩), .int .i64 (p : Int)] w' fun e w'' => e = .returned (.int .u32 (y.ad p : Int)) ∧ Below w'.heap.size w' w'') := fun p w' hp hw => address25 y q b p w' (HB1.out.2.keep hw) ok hp
  obtain ⟨V, hV⟩ : ∃ V, V = y.symV s := ⟨_, rfl⟩
  have hVb := y.symV_lt s
  rw [← hV] at hVb ⊢
  obtain ⟨SV, hSV⟩ : ∃ z, z = s.value := ⟨_, rfl⟩
  obtain ⟨SP, hSP⟩ : ∃ z, z = s.part := ⟨_, rfl⟩
  unfold Sy.val
  rw [← hSV, ← hSP] at hW1 ⊢
  rw [← hSV] at q1
  rw [← hSP] at q4
  clear hb1 hz1 h
  by_cases h1 : SP = 1
  · subst h1
    obtain ⟨A, hA⟩ : ∃ z, z = y.ad 7 := ⟨_, rfl⟩
    have hAb := ok.ad_le 7
    have K7 : Hid (∀ w', Below W1.heap.size W1 w' → Calls Tryz.prog 25 #[.pointer (some ⟨b, 0, none⟩), .int .i64 7] w' fun e w'' => e = .returned (.int .u32 (A : Int)) ∧ Below w'.heap.size w' w'') := fun w' hw => by rw [hA]; exact K25.out 7 w' (by decide) hw
    have eV : V = (A + SV) % 4294967296 := by rw [hV, hA, hSV]; unfold Ly.symV; rw [if_pos hSP.symm]
    have w1 : ((A : Int) + (SV : Int)) % 4294967296 = (V : Int) := by omega
    have w1' : IntKind.u32.wrap ((A : Int) + (SV : Int)) = (V : Int) := by rw [IntKind.wrap_u32]; exact w1
    clear hV eV hVb hAb hA hSV hSP ok K25 hb
    go_enter Tryz.func87, Tryz.ntmps87
    go_wp2
    refine wp_region_held_drew (S := fun w' => Below W1.heap.size W1 w') (by kernel_rfl) (Below.refl _ _).drew (fun hS => ?_)
    refine wpAnyH_take (i := 0) (v := .pointer (some ⟨b, 0, none⟩)) rfl (by kernel_rfl) (by kernel_rfl) (by kernel_rfl) (fun _ _ _ h => h) (Or.inl ⟨by kernel_rfl, fun wq hSw => ?_⟩) hS ?_
    · go_simp
    simp only [Act.put, List.getElem_toArray, List.getElem_cons_zero, List.getElem_cons_succ, List.setIfInBounds_toArray, List.set_cons_zero, List.set_cons_succ]
    refine wpAnyH_take (i := 2) (v := .pointer (some ⟨w.heap.size, 1, none⟩)) rfl (by kernel_rfl) (by kernel_rfl) (by kernel_rfl) (fun _ _ _ h => h) (Or.inl ⟨by kernel_rfl, fun wq hSw => ?_⟩) hS ?_
    · go_simp
    simp only [Act.put, List.getElem_toArray, List.getElem_cons_zero, List.getElem_cons_succ, List.setIfInBounds_toArray, List.set_cons_zero, List.set_cons_succ]
    refine wpAnyH_take (i := 3) (v := .int .u32 (SV : Int)) rfl (by kernel_rfl) (by kernel_rfl) (by kernel_rfl) (fun _ _ _ h => h) (Or.inl ⟨by kernel_rfl, fun wq hSw => ?_⟩) hS ?_
    · have p_ := keep_cell hSw q1; go_simp
    simp only [Act.put, List.getElem_toArray, List.getElem_cons_zero, List.getElem_cons_succ, List.setIfInBounds_toArray, List.set_cons_zero, List.set_cons_succ]
    refine wpAnyH_ready (rs := [1]) (by kernel_rfl) (by simp) (AllReadyH.cons rfl (fun K hK => ?_) AllReadyH.nil)
    refine if_yes (by kernel_rfl) ?_
    simp [go_sem]
    refine (K7.out _ hS).mono ?_
    rintro e w6 ⟨rfl, hb6⟩
    have hS := below_tr hS hb6
    refine hK.out _ _ hS (fun _ => ?_)
    clear hK K hb6
    try simp only [Act.put, List.getElem_toArray, List.getElem_cons_zero, List.getElem_cons_succ, List.setIfInBounds_toArray, List.set_cons_zero, List.set_cons_succ]
    refine wpAnyH_take (i := 4) (v := .int .u32 (V : Int)) rfl (by kernel_rfl) (by kernel_rfl) (by kernel_rfl) (fun _ _ _ h => h) (Or.inl ⟨by kernel_rfl, fun wq hSw => ?_⟩) hS ?_
    · go_simp
    simp only [Act.put, List.getElem_toArray, List.getElem_cons_zero, List.getElem_cons_succ, List.setIfInBounds_toArray, List.set_cons_zero, List.set_cons_succ]
    refine wpAnyH_take (i := 5) (v := .int .u32 (V : Int)) rfl (by kernel_rfl) (by kernel_rfl) (by kernel_rfl) (fun _ _ _ h => h) (Or.inl ⟨by kernel_rfl, fun wq hSw => ?_⟩) hS ?_
    · go_simp
    simp only [Act.put, List.getElem_toArray, List.getElem_cons_zero, List.getElem_cons_succ, List.setIfInBounds_toArray, List.set_cons_zero, List.set_cons_succ]
    refine wpAnyH_done (by kernel_rfl) ?_ _
    have HB9 : Hid (Below w.heap.size w _) := below_tr HB1.out.1 hS
    clear hS
    go_wp2
    go_ret
    exact ⟨rfl, HB9.out⟩
  · by_cases h2 : SP = 2
    · subst h2
      obtain ⟨A, hA⟩ : ∃ z, z = y.ad 9 := ⟨_, rfl⟩
      have hAb := ok.ad_le 9
      have K7 : Hid (∀ w', Below W1.heap.size W1 w' → Calls Tryz.prog 25 #[.pointer (some ⟨b, 0, none⟩), .int .i64 9] w' fun e w'' => e = .returned (.int .u32 (A : Int)) ∧ Below w'.heap.size w' w'') := fun w' hw => by rw [hA]; exact K25.out 9 w' (by decide) hw
      have eV : V = (A + SV) % 4294967296 := by rw [hV, hA, hSV]; unfold Ly.symV; rw [if_neg (by rw [← hSP]; decide), if_pos hSP.symm]
      have w1 : ((A : Int) + (SV : Int)) % 4294967296 = (V : Int) := by omega
      have w1' : IntKind.u32.wrap ((A : Int) + (SV : Int)) = (V : Int) := by rw [IntKind.wrap_u32]; exact w1
      clear hV eV hVb hAb hA hSV hSP ok K25 hb
      go_enter Tryz.func87, Tryz.ntmps87
      go_wp2
      refine wp_region_held_drew (S := fun w' => Below W1.heap.size W1 w') (by kernel_rfl) (Below.refl _ _).drew (fun hS => ?_)
      refine wpAnyH_take (i := 0) (v := .pointer (some ⟨b, 0, none⟩)) rfl (by kernel_rfl) (by kernel_rfl) (by kernel_rfl) (fun _ _ _ h => h) (Or.inl ⟨by kernel_rfl, fun wq hSw => ?_⟩) hS ?_
      · go_simp
      simp only [Act.put, List.getElem_toArray, List.getElem_cons_zero, List.getElem_cons_succ, List.setIfInBounds_toArray, List.set_cons_zero, List.set_cons_succ]
      refine wpAnyH_take (i := 2) (v := .pointer (some ⟨w.heap.size, 1, none⟩)) rfl (by kernel_rfl) (by kernel_rfl) (by kernel_rfl) (fun _ _ _ h => h) (Or.inl ⟨by kernel_rfl, fun wq hSw => ?_⟩) hS ?_
      · go_simp
      simp only [Act.put, List.getElem_toArray, List.getElem_cons_zero, List.getElem_cons_succ, List.setIfInBounds_toArray, List.set_cons_zero, List.set_cons_succ]
      refine wpAnyH_take (i := 3) (v := .int .u32 (SV : Int)) rfl (by kernel_rfl) (by kernel_rfl) (by kernel_rfl) (fun _ _ _ h => h) (Or.inl ⟨by kernel_rfl, fun wq hSw => ?_⟩) hS ?_
      · have p_ := keep_cell hSw q1; go_simp
      simp only [Act.put, List.getElem_toArray, List.getElem_cons_zero, List.getElem_cons_succ, List.setIfInBounds_toArray, List.set_cons_zero, List.set_cons_succ]
      refine wpAnyH_ready (rs := [1]) (by kernel_rfl) (by simp) (AllReadyH.cons rfl (fun K hK => ?_) AllReadyH.nil)
      refine if_yes (by kernel_rfl) ?_
      simp [go_sem]
      refine (K7.out _ hS).mono ?_
      rintro e w6 ⟨rfl, hb6⟩
      have hS := below_tr hS hb6
      refine hK.out _ _ hS (fun _ => ?_)
      clear hK K hb6
      try simp only [Act.put, List.getElem_toArray, List.getElem_cons_zero, List.getElem_cons_succ, List.setIfInBounds_toArray, List.set_cons_zero, List.set_cons_succ]
      refine wpAnyH_take (i := 4) (v := .int .u32 (V : Int)) rfl (by kernel_rfl) (by kernel_rfl) (by kernel_rfl) (fun _ _ _ h => h) (Or.inl ⟨by kernel_rfl, fun wq hSw => ?_⟩) hS ?_
      · go_simp
      simp only [Act.put, List.getElem_toArray, List.getElem_cons_zero, List.getElem_cons_succ, List.setIfInBounds_toArray, List.set_cons_zero, List.set_cons_succ]
      refine wpAnyH_take (i := 5) (v := .int .u32 (V : Int)) rfl (by kernel_rfl) (by kernel_rfl) (by kernel_rfl) (fun _ _ _ h => h) (Or.inl ⟨by kernel_rfl, fun wq hSw => ?_⟩) hS ?_
      · go_simp
      simp only [Act.put, List.getElem_toArray, List.getElem_cons_zero, List.getElem_cons_succ, List.setIfInBounds_toArray, List.set_cons_zero, List.set_cons_succ]
      refine wpAnyH_done (by kernel_rfl) ?_ _
      have HB9 : Hid (Below w.heap.size w _) := below_tr HB1.out.1 hS
      clear hS
      go_wp2
      go_ret
      exact ⟨rfl, HB9.out⟩
    · have e1 : (SP == 1) = false := by simpa using h1
      have e2 : (SP == 2) = false := by simpa using h2
      have eV : V = 0 := by rw [hV]; unfold Ly.symV; rw [if_neg (by rw [← hSP]; exact h1), if_neg (by rw [← hSP]; exact h2)]
      subst eV
      clear hV hVb hSV hSP ok K25 hb
      go_enter Tryz.func87, Tryz.ntmps87
      go_wp2
      go_ret
      exact ⟨rfl, HB1.out.1⟩
set_option maxHeartbeats 1000000 in
theorem loader63 (y : Ly) (q : Lv) (b : Nat) (w : World) (h : BY y q b w) (hl : y.lib.interp.length ≤ 31) :
    Calls Tryz.prog 63 #[.pointer (some ⟨b, 0, none⟩)] w fun e w' => e = .returned (.string ⟨y.loader.toArray⟩) ∧ Below w.heap.size w w' := by
  have c8 : w.cell? ⟨b, 8, none⟩ = some (.string ⟨y.lib.interp.toArray⟩) := h.lib 8 rfl
  obtain ⟨L, hL⟩ : ∃ L, L = y.lib.interp := ⟨_, rfl⟩
  have hy : y.loader = if L = [] then [] else L ++ [0] := by rw [hL]; rfl
  rw [← hL] at c8 hl
  rw [hy]
  clear hy hL h
  cases L with
  | nil =>
    go_enter Tryz.func63, Tryz.ntmps63
    go_wp2
    go_ret
    exact ⟨rfl, Below.refl _ _⟩
  | cons a t =>
    rw [if_neg (by simp)]
    obtain ⟨B, hB⟩ : ∃ B : ByteArray, B = ⟨(a :: t).toArray⟩ := ⟨_, rfl⟩
    have hBl : B.toList = a :: t := by rw [hB]; exact bal _
    have hBz : B.size ≤ 31 := by rw [← bt_len, hBl]; exact hl
    have e1 : B.toList.isEmpty = false := by rw [hBl]; rfl
    have hz : (B.toList == []) = false := by rw [hBl]; rfl
    have hn : ¬ B.toList = [] := by rw [hBl]; simp
    have e : (⟨(a :: t ++ [0]).toArray⟩ : ByteArray) = B ++ ⟨#[0]⟩ := by
      apply ByteArray.ext
      rw [hB]
      simp [ByteArray.data_append]
    have hlt : ¬ 9223372036854775807 < B.size + 1 := by omega
    rw [e]
    obtain ⟨R, hR⟩ : ∃ R : ByteArray, B ++ ⟨#[0]⟩ = R := ⟨_, rfl⟩
    rw [hR]
    rw [← hB] at c8
    clear e hB hBl hBz hl
    go_enter Tryz.func63, Tryz.ntmps63
    go_wp2
    go_ret
    exact ⟨rfl, Below.refl _ _⟩
end Go.Proofs.YtgdflobcbhnimaaGreat
namespace Go.Proofs.YtgdflobcbhnimaaGreat
open Go.RowKit 
set_option linter.unusedVariables false
set_option linter.unusedSimpArgs false
set_option maxRecDepth 100000
open E (Sg B7)
/-- Of an elder world nothing has turned, and a variable of its own lies in block b. -/
def SB (w0 : World) (b T k : Nat) (w : World) : Prop := Below w0.heap.size w0 w ∧ ∃ old : Array Value, w.heap[b]? = some (.cells old T (0, 0)) ∧ old.size = k
theorem SB.step {w0 w w' : World} {b T k : Nat} (h : SB w0 b T k w) (hb : Below w.heap.size w w') : SB w0 b T k w' := by
  obtain ⟨h1, old, h2, h3⟩ := h
  exact ⟨below_tr h1 hb, old, (hb.block b (Array.getElem?_eq_some_iff.1 h2).1).trans h2, h3⟩
theorem SB.set {w0 w : World} {b T k : Nat} (h : SB w0 b T k w) (hb : w0.heap.size ≤ b) (X : Array Value) (hX : X.size = k) : SB w0 b T k (w.setRow b X) ∧ (w.setRow b X).heap[b]? = some (.cells X T (0, 0)) := by
  obtain ⟨h1, old, h2, h3⟩ := h
  have h4 := setRow_heap w b old X T _ h2
  exact ⟨⟨h1.grown (grown_setRow w b X) h1.size (fun k e => by injection e with e; omega), X, h4, hX⟩, h4⟩
theorem new_heap (w : World) (X : Array Value) (T : Nat) : (w.alloc (.cells X T)).heap[w.heap.size]? = some (.cells X T (0, 0)) := by unfold World.alloc; simp
theorem wpAnyH_put {P : Program} {md : Region.Mode} {ops : Array Oper} {Q : Exit → Act → World → Prop} {w0 : World} {i : Nat} {o : Oper} {fuel : Nat} {listed : Array Bool} {a : Act} {w : World} (hr : Region.ready md ops listed = [i]) (ho : ops[i]? = some o) (hgd : o.guard = none) (hd : o.dst = none)
    (ty : TypeId) (x y : Operand) (hop : o.op = .store ty x y) (g : Nat) (cells : Array Value) (hx : a.eval x = .pointer (some ⟨g, 0, none⟩)) (hy : a.eval y = .agg cells)
    (hS : SB w0 g ty cells.size w) (hb : w0.heap.size ≤ g) (hi : (P.info? ty).map (·.size) = some cells.size) (hk : cells.size = cells.size) (h1 : cells.all (·.oneCell') = true)
    (h : ∀ w', SB w0 g ty cells.size w' → w'.heap[g]? = some (.cells cells ty (0, 0)) → wpAnyH P md ops Q (SB w0 g ty cells.size) fuel (listed.setIfInBounds i true) a w') : wpAnyH P md ops Q (SB w0 g ty cells.size) (fuel + 1) listed a w := by
  obtain ⟨hb1, old, hg, hold⟩ := id hS
  have hs := hS.set hb cells rfl
  exact wpAnyH_store hr ho hgd hd ty x y hop g cells hx hy ty old hg hi hold h1 hs.1 (h _ hs.1 hs.2)
theorem seven {w : World} {b T : Nat} {a0 a1 a2 a3 a4 a5 a6 : Value} (h : w.heap[b]? = some (.cells #[a0, a1, a2, a3, a4, a5, a6] T (0, 0))) : w.cell? ⟨b, 0, none⟩ = some a0 ∧ w.cell? ⟨b, 1, none⟩ = some a1 ∧ w.cell? ⟨b, 2, none⟩ = some a2 ∧ w.cell? ⟨b, 3, none⟩ = some a3 ∧ w.cell? ⟨b, 4, none⟩ = some a4 ∧ w.cell? ⟨b, 5, none⟩ = some a5 ∧ w.cell? ⟨b, 6, none⟩ = some a6 := by
  refine ⟨?_, ?_, ?_, ?_, ?_, ?_, ?_⟩ <;> simp [World.cell?, h]
set_option maxHeartbeats 2000000 in
theorem segment55 (y : Ly) (q : Lv) (b : Nat) (kind : Int) (first last : Nat) (prot : Int) (align : Nat) (w : World) (h : BY y q b w) (ok : y.Ok) (hf : first < 10) (hl : last < 10) (hm : y.at_ first ≤ y.at_ last + y.size last) :
    Calls Tryz.prog 55 #[.pointer (some ⟨b, 0, none⟩), .int .i64 kind, .int .i64 (first : Int), .int .i64 (last : Int), .int .i64 prot, .int .u32 (align : Int)] w fun e w' => e = .returned ((y.seg kind first last prot align).val) ∧ Below w.heap.size w w' := by
  obtain ⟨W1, hW1⟩ : ∃ z, w.alloc (.cells #[.int .i64 0, .int .u32 0, .int .u32 0, .int .u32 0, .int .u32 0, .int .i64 0, .int .u32 0] 41) = z := ⟨_, rfl⟩
  have hbw : Below w.heap.size w W1 := by rw [← hW1]; exact (Below.refl _ _).alloc (Nat.le_refl _) _
  have HZ : Hid (SB w w.heap.size 41 7 W1) := ⟨hbw, _, by rw [← hW1]; exact new_heap w _ _, rfl⟩
  have HY : Hid (BY y q b w) := h
  have K25 : Hid (∀ w', Below w.heap.size w w' → Calls Tryz.prog 25 #[.pointer (some ⟨b, 0, none⟩), .int .i64 (first : Int)] w' fun e w'' => e = .returned (.int .u32 (y.ad first : Int)) ∧ Below w'.heap.size w' w'') := fun w' hw => address25 y q b first w' (HY.out.keep hw) ok hf
  have c1 := (HY.out.keep hbw).ats last hl
  have c2 := (HY.out.keep hbw).sizes last hl
  have c3 := (HY.out.keep hbw).ats first hf
  have d3 := HY.out.ats first hf
  have a1 := ok.a last; have a2 := ok.s last; have a3 := ok.a first
  obtain ⟨g, hg⟩ : ∃ g, g = y.seg kind first last prot align := ⟨_, rfl⟩
  obtain ⟨D, hD⟩ : ∃ z, z = y.ad first := ⟨_, rfl⟩
  obtain ⟨AF, hAF⟩ : ∃ z, z = y.at_ first := ⟨_, rfl⟩
  obtain ⟨AL, hAL⟩ : ∃ z, z = y.at_ last := ⟨_, rfl⟩
  obtain ⟨SL, hSL⟩ : ∃ z, z = y.size last := ⟨_, rfl⟩
  obtain ⟨SU, hSU⟩ : ∃ z, z = AL + SL := ⟨_, rfl⟩
  obtain ⟨SZ, hSZ⟩ : ∃ z, z = SU - AF := ⟨_, rfl⟩
  have hgv : g = ⟨kind, AF, D, SZ, SZ, prot, align⟩ := by rw [hg, hSZ, hSU, hAF, hAL, hSL, hD]; rfl
  rw [← hg]
  rw [← hD] at K25
  rw [← hAF] at c3 d3 a3 hm
  rw [← hAL] at c1 a1 hm
  rw [← hSL] at c2 a2 hm
  rw [← hSU] at hm
  clear hg
  subst hgv
  have e1 : (AL : Int) + (SL : Int) = (SU : Int) := by omega
  have e2 : (SU : Int) % 4294967296 = (SU : Int) := by omega
  have e2' : IntKind.u32.wrap (SU : Int) = (SU : Int) := by rw [IntKind.wrap_u32]; exact e2
  have e3 : (SU : Int) - (AF : Int) = (SZ : Int) := by omega
  have e4 : (SZ : Int) % 4294967296 = (SZ : Int) := by omega
  have e4' : IntKind.u32.wrap (SZ : Int) = (SZ : Int) := by rw [IntKind.wrap_u32]; exact e4
  have hfi : (first : Int) < 10 := by omega
  have hli : (last : Int) < 10 := by omega
  clear h hbw ok hD hAF hAL hSL hSU hSZ hm a1 a2 a3 hf hl
  show Calls _ _ _ _ fun e w' => e = .returned (.agg #[.int .i64 kind, .int .u32 (AF : Int), .int .u32 (D : Int), .int .u32 (SZ : Int), .int .u32 (SZ : Int), .int .i64 prot, .int .u32 (align : Int)]) ∧ Below w.heap.size w w'
  go_enter Tryz.func55, Tryz.ntmps55
  go_wp2
  go_quiet (fail)
  go_wp2
  refine wp_region_held_drew (S := SB w w.heap.size 41 7) (by kernel_rfl) (by exact HZ.out.step ((Below.refl _ _).trans ⟨rfl, rfl, rfl, Nat.le_refl _, fun _ _ => rfl⟩)) (fun hS => ?_)
  refine wpAnyH_take (i := 0) (v := .int .i64 kind) rfl (by kernel_rfl) (by kernel_rfl) (by kernel_rfl) (fun _ _ _ h => h) (Or.inl ⟨by kernel_rfl, fun wq hSw => ?_⟩) hS ?_
  · go_simp
  simp only [Act.put, List.getElem_toArray, List.getElem_cons_zero, List.getElem_cons_succ, List.setIfInBounds_toArray, List.set_cons_zero, List.set_cons_succ]
  refine wpAnyH_take (i := 1) (v := .pointer (some ⟨b, 0, none⟩)) rfl (by kernel_rfl) (by kernel_rfl) (by kernel_rfl) (fun _ _ _ h => h) (Or.inl ⟨by kernel_rfl, fun wq hSw => ?_⟩) hS ?_
  · go_simp
  simp only [Act.put, List.getElem_toArray, List.getElem_cons_zero, List.getElem_cons_succ, List.setIfInBounds_toArray, List.set_cons_zero, List.set_cons_succ]
  refine wpAnyH_take (i := 2) (v := .int .i64 (first : Int)) rfl (by kernel_rfl) (by kernel_rfl) (by kernel_rfl) (fun _ _ _ h => h) (Or.inl ⟨by kernel_rfl, fun wq hSw => ?_⟩) hS ?_
  · go_simp
  simp only [Act.put, List.getElem_toArray, List.getElem_cons_zero, List.getElem_cons_succ, List.setIfInBounds_toArray, List.set_cons_zero, List.set_cons_succ]
  refine wpAnyH_take (i := 3) (v := .pointer (some ⟨b, 0, none⟩)) rfl (by kernel_rfl) (by kernel_rfl) (by kernel_rfl) (fun _ _ _ h => h) (Or.inl ⟨by kernel_rfl, fun wq hSw => ?_⟩) hS ?_
  · go_simp
  simp only [Act.put, List.getElem_toArray, List.getElem_cons_zero, List.getElem_cons_succ, List.setIfInBounds_toArray, List.set_cons_zero, List.set_cons_succ]
  refine wpAnyH_take (i := 4) (v := .pointer (some ⟨b, 14, none⟩)) rfl (by kernel_rfl) (by kernel_rfl) (by kernel_rfl) (fun _ _ _ h => h) (Or.inl ⟨by kernel_rfl, fun wq hSw => ?_⟩) hS ?_
  · go_simp
  simp only [Act.put, List.getElem_toArray, List.getElem_cons_zero, List.getElem_cons_succ, List.setIfInBounds_toArray, List.set_cons_zero, List.set_cons_succ]
  refine wpAnyH_take (i := 5) (v := .pointer (some ⟨b, 14 + first, none⟩)) rfl (by kernel_rfl) (by kernel_rfl) (by kernel_rfl) (fun _ _ _ h => h) (Or.inl ⟨by kernel_rfl, fun wq hSw => ?_⟩) hS ?_
  · go_simp
  simp only [Act.put, List.getElem_toArray, List.getElem_cons_zero, List.getElem_cons_succ, List.setIfInBounds_toArray, List.set_cons_zero, List.set_cons_succ]
  refine wpAnyH_take (i := 6) (v := .int .u32 (AF : Int)) rfl (by kernel_rfl) (by kernel_rfl) (by kernel_rfl) (fun _ _ _ h => h) (Or.inl ⟨by kernel_rfl, fun wq hSw => ?_⟩) hS ?_
  · have p_ := keep_cell hSw.1 d3; go_simp
  simp only [Act.put, List.getElem_toArray, List.getElem_cons_zero, List.getElem_cons_succ, List.setIfInBounds_toArray, List.set_cons_zero, List.set_cons_succ]
  refine wpAnyH_take (i := 7) (v := .pointer (some ⟨b, 0, none⟩)) rfl (by kernel_rfl) (by kernel_rfl) (by kernel_rfl) (fun _ _ _ h => h) (Or.inl ⟨by kernel_rfl, fun wq hSw => ?_⟩) hS ?_
  · go_simp
  simp only [Act.put, List.getElem_toArray, List.getElem_cons_zero, List.getElem_cons_succ, List.setIfInBounds_toArray, List.set_cons_zero, List.set_cons_succ]
  refine wpAnyH_take (i := 8) (v := .int .i64 (first : Int)) rfl (by kernel_rfl) (by kernel_rfl) (by kernel_rfl) (fun _ _ _ h => h) (Or.inl ⟨by kernel_rfl, fun wq hSw => ?_⟩) hS ?_
  · go_simp
  simp only [Act.put, List.getElem_toArray, List.getElem_cons_zero, List.getElem_cons_succ, List.setIfInBounds_toArray, List.set_cons_zero, List.set_cons_succ]
  refine wpAnyH_take (i := 10) (v := .int .u32 (SZ : Int)) rfl (by kernel_rfl) (by kernel_rfl) (by kernel_rfl) (fun _ _ _ h => h) (Or.inl ⟨by kernel_rfl, fun wq hSw => ?_⟩) hS ?_
  · go_simp
  simp only [Act.put, List.getElem_toArray, List.getElem_cons_zero, List.getElem_cons_succ, List.setIfInBounds_toArray, List.set_cons_zero, List.set_cons_succ]
  refine wpAnyH_take (i := 11) (v := .int .u32 (SZ : Int)) rfl (by kernel_rfl) (by kernel_rfl) (by kernel_rfl) (fun _ _ _ h => h) (Or.inl ⟨by kernel_rfl, fun wq hSw => ?_⟩) hS ?_
  · go_simp
  simp only [Act.put, List.getElem_toArray, List.getElem_cons_zero, List.getElem_cons_succ, List.setIfInBounds_toArray, List.set_cons_zero, List.set_cons_succ]
  refine wpAnyH_take (i := 12) (v := .int .i64 prot) rfl (by kernel_rfl) (by kernel_rfl) (by kernel_rfl) (fun _ _ _ h => h) (Or.inl ⟨by kernel_rfl, fun wq hSw => ?_⟩) hS ?_
  · go_simp
  simp only [Act.put, List.getElem_toArray, List.getElem_cons_zero, List.getElem_cons_succ, List.setIfInBounds_toArray, List.set_cons_zero, List.set_cons_succ]
  refine wpAnyH_take (i := 13) (v := .int .u32 (align : Int)) rfl (by kernel_rfl) (by kernel_rfl) (by kernel_rfl) (fun _ _ _ h => h) (Or.inl ⟨by kernel_rfl, fun wq hSw => ?_⟩) hS ?_
  · go_simp
  simp only [Act.put, List.getElem_toArray, List.getElem_cons_zero, List.getElem_cons_succ, List.setIfInBounds_toArray, List.set_cons_zero, List.set_cons_succ]
  refine wpAnyH_ready (rs := [9]) (by kernel_rfl) (by simp) (AllReadyH.cons rfl (fun K hK => ?_) AllReadyH.nil)
  refine if_yes (by kernel_rfl) ?_
  simp [go_sem]
  refine (K25.out _ hS.1).mono ?_
  rintro e w6 ⟨rfl, hb6⟩
  have hS := hS.step hb6
  refine hK.out _ _ hS (fun _ => ?_)
  clear hK K hb6
  try simp only [Act.put, List.getElem_toArray, List.getElem_cons_zero, List.getElem_cons_succ, List.setIfInBounds_toArray, List.set_cons_zero, List.set_cons_succ]
  refine wpAnyH_take (i := 14) (v := .agg #[.int .i64 kind, .int .u32 (AF : Int), .int .u32 (D : Int), .int .u32 (SZ : Int), .int .u32 (SZ : Int), .int .i64 prot, .int .u32 (align : Int)]) rfl (by kernel_rfl) (by kernel_rfl) (by kernel_rfl) (fun _ _ _ h => h) (Or.inl ⟨by kernel_rfl, fun wq hSw => ?_⟩) hS ?_
  · go_simp
  simp only [Act.put, List.getElem_toArray, List.getElem_cons_zero, List.getElem_cons_succ, List.setIfInBounds_toArray, List.set_cons_zero, List.set_cons_succ]
  refine wpAnyH_put (i := 15) (by kernel_rfl) rfl (by kernel_rfl) (by kernel_rfl) 41 (.tmp 12) (.tmp 48) (by kernel_rfl) w.heap.size #[.int .i64 kind, .int .u32 (AF : Int), .int .u32 (D : Int), .int .u32 (SZ : Int), .int .u32 (SZ : Int), .int .i64 prot, .int .u32 (align : Int)] (by kernel_rfl) (by kernel_rfl) hS (Nat.le_refl _) (by kernel_rfl) rfl (by kernel_rfl) (fun W9 hS i9 => ?_)
  refine wpAnyH_done (by kernel_rfl) ?_ _
  have H9 : Hid (Below w.heap.size w W9) := hS.1
  obtain ⟨s0, s1, s2, s3, s4, s5, s6⟩ := seven i9
  clear hS i9 d3 K25 HZ
  go_wp2
  refine bodyPost_ret (v := .agg #[.int .i64 kind, .int .u32 (AF : Int), .int .u32 (D : Int), .int .u32 (SZ : Int), .int .u32 (SZ : Int), .int .i64 prot, .int .u32 (align : Int)]) ?_ rfl ?_
  · rw [results_cell1 rfl]; simp [go_sem, s0, s1, s2, s3, s4, s5, s6]
  · exact ⟨rfl, H9.out⟩
end Go.Proofs.YtgdflobcbhnimaaGreat
