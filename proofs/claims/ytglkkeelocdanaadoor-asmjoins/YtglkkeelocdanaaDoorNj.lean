/- What is proved here: a line is read as an instruction, or it throws: the program's ins. -/
import Derived.Test.YtglkkeelocdanaaDoorNh
import Derived.Defers
import Derived.Recover
import Derived.Laws.Pointers
namespace Go.Proofs.YtglkkeelocdanaaDoor
open Go.RowKit
set_option linter.unusedVariables false
set_option linter.unusedSimpArgs false
set_option maxRecDepth 100000
attribute [local go_sem] Oper.semAt_some
theorem WpAt.block {f0 : FuncId} {n : Nat} {P : Program} {Q : Exit → Act → World → Prop} {a : Act} {w : World} {id : Nat} {c : Code} (h : WpAt f0 n P c (Exit.inBlock id Q) a w) : WpAt f0 n P (Code.block id c) Q a w := by
  intro b k cs hf hro
  have hb : Fence.wide.fn b.fn := trivial
  have hr : Fence.wide.room (cs.length + 1 + n) := room_wide _
  have h0 : (lone (b.atR a (.code (.block id c) :: k)) cs w).fenced P Fence.wide := fenced_calm hb hr rfl
  obtain ⟨e, a₁, w₁, hq, harr⟩ := h b (.inBlock id :: k) cs hf hro
  cases e with
  | normal => exact ⟨.normal, a₁, w₁, hq, .head h0 stepR_block (StepsIn.trans harr (.one (fenced_calm hb hr rfl) stepR_inBlock))⟩
  | exit id' =>
    by_cases hid : id' = id
    · simp only [Exit.inBlock, hid, if_true] at hq
      exact ⟨.normal, a₁, w₁, hq, .head h0 stepR_block (harr.1 k (by simp [exitTo, hid]))⟩
    · simp only [Exit.inBlock, hid, if_false] at hq
      have this : (id == id') = false := by simp; exact fun h => hid h.symm
      have hx : exitTo id' (.inBlock id :: k) = exitTo id' k := by simp [exitTo, this]
      exact ⟨.exit id', a₁, w₁, hq, fun k' hk => .head h0 stepR_block (harr.1 k' (by rw [hx]; exact hk)),
        fun hr' hk => let ⟨k₁, h1, h2⟩ := harr.2 hr' (by rw [hx]; exact hk); ⟨k₁, h1, .head h0 stepR_block h2⟩⟩
  | goto l =>
    have hx : gotoIn l (.inBlock id :: k) = gotoIn l k := by simp [gotoIn]
    exact ⟨_, a₁, w₁, hq, fun k' hk => .head h0 stepR_block (harr.1 k' (by rw [hx]; exact hk)),
      fun hr' hk => let ⟨k₁, h1, h2⟩ := harr.2 hr' (by rw [hx]; exact hk); ⟨k₁, h1, .head h0 stepR_block h2⟩⟩
  | ret => exact ⟨_, a₁, w₁, hq, .of_steps (.one h0 stepR_block) harr⟩
  | panic ch => exact ⟨_, a₁, w₁, hq, .of_steps (.one h0 stepR_block) harr⟩
  | outgrown => exact ⟨_, a₁, w₁, hq, .of_steps (.one h0 stepR_block) harr⟩
theorem blk_set {w : World} {b : Nat} {cs : Array Value} {t : Nat} (h : w.heap[b]? = some (.cells cs t (0, 0))) (k : Nat) (v : Value) : (w.setCell ⟨b, k, none⟩ v).heap[b]? = some (.cells (cs.setIfInBounds k v) t (0, 0)) := by
  obtain ⟨hlt, hk⟩ := Array.getElem?_eq_some_iff.1 h
  show (w.heap.modify b _)[b]? = _
  rw [Array.getElem?_eq_getElem (by rw [Array.size_modify]; exact hlt), Array.getElem_modify_self, hk]
  simp
theorem grown_setk (w : World) (b k : Nat) (v : Value) : w.grownBy (w.setCell ⟨b, k, none⟩ v) (some b) :=
  ⟨rfl, rfl, rfl, (KeepsWalks.setCell w _ v).size, fun j _ hk => Below.heap_setCell _ _ _ j (fun e => hk (by rw [e]))⟩
theorem In6.set1 {i : In} {b : Nat} {w : World} (h : In6 i b w) (v : Int) : In6 { i with rs := v } b (w.setCell ⟨b, 1, none⟩ (.int .i64 v)) := blk_set h 1 _
theorem In6.set2 {i : In} {b : Nat} {w : World} (h : In6 i b w) (v : Int) : In6 { i with rt := v } b (w.setCell ⟨b, 2, none⟩ (.int .i64 v)) := blk_set h 2 _
theorem In6.set3 {i : In} {b : Nat} {w : World} (h : In6 i b w) (v : Int) : In6 { i with rd := v } b (w.setCell ⟨b, 3, none⟩ (.int .i64 v)) := blk_set h 3 _
theorem In6.set4 {i : In} {b : Nat} {w : World} (h : In6 i b w) (v : Int) : In6 { i with sa := v } b (w.setCell ⟨b, 4, none⟩ (.int .i64 v)) := blk_set h 4 _
theorem In6.set5 {i : In} {b : Nat} {w : World} (h : In6 i b w) (v : Nat) : In6 { i with imm := v } b (w.setCell ⟨b, 5, none⟩ (.int .u32 (v : Int))) := blk_set h 5 _
/-- Six cells are stored. -/
def st6 (w : World) (b : Nat) (i : In) : World := (((((w.setCell ⟨b, 0, none⟩ (.string i.name)).setCell ⟨b, 1, none⟩ (.int .i64 i.rs)).setCell ⟨b, 2, none⟩ (.int .i64 i.rt)).setCell ⟨b, 3, none⟩ (.int .i64 i.rd)).setCell ⟨b, 4, none⟩ (.int .i64 i.sa)).setCell ⟨b, 5, none⟩ (.int .u32 (i.imm : Int))
theorem st6_in {w : World} {b : Nat} {j : In} (h : In6 j b w) (i : In) : In6 i b (st6 w b i) := by
  have h0 := blk_set h 0 (.string i.name)
  have h1 := blk_set h0 1 (.int .i64 i.rs)
  have h2 := blk_set h1 2 (.int .i64 i.rt)
  have h3 := blk_set h2 3 (.int .i64 i.rd)
  have h4 := blk_set h3 4 (.int .i64 i.sa)
  exact blk_set h4 5 (.int .u32 (i.imm : Int))
theorem st6_grown (w : World) (b : Nat) (i : In) : w.grownBy (st6 w b i) (some b) :=
  gb_trans (gb_trans (gb_trans (gb_trans (gb_trans (grown_setk w b 0 _) (grown_setk _ b 1 _)) (grown_setk _ b 2 _)) (grown_setk _ b 3 _)) (grown_setk _ b 4 _)) (grown_setk _ b 5 _)
theorem imI_and (v : Int) : bits .and .u32 (v % 4294967296) 65535 = (imI v : Int) := by
  obtain ⟨m, hm⟩ : ∃ m : Nat, v % 4294967296 = (m : Int) := ⟨(v % 4294967296).toNat, by omega⟩
  rw [hm]
  have e := and_u32 m 65535 (by omega) (by decide)
  rw [show (65535 : Int) = ((65535 : Nat) : Int) from rfl, e]
  have e2 : m &&& 65535 = m % 65536 := Nat.and_two_pow_sub_one_eq_mod m 16
  rw [e2]
  unfold imI
  omega
theorem imU_wrap (v : Int) : v % 4294967296 = (imU v : Int) := by unfold imU; omega
theorem step_len {x : L8} {s r : In × L8} (h : stepR x s = some r) : r.2.length ≤ s.2.length := by
  have hn : ∀ q, numR s.2 = some q → q.2.length ≤ s.2.length := fun q hq => by
    unfold numR at hq
    split at hq
    · injection hq with hq
      rw [← hq]
      exact (List.dropWhile_suffix _).length_le
    · cases hq
  unfold stepR at h
  repeat' split at h
  all_goals
    first
    | (obtain ⟨q, h1, h2⟩ := Option.map_eq_some_iff.1 h
       rw [← h2]
       exact hn q h1)
    | (obtain ⟨q, h1, h2⟩ := Option.map_eq_some_iff.1 h
       rw [← h2]
       unfold textR at h1
       split at h1
       · injection h1 with h1
         rw [← h1]
         simp
       · cases h1)
theorem step_imm {x : L8} {s r : In × L8} (h : stepR x s = some r) (hs : s.1.imm < 4294967296) : r.1.imm < 4294967296 := by
  unfold stepR at h
  repeat' split at h
  all_goals
    obtain ⟨q, h1, h2⟩ := Option.map_eq_some_iff.1 h
    rw [← h2]
    first | exact hs | (show imI _ < _; unfold imI; omega) | (show imU _ < _; unfold imU; omega)
/-- The next of some parts. -/
def PtNx' (xs : List L8) (pre : List L8) (x : L8) : Prop := ∃ suf, pre ++ x :: suf = xs
def zeroI : In := ⟨⟨#[]⟩, 0, 0, 0, 0, 0⟩
theorem keeps_cells {w w' : World} {R : Nat} {t : Nat} {v : Value} (hg : w.grownBy w' (some R)) (hr : Boxed w R t v) : KeepsOthers w w' :=
  KeepsOthers.of_grownBy hg (fun j o e ho => by injection e with e; subst e; rw [show w.heap[R]? = _ from hr] at ho; cases ho; rfl)
theorem gb_out {a b c : World} {R k : Nat} (h : a.grownBy b (some R)) (g : b.grownBy c (some k)) (hk : a.heap.size ≤ k) : a.grownBy c (some R) :=
  ⟨g.os.trans h.os, g.tape.trans h.tape, g.output.trans h.output, Nat.le_trans h.size g.size, fun i hi hr => (g.block i (Nat.lt_of_lt_of_le hi h.size) (by intro e; injection e with e; omega)).trans (h.block i hi hr)⟩
theorem WpAt.seq_k {f0 : FuncId} {n : Nat} {P : Program} {Q : Exit → Act → World → Prop} {a : Act} {w : World} {x y : Code} (h : ∀ K : Act → World → Prop, (∀ a w, WpAt f0 n P y Q a w → K a w) → x.wpIn Fence.wide n P (Exit.then K Q) a w) : WpAt f0 n P (Code.seq x y) Q a w :=
  WpAt.seq (WpAt.of (h _ fun _ _ h => h))
theorem WpAt.seq_q {f0 : FuncId} {n : Nat} {P : Program} {Q : Exit → Act → World → Prop} {a : Act} {w : World} {x y : Code} (h : ∀ (K : Act → World → Prop) (Q' : Exit → Act → World → Prop), (∀ a w, WpAt f0 n P y Q a w → K a w) → x.wpIn Fence.wide n P (Exit.then K Q') a w) : WpAt f0 n P (Code.seq x y) Q a w :=
  WpAt.seq (WpAt.of (h _ _ fun _ _ h => h))
theorem lw_grown {w0 w w' : World} {R : Nat} (hl : Lw w0) (hb : Below w0.heap.size w0 w) (hR : w0.heap.size ≤ R) (hg : w.grownBy w' (some R)) : Lw w' := hl.keep (hb.grown hg hb.size (fun k e => by injection e with e; omega))
set_option maxHeartbeats 2000000 in
theorem ins17 (R : Nat) (l : L8) (hn : l.length ≤ 100000) (w w0 : World) (hr : Rd R w l) (hl0 : Lw w0) (hb0 : Below w0.heap.size w0 w) (hR0 : w0.heap.size ≤ R) :
    Calls Tryd.prog 14 #[.pointer (some ⟨R, 0, none⟩)] w fun e w' => match insR l with
      | some i => e = .returned i.val ∧ w.grownBy w' (some R)
      | none => e = .panicked thrown110 ∧ w.grownBy w' (some R) := by
  obtain ⟨post, hpost⟩ : ∃ p : Ending → World → Prop, p = fun e w' => match insR l with
      | some i => e = .returned i.val ∧ w.grownBy w' (some R)
      | none => e = .panicked thrown110 ∧ w.grownBy w' (some R) := ⟨_, rfl⟩
  rw [← hpost]
  have HPS : Hid (∀ i w', insR l = some i → w.grownBy w' (some R) → post (.returned i.val) w') := fun i w' h hg => by rw [hpost]; simp only [h]; exact ⟨by trivial, hg⟩
  have HPN : Hid (∀ w', insR l = none → w.grownBy w' (some R) → post (.panicked thrown110) w') := fun w' h hg => by rw [hpost]; simp only [h]; exact ⟨by trivial, hg⟩
  have HLK : Hid (∀ W', w.grownBy W' (some R) → Lw W') := fun W' hg => lw_grown hl0 hb0 hR0 hg
  clear hpost
  obtain ⟨W1, hW1⟩ : ∃ z, (w.alloc (.cells #[.pointer (some ⟨R, 0, none⟩)] 43)).alloc (.cells #[.string ⟨#[]⟩, .int .i64 0, .int .i64 0, .int .i64 0, .int .i64 0, .int .u32 0] 29) = z := ⟨_, rfl⟩
  have hb1 : Below w.heap.size w W1 := by rw [← hW1]; exact ((Below.refl _ _).alloc (Nat.le_refl _) _).alloc (by simp) _
  have hs1 : W1.heap.size = w.heap.size + 2 := by rw [← hW1]; simp
  have x1 : Boxed W1 w.heap.size 43 (.pointer (some ⟨R, 0, none⟩)) := by rw [← hW1]; exact (Boxed.new w 43 _).alloc _
  have z1 : In6 zeroI (w.heap.size + 1) W1 := by
    have := In6.new zeroI (w.alloc (.cells #[.pointer (some ⟨R, 0, none⟩)] 43))
    rw [World.size_alloc] at this
    rw [← hW1]
    exact this
  have r1 : Rd R W1 l := (hb1.block _ hr.lt).trans hr
  obtain ⟨LB, hLB⟩ : ∃ z : ByteArray, z = ⟨l.toArray⟩ := ⟨_, rfl⟩
  have c1 := x1.cell
  have cr := r1.cell
  rw [← hLB] at cr
  have HLB : Hid (LB = ⟨l.toArray⟩) := hLB
  have HRlt : Hid (R < w.heap.size) := hr.lt
  have H1 : Hid (w.grownBy W1 (some R) ∧ W1.heap.size = w.heap.size + 2 ∧ Boxed W1 w.heap.size 43 (.pointer (some ⟨R, 0, none⟩)) ∧ In6 zeroI (w.heap.size + 1) W1 ∧ Rd R W1 l) := ⟨grown_of hb1, hs1, x1, z1, r1⟩
  clear hLB x1 z1 r1 hr hl0 hb0 hR0 hb1 hs1
  refine callsIn_wide.1 (callsIn_of_at (n := 3) Tryd.func14 rfl ?_)
  simp only [Tryd.ntmps14, List.size_toArray, List.length_cons, List.length_nil, Nat.reduceAdd, Nat.reduceSub, Array.replicate_succ, Array.replicate_zero, List.push_toArray, List.append_toArray, List.nil_append, List.cons_append]
  refine WpAt.seq_k (fun K hK => wpIn_wide.2 ?_)
  go_wp2
  clear hW1
  refine WpAt.seq_k (fun K hK => wpIn_wide.2 ?_)
  go_wp2
  refine WpAt.seq_k (fun K hK => wpIn_wide.2 ?_)
  by_cases hf : formL8 ⟨(nameOf l).toArray⟩ = []
  · have K43 := name43_no R l hn W1 H1.out.2.2.2.2 (HLK.out W1 H1.out.1) hf
    have HN : Hid (insR l = none) := by show _ = _; unfold insR; rw [if_pos hf]
    clear hf
    go_wp2_with fail
    refine K43.mono ?_
    rintro e w2 ⟨rfl, hg2⟩
    exact HPN.out _ HN.out (gb_trans H1.out.1 hg2)
  · have K43 := name43_ok R l hn W1 H1.out.2.2.2.2 (HLK.out W1 H1.out.1) hf
    have HF : Hid (¬ formL8 ⟨(nameOf l).toArray⟩ = []) := hf
    obtain ⟨NB, hNB⟩ : ∃ z : ByteArray, z = ⟨(nameOf l).toArray⟩ := ⟨_, rfl⟩
    rw [← hNB] at K43
    have HNB : Hid (NB = ⟨(nameOf l).toArray⟩) := hNB
    clear hf hNB
    go_wp2_with fail
    refine K43.mono ?_
    rintro e w2 ⟨rfl, r2, hg2⟩
    clear K43
    go_wp2
    obtain ⟨W3, hW3⟩ : ∃ z, w2.alloc (.cells #[.string NB, .int .i64 0, .int .i64 0, .int .i64 0, .int .i64 0, .int .u32 0] 29) = z := ⟨_, rfl⟩
    rw [hW3]
    have hb3 : Below w2.heap.size w2 W3 := by rw [← hW3]; exact (Below.refl _ _).alloc (Nat.le_refl _) _
    have hs3 : W3.heap.size = w2.heap.size + 1 := by rw [← hW3]; simp
    have i3 : In6 (bareI (nameOf l)) w2.heap.size W3 := by rw [← hW3, HNB.out]; exact In6.new (bareI (nameOf l)) w2
    obtain ⟨B4, hB4⟩ : ∃ z, w2.heap.size = z := ⟨_, rfl⟩
    rw [hB4] at i3 hs3 ⊢
    have r3 : Rd R W3 (restL l) := (hb3.block _ r2.lt).trans r2
    have hg3 : w.grownBy W3 (some R) := gb_trans (gb_trans H1.out.1 hg2) (grown_of hb3)
    have H3 : Hid (W3.heap.size = B4 + 1 ∧ w.heap.size + 2 ≤ B4 ∧ In6 (bareI (nameOf l)) B4 W3 ∧ Rd R W3 (restL l) ∧ w.grownBy W3 (some R) ∧ Boxed W3 w.heap.size 43 (.pointer (some ⟨R, 0, none⟩)) ∧ In6 zeroI (w.heap.size + 1) W3) := by
      obtain ⟨a1, a2, a3, a4, a5⟩ := H1.out
      have hR := HRlt.out
      have q := hg2.size
      have hne1 : some w.heap.size ≠ some R := by intro e; injection e with e; omega
      have hne2 : some (w.heap.size + 1) ≠ some R := by intro e; injection e with e; omega
      exact ⟨hs3, by omega, i3, r3, hg3, (a3.kept hg2 hne1).kept (grown_of (row := none) hb3) (by simp), (a4.row hg2 hne2).keep hb3⟩
    have hi0 := i3.cells.1
    have hcr := r3.cell
    have hc1 := H3.out.2.2.2.2.2.1.cell
    obtain ⟨RB, hRB⟩ : ∃ z : ByteArray, z = ⟨(restL l).toArray⟩ := ⟨_, rfl⟩
    rw [← hRB] at hcr
    have hnm : (bareI (nameOf l)).name = NB := HNB.out.symm
    rw [hnm] at hi0
    have HRB : Hid (RB = ⟨(restL l).toArray⟩) := hRB
    clear hb3 hs3 i3 r3 hg3 hg2 r2 hB4 hW3 hRB hnm cr c1
    obtain ⟨PB, hPB⟩ : ∃ z : ByteArray, z = ⟨(patL NB.toList (formL8 NB) (RB.toList == [])).toArray⟩ := ⟨_, rfl⟩
    have K23 : Hid (∀ w', Calls Tryd.prog 17 #[.string NB, .bool RB.toList.isEmpty] w' fun e w'' => e = .returned (.string PB) ∧ Below w'.heap.size w' w'') := fun w' => by rw [hPB, show (RB.toList == []) = RB.toList.isEmpty from by cases RB.toList <;> rfl]; exact pattern23 NB _ w'
    have HPB : Hid (partsL PB.toList = partsOf l ∧ PB.size ≤ 20) := by
      refine ⟨?_, ?_⟩
      · rw [hPB, bal, HRB.out, HNB.out, bal, bal]; rfl
      · rw [hPB]
        show Array.size _ ≤ _
        have := pat_size NB.toList (formL8 NB) (RB.toList == [])
        simpa using this
    clear hPB
    refine WpAt.seq (WpAt.seq_q (fun K Q9 HK9 => wpIn_wide.2 ?_))
    have HK9 : Hid _ := HK9
    refine wp_region_slots (R := Ext) [⟨13, fun v _ => v = .pointer (some ⟨B4, 0, none⟩), fun _ _ _ _ h => h⟩, ⟨14, fun v _ => v = .string NB, fun _ _ _ _ h => h⟩, ⟨15, fun v _ => v = .pointer (some ⟨R, 0, none⟩), fun _ _ _ _ h => h⟩, ⟨16, fun v _ => v = .pointer (some ⟨R, 0, none⟩), fun _ _ _ _ h => h⟩, ⟨17, fun v _ => v = .pointer (some ⟨R, 0, none⟩), fun _ _ _ _ h => h⟩, ⟨18, fun v _ => v = .string RB, fun _ _ _ _ h => h⟩, ⟨19, fun v _ => v = .bool RB.toList.isEmpty, fun _ _ _ _ h => h⟩, ⟨20, fun v _ => v = .string PB, fun _ _ _ _ h => h⟩, ⟨21, fun v W => ∃ Bp, v = .func (.func 38) #[] #[.pointer (some ⟨Bp, 0, none⟩)] ∧ W3.heap.size ≤ Bp ∧ Boxed W Bp 9 (.string PB), fun v A C hb h => by obtain ⟨Bp, h1, h2, h3⟩ := h; exact ⟨Bp, h1, h2, (hb.block _ h3.lt).trans h3⟩⟩] _ (by kernel_rfl) rfl (by kernel_rfl) (Below.drew (Below.refl _ _)) (fun _ _ _ h1 h2 => below_tr h1 h2) (fun QQ => ⟨?_, ?_, ?_, ?_, ?_, ?_, ?_, ?_, ?_, trivial⟩) (fun f wy hR hf => ?_)
    · intro A wx hR hout hdep K hK
      have h4 : A.tmps[4]?.getD undef = .pointer (some ⟨B4, 0, none⟩) := hout 4 (by kernel_rfl)
      refine if_yes (by kernel_rfl) ?_
      simp [go_sem, h4]
      exact hK.out _ _ (Below.refl _ _) rfl
    · intro A wx hR hout hdep K hK
      have h13 : A.tmps[13]?.getD undef = .pointer (some ⟨B4, 0, none⟩) := hdep 13 (by kernel_rfl)
      refine if_yes (by kernel_rfl) ?_
      have hi0 := keep_cell hR hi0
      have hcr := keep_cell hR hcr
      have hc1 := keep_cell hR hc1
      simp [go_sem, h13, hi0, hcr, hc1]
      exact hK.out _ _ (Below.refl _ _) rfl
    · intro A wx hR hout hdep K hK
      have h1 : A.tmps[1]?.getD undef = .pointer (some ⟨w.heap.size, 0, none⟩) := hout 1 (by kernel_rfl)
      refine if_yes (by kernel_rfl) ?_
      have hi0 := keep_cell hR hi0
      have hcr := keep_cell hR hcr
      have hc1 := keep_cell hR hc1
      simp [go_sem, h1, hi0, hcr, hc1]
      exact hK.out _ _ (Below.refl _ _) rfl
    · intro A wx hR hout hdep K hK
      have h15 : A.tmps[15]?.getD undef = .pointer (some ⟨R, 0, none⟩) := hdep 15 (by kernel_rfl)
      refine if_yes (by kernel_rfl) ?_
      simp [go_sem, h15]
      exact hK.out _ _ (Below.refl _ _) rfl
    · intro A wx hR hout hdep K hK
      have h16 : A.tmps[16]?.getD undef = .pointer (some ⟨R, 0, none⟩) := hdep 16 (by kernel_rfl)
      refine if_yes (by kernel_rfl) ?_
      simp [go_sem, h16]
      exact hK.out _ _ (Below.refl _ _) rfl
    · intro A wx hR hout hdep K hK
      have h17 : A.tmps[17]?.getD undef = .pointer (some ⟨R, 0, none⟩) := hdep 17 (by kernel_rfl)
      refine if_yes (by kernel_rfl) ?_
      have hi0 := keep_cell hR hi0
      have hcr := keep_cell hR hcr
      have hc1 := keep_cell hR hc1
      simp [go_sem, h17, hi0, hcr, hc1]
      exact hK.out _ _ (Below.refl _ _) rfl
    · intro A wx hR hout hdep K hK
      have h18 : A.tmps[18]?.getD undef = .string RB := hdep 18 (by kernel_rfl)
      refine if_yes (by kernel_rfl) ?_
      simp [go_sem, h18]
      exact hK.out _ _ (Below.refl _ _) rfl
    · intro A wx hR hout hdep K hK
      have h14 : A.tmps[14]?.getD undef = .string NB := hdep 14 (by kernel_rfl)
      have h19 : A.tmps[19]?.getD undef = .bool RB.toList.isEmpty := hdep 19 (by kernel_rfl)
      refine if_yes (by kernel_rfl) ?_
      simp [go_sem, h14, h19]
      refine (K23.out wx).mono ?_
      rintro e wG ⟨rfl, hbG⟩
      exact hK.out _ _ hbG rfl
    · intro A wx hR hout hdep K hK
      have h20 : A.tmps[20]?.getD undef = .string PB := hdep 20 (by kernel_rfl)
      refine if_yes (by kernel_rfl) ?_
      simp [go_sem, h20]
      refine (parts22 PB wx).mono ?_
      rintro e wG ⟨rfl, rfl⟩
      exact hK.out _ _ ((Below.refl _ _).alloc (Nat.le_refl _) _) ⟨_, rfl, hR.size, Boxed.new wx 9 _⟩
    obtain ⟨BP, hv21, hBP, bP⟩ : ∃ Bp, f 21 = .func (.func 38) #[] #[.pointer (some ⟨Bp, 0, none⟩)] ∧ W3.heap.size ≤ Bp ∧ Boxed wy Bp 9 (.string PB) := hf 21 (by kernel_rfl)
    show K _ _
    refine HK9.out _ _ ?_
    simp only [putSl, Act.put, List.setIfInBounds_toArray, List.set_cons_zero, List.set_cons_succ, hv21]
    obtain ⟨W4, hW4⟩ : ∃ z, z = wy := ⟨_, rfl⟩
    rw [← hW4] at bP hR ⊢
    have hseq := parts_next (3 - 1) (by omega) PB (by have := HPB.out.2; omega) BP W4 bP.cell
    rw [show PtNx PB.toList = PtNx' (partsOf l) from by unfold PtNx PtNx'; rw [HPB.out.1], HPB.out.1] at hseq
    have HNE : Hid (R < w.heap.size ∧ w.heap.size + 2 ≤ B4 ∧ B4 < BP ∧ BP < W4.heap.size) := by
      have h1 := HRlt.out; have h2 := H3.out.1; have h3 := H3.out.2.1; have h4 := bP.lt
      exact ⟨h1, h3, by omega, h4⟩
    obtain ⟨NM, hNM⟩ : ∃ z, z = nameOf l := ⟨_, rfl⟩
    obtain ⟨RS, hRS⟩ : ∃ z, z = restL l := ⟨_, rfl⟩
    have HNO : Hid (∀ pre x j l', PtNx' (partsOf l) pre x → runR pre (bareI NM, RS) = some (j, l') → stepR x (j, l') = none → insR l = none) := by
      rintro pre x j l' ⟨suf, hs⟩ h1 h2
      unfold insR
      rw [if_neg HF.out, ← hs, runR_append, ← hNM, ← hRS, h1]
      show (match (stepR x (j, l')).bind (runR suf) with | some r => _ | none => _) = _
      rw [h2]
      rfl
    have HYE : Hid (∀ j l', runR (partsOf l) (bareI NM, RS) = some (j, l') → insR l = if lineL j = l then some j else none) := by
      intro j l' h
      unfold insR
      rw [if_neg HF.out, ← hNM, ← hRS, h]
    have h30 : Hid (In6 (bareI NM) B4 W4 ∧ Rd R W4 RS ∧ Boxed W4 w.heap.size 43 (.pointer (some ⟨R, 0, none⟩)) ∧ w.grownBy W4 (some R) ∧ In6 zeroI (w.heap.size + 1) W4 ∧ RS.length ≤ 100000) := by
      obtain ⟨_, _, a3, a4, a5, a6, a7⟩ := H3.out
      rw [hNM, hRS]
      exact ⟨a3.keep hR, (hR.block _ a4.lt).trans a4, (hR.block _ a6.lt).trans a6, gb_trans a5 (grown_of hR), a7.keep hR, by unfold restL; simp; omega⟩
    clear hNM hRS hW4 hf hv21 hBP bP hR hi0 hcr hc1 K23
    refine WpAt.block ?_
    refine wpAt_range_next (n := 3) Tryd.func14 (gf := 38) rfl (enters_of Tryd.func38 (by kernel_rfl) rfl)
      hseq (fun h1 h2 => h2.trans h1) (fun W' l' o o' hl' _ _ _ => ?hkb) (Below.refl _ _) (fun _ => rfl)
      (fun pre Wx => ∃ j l', runR pre (bareI NM, RS) = some (j, l') ∧ In6 j B4 Wx ∧ Rd R Wx l' ∧ Boxed Wx w.heap.size 43 (.pointer (some ⟨R, 0, none⟩)) ∧ w.grownBy Wx (some R) ∧ W4.heap.size ≤ Wx.heap.size ∧ In6 zeroI (w.heap.size + 1) Wx ∧ l'.length ≤ 100000 ∧ j.imm < 4294967296)
      (fun c pre Wx => False)
      (fun ch Wx => ch = thrown110 ∧ insR l = none ∧ w.grownBy Wx (some R))
      (fun pre A C row hh hgr hrr => ?hI)
      (fun c pre A C row hh hgr hrr => hh)
      ⟨_, _, rfl, h30.out.1, h30.out.2.1, h30.out.2.2.1, h30.out.2.2.2.1, Nat.le_refl _, h30.out.2.2.2.2.1, h30.out.2.2.2.2.2, by show (0 : Nat) < _; omega⟩
      (fun x a' Wx => ∃ v0 v6 v7 v8 v9 v10 v11 v12 v13 v14 v15 v16 v17 v18 v19 v20 v21 v22, a' = { tmps := #[v0, .pointer (some ⟨w.heap.size, 0, none⟩), .pointer (some ⟨w.heap.size + 1, 0, none⟩), .string LB, .pointer (some ⟨B4, 0, none⟩), .string ⟨x.toArray⟩, v6, v7, v8, v9, v10, v11, v12, v13, v14, v15, v16, v17, v18, v19, v20, v21, v22, undef, undef, undef, undef, undef, undef, undef, undef, undef, undef, undef, undef, undef, undef, undef, undef, undef, undef, undef, undef, undef, undef, undef, undef, undef, undef, undef, undef, undef, undef, undef, undef, undef, undef, undef, undef, undef, undef, undef, undef, undef, undef, undef], defers := [] })
      (fun x a' s A C row hh hgr hrr => hh) ?assign ?body ?done ?stop ?thrown
    case hkb =>
      exact World.cell?_of_block (World.putObj_heap_other (by have := HNE.out; simp; omega))
    case hI =>
      obtain ⟨j, l', e1, e2, e3, e4, e5, e6, e7, e8, e9⟩ := hh
      have n2 := not_cells_row e2 (fun r e => (hrr r e).2)
      have n3 := not_cells_row e3 (fun r e => (hrr r e).2)
      have n4 := not_cells_row e4 (fun r e => (hrr r e).2)
      have n7 := not_cells_row e7 (fun r e => (hrr r e).2)
      refine ⟨j, l', e1, e2.row hgr n2, e3.kept hgr n3, e4.kept hgr n4, ?_, Nat.le_trans e6 hgr.size, e7.row hgr n7, e8, e9⟩
      cases row with
      | none => exact gb_trans e5 ⟨hgr.os, hgr.tape, hgr.output, hgr.size, fun k hk _ => hgr.block k hk (by simp)⟩
      | some r => exact gb_out e5 hgr (by have := (hrr r rfl).1; have := HNE.out; omega)
    case assign =>
      intro lp pre x Wx K hnx hi hK
      simp only [encS]
      gi_wp2
      exact hK _ _ (KeepsFrom.refl _ _) rfl hi ⟨_, _, _, _, _, _, _, _, _, _, _, _, _, _, _, _, _, _, rfl⟩
    case body =>
      rintro lp pre x a' Wx hnx ⟨j, l', hrun, hi6, hrd, hbx, hg, hsz, hz6, hl', him⟩ ⟨v0, v6, v7, v8, v9, v10, v11, v12, v13, v14, v15, v16, v17, v18, v19, v20, v21, v22, rfl⟩
      by_cases c0 : x = [115]
      · have hst : stepR x (j, l') = (numR l').map (fun r => ({ j with rs := r.1 }, r.2)) := by unfold stepR; rw [if_pos c0]
        have t0 : ((⟨x.toArray⟩ : ByteArray).toList == [115]) = true := by rw [bal]; simpa using c0
        have K44 := number44 R l' hl' Wx hrd (HLK.out Wx hg)
        cases hnum : numR l' with
        | none =>
          rw [hnum] at K44 hst
          have HN : Hid (insR l = none) := HNO.out pre x j l' hnx hrun hst
          clear hst hnum hrun hnx hi6 hz6 c0
          generalize (⟨x.toArray⟩ : ByteArray) = X at *
          have b1 := hbx.cell
          gi_wp2
          refine ⟨trivial, (CallsIn.inRound lp (callsIn_wide.2 K44)).mono ?_⟩
          rintro e w9 ⟨rfl, hg9⟩
          exact ⟨rfl, (keeps_cells hg9 hrd).from _, rfl, HN.out, gb_trans hg hg9⟩
        | some q =>
          obtain ⟨v, l2⟩ := q
          rw [hnum] at K44 hst
          simp only [Option.map_some] at hst
          have HRUN : Hid (runR (pre ++ [x]) (bareI NM, RS) = some ({ j with rs := v }, l2)) := by show _ = _; rw [runR_append, hrun]; show (stepR x (j, l')).bind (runR []) = _; rw [hst]; rfl
          have HLE : Hid (l2.length ≤ 100000) := Nat.le_trans (step_len hst) hl'
          have HIM := step_imm hst him
          have HIM : Hid _ := HIM
          have HI : Hid (In6 j B4 Wx ∧ In6 zeroI (w.heap.size + 1) Wx ∧ Boxed Wx w.heap.size 43 (.pointer (some ⟨R, 0, none⟩)) ∧ w.grownBy Wx (some R) ∧ W4.heap.size ≤ Wx.heap.size) := ⟨hi6, hz6, hbx, hg, hsz⟩
          have HRD : Hid (Rd R Wx l') := hrd
          have b1 := hbx.cell
          clear hst hnum hrun hnx hi6 hz6 hbx hg hsz hrd him c0
          generalize (⟨x.toArray⟩ : ByteArray) = X at *
          gi_wp2
          refine ⟨trivial, (CallsIn.inRound lp (callsIn_wide.2 K44)).mono ?_⟩
          rintro e w9 ⟨rfl, hrd9, hg9⟩
          obtain ⟨a1, a2, a3, a4, a5⟩ := HI.out
          have i9 := a1.row hg9 (by intro e; injection e with e; have := HNE.out; omega)
          have z9 := a2.row hg9 (by intro e; injection e with e; have := HNE.out; omega)
          have x9 := a3.kept hg9 (by intro e; injection e with e; have := HNE.out; omega)
          obtain ⟨_, d1, d2, d3, d4, d5⟩ := i9.cells
          have f1 := i9.frozen 1
          have him3 := i9.set1 v
          have HEE : Hid (KeepsFrom W4.heap.size Wx (w9.setCell ⟨B4, 1, none⟩ (.int .i64 v)) ∧ (w9.setCell ⟨B4, 1, none⟩ (.int .i64 v)).cell? ⟨BP, 0, none⟩ = Wx.cell? ⟨BP, 0, none⟩ ∧ (fun (pre : List L8) (Wx : World) => ∃ j l', runR pre (bareI NM, RS) = some (j, l') ∧ In6 j B4 Wx ∧ Rd R Wx l' ∧ Boxed Wx w.heap.size 43 (.pointer (some ⟨R, 0, none⟩)) ∧ w.grownBy Wx (some R) ∧ W4.heap.size ≤ Wx.heap.size ∧ In6 zeroI (w.heap.size + 1) Wx ∧ l'.length ≤ 100000 ∧ j.imm < 4294967296) (pre ++ [x]) (w9.setCell ⟨B4, 1, none⟩ (.int .i64 v))) := by
            have g1 := grown_setk w9 B4 1 (.int .i64 v)
            have s1 := g1.size
            have s9 := hg9.size
            have hne := HNE.out
            refine ⟨((keeps_cells hg9 HRD.out).trans (KeepsOthers.setCell _ _ _)).from _, ?_, _, l2, HRUN.out, him3, hrd9.kept g1 (by intro e; injection e with e; omega), x9.kept g1 (by intro e; injection e with e; omega), gb_out (gb_trans a4 hg9) g1 (by omega), by omega, z9.row g1 (by intro e; injection e with e; omega), HLE.out, HIM.out⟩
            rw [World.cell?_setCell_other _ _ _ _ (by intro e; injection e with e; omega)]
            exact World.cell?_of_block (hg9.block BP (by omega) (by intro e; injection e with e; omega))
          clear hg9 hrd9 i9 z9 x9 a1 a2 a3 a4 a5 K44 him3
          gi_wp2
          exact HEE.out
      by_cases c1 : x = [116]
      · have hst : stepR x (j, l') = (numR l').map (fun r => ({ j with rt := r.1 }, r.2)) := by unfold stepR; rw [if_neg c0, if_pos c1]
        have t0 : ((⟨x.toArray⟩ : ByteArray).toList == [115]) = false := by rw [bal]; simpa using c0
        have t1 : ((⟨x.toArray⟩ : ByteArray).toList == [116]) = true := by rw [bal]; simpa using c1
        have K44 := number44 R l' hl' Wx hrd (HLK.out Wx hg)
        cases hnum : numR l' with
        | none =>
          rw [hnum] at K44 hst
          have HN : Hid (insR l = none) := HNO.out pre x j l' hnx hrun hst
          clear hst hnum hrun hnx hi6 hz6 c0 c1
          generalize (⟨x.toArray⟩ : ByteArray) = X at *
          have b1 := hbx.cell
          gi_wp2
          refine ⟨trivial, (CallsIn.inRound lp (callsIn_wide.2 K44)).mono ?_⟩
          rintro e w9 ⟨rfl, hg9⟩
          exact ⟨rfl, (keeps_cells hg9 hrd).from _, rfl, HN.out, gb_trans hg hg9⟩
        | some q =>
          obtain ⟨v, l2⟩ := q
          rw [hnum] at K44 hst
          simp only [Option.map_some] at hst
          have HRUN : Hid (runR (pre ++ [x]) (bareI NM, RS) = some ({ j with rt := v }, l2)) := by show _ = _; rw [runR_append, hrun]; show (stepR x (j, l')).bind (runR []) = _; rw [hst]; rfl
          have HLE : Hid (l2.length ≤ 100000) := Nat.le_trans (step_len hst) hl'
          have HIM := step_imm hst him
          have HIM : Hid _ := HIM
          have HI : Hid (In6 j B4 Wx ∧ In6 zeroI (w.heap.size + 1) Wx ∧ Boxed Wx w.heap.size 43 (.pointer (some ⟨R, 0, none⟩)) ∧ w.grownBy Wx (some R) ∧ W4.heap.size ≤ Wx.heap.size) := ⟨hi6, hz6, hbx, hg, hsz⟩
          have HRD : Hid (Rd R Wx l') := hrd
          have b1 := hbx.cell
          clear hst hnum hrun hnx hi6 hz6 hbx hg hsz hrd him c0 c1
          generalize (⟨x.toArray⟩ : ByteArray) = X at *
          gi_wp2
          refine ⟨trivial, (CallsIn.inRound lp (callsIn_wide.2 K44)).mono ?_⟩
          rintro e w9 ⟨rfl, hrd9, hg9⟩
          obtain ⟨a1, a2, a3, a4, a5⟩ := HI.out
          have i9 := a1.row hg9 (by intro e; injection e with e; have := HNE.out; omega)
          have z9 := a2.row hg9 (by intro e; injection e with e; have := HNE.out; omega)
          have x9 := a3.kept hg9 (by intro e; injection e with e; have := HNE.out; omega)
          obtain ⟨_, d1, d2, d3, d4, d5⟩ := i9.cells
          have f2 := i9.frozen 2
          have him3 := i9.set2 v
          have HEE : Hid (KeepsFrom W4.heap.size Wx (w9.setCell ⟨B4, 2, none⟩ (.int .i64 v)) ∧ (w9.setCell ⟨B4, 2, none⟩ (.int .i64 v)).cell? ⟨BP, 0, none⟩ = Wx.cell? ⟨BP, 0, none⟩ ∧ (fun (pre : List L8) (Wx : World) => ∃ j l', runR pre (bareI NM, RS) = some (j, l') ∧ In6 j B4 Wx ∧ Rd R Wx l' ∧ Boxed Wx w.heap.size 43 (.pointer (some ⟨R, 0, none⟩)) ∧ w.grownBy Wx (some R) ∧ W4.heap.size ≤ Wx.heap.size ∧ In6 zeroI (w.heap.size + 1) Wx ∧ l'.length ≤ 100000 ∧ j.imm < 4294967296) (pre ++ [x]) (w9.setCell ⟨B4, 2, none⟩ (.int .i64 v))) := by
            have g1 := grown_setk w9 B4 2 (.int .i64 v)
            have s1 := g1.size
            have s9 := hg9.size
            have hne := HNE.out
            refine ⟨((keeps_cells hg9 HRD.out).trans (KeepsOthers.setCell _ _ _)).from _, ?_, _, l2, HRUN.out, him3, hrd9.kept g1 (by intro e; injection e with e; omega), x9.kept g1 (by intro e; injection e with e; omega), gb_out (gb_trans a4 hg9) g1 (by omega), by omega, z9.row g1 (by intro e; injection e with e; omega), HLE.out, HIM.out⟩
            rw [World.cell?_setCell_other _ _ _ _ (by intro e; injection e with e; omega)]
            exact World.cell?_of_block (hg9.block BP (by omega) (by intro e; injection e with e; omega))
          clear hg9 hrd9 i9 z9 x9 a1 a2 a3 a4 a5 K44 him3
          gi_wp2
          exact HEE.out
      by_cases c2 : x = [100]
      · have hst : stepR x (j, l') = (numR l').map (fun r => ({ j with rd := r.1 }, r.2)) := by unfold stepR; rw [if_neg c0, if_neg c1, if_pos c2]
        have t0 : ((⟨x.toArray⟩ : ByteArray).toList == [115]) = false := by rw [bal]; simpa using c0
        have t1 : ((⟨x.toArray⟩ : ByteArray).toList == [116]) = false := by rw [bal]; simpa using c1
        have t2 : ((⟨x.toArray⟩ : ByteArray).toList == [100]) = true := by rw [bal]; simpa using c2
        have K44 := number44 R l' hl' Wx hrd (HLK.out Wx hg)
        cases hnum : numR l' with
        | none =>
          rw [hnum] at K44 hst
          have HN : Hid (insR l = none) := HNO.out pre x j l' hnx hrun hst
          clear hst hnum hrun hnx hi6 hz6 c0 c1 c2
          generalize (⟨x.toArray⟩ : ByteArray) = X at *
          have b1 := hbx.cell
          gi_wp2
          refine ⟨trivial, (CallsIn.inRound lp (callsIn_wide.2 K44)).mono ?_⟩
          rintro e w9 ⟨rfl, hg9⟩
          exact ⟨rfl, (keeps_cells hg9 hrd).from _, rfl, HN.out, gb_trans hg hg9⟩
        | some q =>
          obtain ⟨v, l2⟩ := q
          rw [hnum] at K44 hst
          simp only [Option.map_some] at hst
          have HRUN : Hid (runR (pre ++ [x]) (bareI NM, RS) = some ({ j with rd := v }, l2)) := by show _ = _; rw [runR_append, hrun]; show (stepR x (j, l')).bind (runR []) = _; rw [hst]; rfl
          have HLE : Hid (l2.length ≤ 100000) := Nat.le_trans (step_len hst) hl'
          have HIM := step_imm hst him
          have HIM : Hid _ := HIM
          have HI : Hid (In6 j B4 Wx ∧ In6 zeroI (w.heap.size + 1) Wx ∧ Boxed Wx w.heap.size 43 (.pointer (some ⟨R, 0, none⟩)) ∧ w.grownBy Wx (some R) ∧ W4.heap.size ≤ Wx.heap.size) := ⟨hi6, hz6, hbx, hg, hsz⟩
          have HRD : Hid (Rd R Wx l') := hrd
          have b1 := hbx.cell
          clear hst hnum hrun hnx hi6 hz6 hbx hg hsz hrd him c0 c1 c2
          generalize (⟨x.toArray⟩ : ByteArray) = X at *
          gi_wp2
          refine ⟨trivial, (CallsIn.inRound lp (callsIn_wide.2 K44)).mono ?_⟩
          rintro e w9 ⟨rfl, hrd9, hg9⟩
          obtain ⟨a1, a2, a3, a4, a5⟩ := HI.out
          have i9 := a1.row hg9 (by intro e; injection e with e; have := HNE.out; omega)
          have z9 := a2.row hg9 (by intro e; injection e with e; have := HNE.out; omega)
          have x9 := a3.kept hg9 (by intro e; injection e with e; have := HNE.out; omega)
          obtain ⟨_, d1, d2, d3, d4, d5⟩ := i9.cells
          have f3 := i9.frozen 3
          have him3 := i9.set3 v
          have HEE : Hid (KeepsFrom W4.heap.size Wx (w9.setCell ⟨B4, 3, none⟩ (.int .i64 v)) ∧ (w9.setCell ⟨B4, 3, none⟩ (.int .i64 v)).cell? ⟨BP, 0, none⟩ = Wx.cell? ⟨BP, 0, none⟩ ∧ (fun (pre : List L8) (Wx : World) => ∃ j l', runR pre (bareI NM, RS) = some (j, l') ∧ In6 j B4 Wx ∧ Rd R Wx l' ∧ Boxed Wx w.heap.size 43 (.pointer (some ⟨R, 0, none⟩)) ∧ w.grownBy Wx (some R) ∧ W4.heap.size ≤ Wx.heap.size ∧ In6 zeroI (w.heap.size + 1) Wx ∧ l'.length ≤ 100000 ∧ j.imm < 4294967296) (pre ++ [x]) (w9.setCell ⟨B4, 3, none⟩ (.int .i64 v))) := by
            have g1 := grown_setk w9 B4 3 (.int .i64 v)
            have s1 := g1.size
            have s9 := hg9.size
            have hne := HNE.out
            refine ⟨((keeps_cells hg9 HRD.out).trans (KeepsOthers.setCell _ _ _)).from _, ?_, _, l2, HRUN.out, him3, hrd9.kept g1 (by intro e; injection e with e; omega), x9.kept g1 (by intro e; injection e with e; omega), gb_out (gb_trans a4 hg9) g1 (by omega), by omega, z9.row g1 (by intro e; injection e with e; omega), HLE.out, HIM.out⟩
            rw [World.cell?_setCell_other _ _ _ _ (by intro e; injection e with e; omega)]
            exact World.cell?_of_block (hg9.block BP (by omega) (by intro e; injection e with e; omega))
          clear hg9 hrd9 i9 z9 x9 a1 a2 a3 a4 a5 K44 him3
          gi_wp2
          exact HEE.out
      by_cases c3 : x = [97]
      · have hst : stepR x (j, l') = (numR l').map (fun r => ({ j with sa := r.1 }, r.2)) := by unfold stepR; rw [if_neg c0, if_neg c1, if_neg c2, if_pos c3]
        have t0 : ((⟨x.toArray⟩ : ByteArray).toList == [115]) = false := by rw [bal]; simpa using c0
        have t1 : ((⟨x.toArray⟩ : ByteArray).toList == [116]) = false := by rw [bal]; simpa using c1
        have t2 : ((⟨x.toArray⟩ : ByteArray).toList == [100]) = false := by rw [bal]; simpa using c2
        have t3 : ((⟨x.toArray⟩ : ByteArray).toList == [97]) = true := by rw [bal]; simpa using c3
        have K44 := number44 R l' hl' Wx hrd (HLK.out Wx hg)
        cases hnum : numR l' with
        | none =>
          rw [hnum] at K44 hst
          have HN : Hid (insR l = none) := HNO.out pre x j l' hnx hrun hst
          clear hst hnum hrun hnx hi6 hz6 c0 c1 c2 c3
          generalize (⟨x.toArray⟩ : ByteArray) = X at *
          have b1 := hbx.cell
          gi_wp2
          refine ⟨trivial, (CallsIn.inRound lp (callsIn_wide.2 K44)).mono ?_⟩
          rintro e w9 ⟨rfl, hg9⟩
          exact ⟨rfl, (keeps_cells hg9 hrd).from _, rfl, HN.out, gb_trans hg hg9⟩
        | some q =>
          obtain ⟨v, l2⟩ := q
          rw [hnum] at K44 hst
          simp only [Option.map_some] at hst
          have HRUN : Hid (runR (pre ++ [x]) (bareI NM, RS) = some ({ j with sa := v }, l2)) := by show _ = _; rw [runR_append, hrun]; show (stepR x (j, l')).bind (runR []) = _; rw [hst]; rfl
          have HLE : Hid (l2.length ≤ 100000) := Nat.le_trans (step_len hst) hl'
          have HIM := step_imm hst him
          have HIM : Hid _ := HIM
          have HI : Hid (In6 j B4 Wx ∧ In6 zeroI (w.heap.size + 1) Wx ∧ Boxed Wx w.heap.size 43 (.pointer (some ⟨R, 0, none⟩)) ∧ w.grownBy Wx (some R) ∧ W4.heap.size ≤ Wx.heap.size) := ⟨hi6, hz6, hbx, hg, hsz⟩
          have HRD : Hid (Rd R Wx l') := hrd
          have b1 := hbx.cell
          clear hst hnum hrun hnx hi6 hz6 hbx hg hsz hrd him c0 c1 c2 c3
          generalize (⟨x.toArray⟩ : ByteArray) = X at *
          gi_wp2
          refine ⟨trivial, (CallsIn.inRound lp (callsIn_wide.2 K44)).mono ?_⟩
          rintro e w9 ⟨rfl, hrd9, hg9⟩
          obtain ⟨a1, a2, a3, a4, a5⟩ := HI.out
          have i9 := a1.row hg9 (by intro e; injection e with e; have := HNE.out; omega)
          have z9 := a2.row hg9 (by intro e; injection e with e; have := HNE.out; omega)
          have x9 := a3.kept hg9 (by intro e; injection e with e; have := HNE.out; omega)
          obtain ⟨_, d1, d2, d3, d4, d5⟩ := i9.cells
          have f4 := i9.frozen 4
          have him3 := i9.set4 v
          have HEE : Hid (KeepsFrom W4.heap.size Wx (w9.setCell ⟨B4, 4, none⟩ (.int .i64 v)) ∧ (w9.setCell ⟨B4, 4, none⟩ (.int .i64 v)).cell? ⟨BP, 0, none⟩ = Wx.cell? ⟨BP, 0, none⟩ ∧ (fun (pre : List L8) (Wx : World) => ∃ j l', runR pre (bareI NM, RS) = some (j, l') ∧ In6 j B4 Wx ∧ Rd R Wx l' ∧ Boxed Wx w.heap.size 43 (.pointer (some ⟨R, 0, none⟩)) ∧ w.grownBy Wx (some R) ∧ W4.heap.size ≤ Wx.heap.size ∧ In6 zeroI (w.heap.size + 1) Wx ∧ l'.length ≤ 100000 ∧ j.imm < 4294967296) (pre ++ [x]) (w9.setCell ⟨B4, 4, none⟩ (.int .i64 v))) := by
            have g1 := grown_setk w9 B4 4 (.int .i64 v)
            have s1 := g1.size
            have s9 := hg9.size
            have hne := HNE.out
            refine ⟨((keeps_cells hg9 HRD.out).trans (KeepsOthers.setCell _ _ _)).from _, ?_, _, l2, HRUN.out, him3, hrd9.kept g1 (by intro e; injection e with e; omega), x9.kept g1 (by intro e; injection e with e; omega), gb_out (gb_trans a4 hg9) g1 (by omega), by omega, z9.row g1 (by intro e; injection e with e; omega), HLE.out, HIM.out⟩
            rw [World.cell?_setCell_other _ _ _ _ (by intro e; injection e with e; omega)]
            exact World.cell?_of_block (hg9.block BP (by omega) (by intro e; injection e with e; omega))
          clear hg9 hrd9 i9 z9 x9 a1 a2 a3 a4 a5 K44 him3
          gi_wp2
          exact HEE.out
      by_cases c4 : x = [105]
      · have hst : stepR x (j, l') = (numR l').map (fun r => ({ j with imm := imI r.1 }, r.2)) := by unfold stepR; rw [if_neg c0, if_neg c1, if_neg c2, if_neg c3, if_pos c4]
        have t0 : ((⟨x.toArray⟩ : ByteArray).toList == [115]) = false := by rw [bal]; simpa using c0
        have t1 : ((⟨x.toArray⟩ : ByteArray).toList == [116]) = false := by rw [bal]; simpa using c1
        have t2 : ((⟨x.toArray⟩ : ByteArray).toList == [100]) = false := by rw [bal]; simpa using c2
        have t3 : ((⟨x.toArray⟩ : ByteArray).toList == [97]) = false := by rw [bal]; simpa using c3
        have t4 : ((⟨x.toArray⟩ : ByteArray).toList == [105]) = true := by rw [bal]; simpa using c4
        have K44 := number44 R l' hl' Wx hrd (HLK.out Wx hg)
        cases hnum : numR l' with
        | none =>
          rw [hnum] at K44 hst
          have HN : Hid (insR l = none) := HNO.out pre x j l' hnx hrun hst
          clear hst hnum hrun hnx hi6 hz6 c0 c1 c2 c3 c4
          generalize (⟨x.toArray⟩ : ByteArray) = X at *
          have b1 := hbx.cell
          gi_wp2
          refine ⟨trivial, (CallsIn.inRound lp (callsIn_wide.2 K44)).mono ?_⟩
          rintro e w9 ⟨rfl, hg9⟩
          exact ⟨rfl, (keeps_cells hg9 hrd).from _, rfl, HN.out, gb_trans hg hg9⟩
        | some q =>
          obtain ⟨v, l2⟩ := q
          rw [hnum] at K44 hst
          simp only [Option.map_some] at hst
          have HRUN : Hid (runR (pre ++ [x]) (bareI NM, RS) = some ({ j with imm := imI v }, l2)) := by show _ = _; rw [runR_append, hrun]; show (stepR x (j, l')).bind (runR []) = _; rw [hst]; rfl
          have HLE : Hid (l2.length ≤ 100000) := Nat.le_trans (step_len hst) hl'
          have HIM := step_imm hst him
          have HIM : Hid _ := HIM
          have HI : Hid (In6 j B4 Wx ∧ In6 zeroI (w.heap.size + 1) Wx ∧ Boxed Wx w.heap.size 43 (.pointer (some ⟨R, 0, none⟩)) ∧ w.grownBy Wx (some R) ∧ W4.heap.size ≤ Wx.heap.size) := ⟨hi6, hz6, hbx, hg, hsz⟩
          have HRD : Hid (Rd R Wx l') := hrd
          have b1 := hbx.cell
          clear hst hnum hrun hnx hi6 hz6 hbx hg hsz hrd him c0 c1 c2 c3 c4
          generalize (⟨x.toArray⟩ : ByteArray) = X at *
          gi_wp2
          refine ⟨trivial, (CallsIn.inRound lp (callsIn_wide.2 K44)).mono ?_⟩
          rintro e w9 ⟨rfl, hrd9, hg9⟩
          obtain ⟨a1, a2, a3, a4, a5⟩ := HI.out
          have i9 := a1.row hg9 (by intro e; injection e with e; have := HNE.out; omega)
          have z9 := a2.row hg9 (by intro e; injection e with e; have := HNE.out; omega)
          have x9 := a3.kept hg9 (by intro e; injection e with e; have := HNE.out; omega)
          obtain ⟨_, d1, d2, d3, d4, d5⟩ := i9.cells
          have f5 := i9.frozen 5
          have him2 := imI_and v
          have him3 := i9.set5 (imI v)
          generalize imI v = m5 at *
          have HEE : Hid (KeepsFrom W4.heap.size Wx (w9.setCell ⟨B4, 5, none⟩ (.int .u32 (m5 : Int))) ∧ (w9.setCell ⟨B4, 5, none⟩ (.int .u32 (m5 : Int))).cell? ⟨BP, 0, none⟩ = Wx.cell? ⟨BP, 0, none⟩ ∧ (fun (pre : List L8) (Wx : World) => ∃ j l', runR pre (bareI NM, RS) = some (j, l') ∧ In6 j B4 Wx ∧ Rd R Wx l' ∧ Boxed Wx w.heap.size 43 (.pointer (some ⟨R, 0, none⟩)) ∧ w.grownBy Wx (some R) ∧ W4.heap.size ≤ Wx.heap.size ∧ In6 zeroI (w.heap.size + 1) Wx ∧ l'.length ≤ 100000 ∧ j.imm < 4294967296) (pre ++ [x]) (w9.setCell ⟨B4, 5, none⟩ (.int .u32 (m5 : Int)))) := by
            have g1 := grown_setk w9 B4 5 (.int .u32 (m5 : Int))
            have s1 := g1.size
            have s9 := hg9.size
            have hne := HNE.out
            refine ⟨((keeps_cells hg9 HRD.out).trans (KeepsOthers.setCell _ _ _)).from _, ?_, _, l2, HRUN.out, him3, hrd9.kept g1 (by intro e; injection e with e; omega), x9.kept g1 (by intro e; injection e with e; omega), gb_out (gb_trans a4 hg9) g1 (by omega), by omega, z9.row g1 (by intro e; injection e with e; omega), HLE.out, HIM.out⟩
            rw [World.cell?_setCell_other _ _ _ _ (by intro e; injection e with e; omega)]
            exact World.cell?_of_block (hg9.block BP (by omega) (by intro e; injection e with e; omega))
          clear hg9 hrd9 i9 z9 x9 a1 a2 a3 a4 a5 K44 him3
          gi_wp2
          exact HEE.out
      by_cases c5 : x = [117]
      · have hst : stepR x (j, l') = (numR l').map (fun r => ({ j with imm := imU r.1 }, r.2)) := by unfold stepR; rw [if_neg c0, if_neg c1, if_neg c2, if_neg c3, if_neg c4, if_pos c5]
        have t0 : ((⟨x.toArray⟩ : ByteArray).toList == [115]) = false := by rw [bal]; simpa using c0
        have t1 : ((⟨x.toArray⟩ : ByteArray).toList == [116]) = false := by rw [bal]; simpa using c1
        have t2 : ((⟨x.toArray⟩ : ByteArray).toList == [100]) = false := by rw [bal]; simpa using c2
        have t3 : ((⟨x.toArray⟩ : ByteArray).toList == [97]) = false := by rw [bal]; simpa using c3
        have t4 : ((⟨x.toArray⟩ : ByteArray).toList == [105]) = false := by rw [bal]; simpa using c4
        have t5 : ((⟨x.toArray⟩ : ByteArray).toList == [117]) = true := by rw [bal]; simpa using c5
        have K44 := number44 R l' hl' Wx hrd (HLK.out Wx hg)
        cases hnum : numR l' with
        | none =>
          rw [hnum] at K44 hst
          have HN : Hid (insR l = none) := HNO.out pre x j l' hnx hrun hst
          clear hst hnum hrun hnx hi6 hz6 c0 c1 c2 c3 c4 c5
          generalize (⟨x.toArray⟩ : ByteArray) = X at *
          have b1 := hbx.cell
          gi_wp2
          refine ⟨trivial, (CallsIn.inRound lp (callsIn_wide.2 K44)).mono ?_⟩
          rintro e w9 ⟨rfl, hg9⟩
          exact ⟨rfl, (keeps_cells hg9 hrd).from _, rfl, HN.out, gb_trans hg hg9⟩
        | some q =>
          obtain ⟨v, l2⟩ := q
          rw [hnum] at K44 hst
          simp only [Option.map_some] at hst
          have HRUN : Hid (runR (pre ++ [x]) (bareI NM, RS) = some ({ j with imm := imU v }, l2)) := by show _ = _; rw [runR_append, hrun]; show (stepR x (j, l')).bind (runR []) = _; rw [hst]; rfl
          have HLE : Hid (l2.length ≤ 100000) := Nat.le_trans (step_len hst) hl'
          have HIM := step_imm hst him
          have HIM : Hid _ := HIM
          have HI : Hid (In6 j B4 Wx ∧ In6 zeroI (w.heap.size + 1) Wx ∧ Boxed Wx w.heap.size 43 (.pointer (some ⟨R, 0, none⟩)) ∧ w.grownBy Wx (some R) ∧ W4.heap.size ≤ Wx.heap.size) := ⟨hi6, hz6, hbx, hg, hsz⟩
          have HRD : Hid (Rd R Wx l') := hrd
          have b1 := hbx.cell
          clear hst hnum hrun hnx hi6 hz6 hbx hg hsz hrd him c0 c1 c2 c3 c4 c5
          generalize (⟨x.toArray⟩ : ByteArray) = X at *
          gi_wp2
          refine ⟨trivial, (CallsIn.inRound lp (callsIn_wide.2 K44)).mono ?_⟩
          rintro e w9 ⟨rfl, hrd9, hg9⟩
          obtain ⟨a1, a2, a3, a4, a5⟩ := HI.out
          have i9 := a1.row hg9 (by intro e; injection e with e; have := HNE.out; omega)
          have z9 := a2.row hg9 (by intro e; injection e with e; have := HNE.out; omega)
          have x9 := a3.kept hg9 (by intro e; injection e with e; have := HNE.out; omega)
          obtain ⟨_, d1, d2, d3, d4, d5⟩ := i9.cells
          have f5 := i9.frozen 5
          have him2 := imU_wrap v
          have him3 := i9.set5 (imU v)
          generalize imU v = m5 at *
          have HEE : Hid (KeepsFrom W4.heap.size Wx (w9.setCell ⟨B4, 5, none⟩ (.int .u32 (m5 : Int))) ∧ (w9.setCell ⟨B4, 5, none⟩ (.int .u32 (m5 : Int))).cell? ⟨BP, 0, none⟩ = Wx.cell? ⟨BP, 0, none⟩ ∧ (fun (pre : List L8) (Wx : World) => ∃ j l', runR pre (bareI NM, RS) = some (j, l') ∧ In6 j B4 Wx ∧ Rd R Wx l' ∧ Boxed Wx w.heap.size 43 (.pointer (some ⟨R, 0, none⟩)) ∧ w.grownBy Wx (some R) ∧ W4.heap.size ≤ Wx.heap.size ∧ In6 zeroI (w.heap.size + 1) Wx ∧ l'.length ≤ 100000 ∧ j.imm < 4294967296) (pre ++ [x]) (w9.setCell ⟨B4, 5, none⟩ (.int .u32 (m5 : Int)))) := by
            have g1 := grown_setk w9 B4 5 (.int .u32 (m5 : Int))
            have s1 := g1.size
            have s9 := hg9.size
            have hne := HNE.out
            refine ⟨((keeps_cells hg9 HRD.out).trans (KeepsOthers.setCell _ _ _)).from _, ?_, _, l2, HRUN.out, him3, hrd9.kept g1 (by intro e; injection e with e; omega), x9.kept g1 (by intro e; injection e with e; omega), gb_out (gb_trans a4 hg9) g1 (by omega), by omega, z9.row g1 (by intro e; injection e with e; omega), HLE.out, HIM.out⟩
            rw [World.cell?_setCell_other _ _ _ _ (by intro e; injection e with e; omega)]
            exact World.cell?_of_block (hg9.block BP (by omega) (by intro e; injection e with e; omega))
          clear hg9 hrd9 i9 z9 x9 a1 a2 a3 a4 a5 K44 him3
          gi_wp2
          exact HEE.out
      · have hst : stepR x (j, l') = (textR x l').map (fun r => (j, r)) := by unfold stepR; rw [if_neg c0, if_neg c1, if_neg c2, if_neg c3, if_neg c4, if_neg c5]
        have t0 : ((⟨x.toArray⟩ : ByteArray).toList == [115]) = false := by rw [bal]; simpa using c0
        have t1 : ((⟨x.toArray⟩ : ByteArray).toList == [116]) = false := by rw [bal]; simpa using c1
        have t2 : ((⟨x.toArray⟩ : ByteArray).toList == [100]) = false := by rw [bal]; simpa using c2
        have t3 : ((⟨x.toArray⟩ : ByteArray).toList == [97]) = false := by rw [bal]; simpa using c3
        have t4 : ((⟨x.toArray⟩ : ByteArray).toList == [105]) = false := by rw [bal]; simpa using c4
        have t5 : ((⟨x.toArray⟩ : ByteArray).toList == [117]) = false := by rw [bal]; simpa using c5
        cases htx : textR x l' with
        | none =>
          have K45 := text45_no R ⟨x.toArray⟩ l' Wx hrd (by rw [bal]; exact htx)
          rw [htx] at hst
          have HN : Hid (insR l = none) := HNO.out pre x j l' hnx hrun hst
          clear hst htx hrun hnx hi6 hz6 c0 c1 c2 c3 c4 c5
          generalize (⟨x.toArray⟩ : ByteArray) = X at *
          have b1 := hbx.cell
          gi_wp2
          refine ⟨trivial, (CallsIn.inRound lp (callsIn_wide.2 K45)).mono ?_⟩
          rintro e w9 ⟨rfl, rfl⟩
          exact ⟨rfl, KeepsFrom.refl _ _, rfl, HN.out, hg⟩
        | some l2 =>
          have K45 := text45_ok R ⟨x.toArray⟩ l' l2 Wx hrd (by rw [bal]; exact htx)
          rw [htx] at hst
          simp only [Option.map_some] at hst
          have HRUN : Hid (runR (pre ++ [x]) (bareI NM, RS) = some (j, l2)) := by show _ = _; rw [runR_append, hrun]; show (stepR x (j, l')).bind (runR []) = _; rw [hst]; rfl
          have HLE : Hid (l2.length ≤ 100000) := Nat.le_trans (step_len hst) hl'
          have HI : Hid (In6 j B4 Wx ∧ In6 zeroI (w.heap.size + 1) Wx ∧ Boxed Wx w.heap.size 43 (.pointer (some ⟨R, 0, none⟩)) ∧ w.grownBy Wx (some R) ∧ W4.heap.size ≤ Wx.heap.size ∧ j.imm < 4294967296) := ⟨hi6, hz6, hbx, hg, hsz, him⟩
          have HRD : Hid (Rd R Wx l') := hrd
          have b1 := hbx.cell
          clear hst htx hrun hnx hi6 hz6 hbx hg hsz hrd him c0 c1 c2 c3 c4 c5
          generalize (⟨x.toArray⟩ : ByteArray) = X at *
          gi_wp2
          refine ⟨trivial, (CallsIn.inRound lp (callsIn_wide.2 K45)).mono ?_⟩
          rintro e w9 ⟨rfl, hrd9, hg9⟩
          obtain ⟨a1, a2, a3, a4, a5, a6⟩ := HI.out
          have HEE : Hid (KeepsFrom W4.heap.size Wx w9 ∧ w9.cell? ⟨BP, 0, none⟩ = Wx.cell? ⟨BP, 0, none⟩ ∧ (fun (pre : List L8) (Wx : World) => ∃ j l', runR pre (bareI NM, RS) = some (j, l') ∧ In6 j B4 Wx ∧ Rd R Wx l' ∧ Boxed Wx w.heap.size 43 (.pointer (some ⟨R, 0, none⟩)) ∧ w.grownBy Wx (some R) ∧ W4.heap.size ≤ Wx.heap.size ∧ In6 zeroI (w.heap.size + 1) Wx ∧ l'.length ≤ 100000 ∧ j.imm < 4294967296) (pre ++ [x]) w9) := by
            have hne := HNE.out
            have s9 := hg9.size
            refine ⟨(keeps_cells hg9 HRD.out).from _, World.cell?_of_block (hg9.block BP (by omega) (by intro e; injection e with e; omega)), _, l2, HRUN.out, a1.row hg9 (by intro e; injection e with e; omega), hrd9, a3.kept hg9 (by intro e; injection e with e; omega), gb_trans a4 hg9, by omega, a2.row hg9 (by intro e; injection e with e; omega), HLE.out, a6⟩
          clear hg9 hrd9 a1 a2 a3 a4 a5 a6 K45
          gi_wp2
          exact HEE.out
    case done =>
      rintro D xs Wx hD rfl ⟨j, l', hrun, hi6, hrd, hbx, hg, hsz, hz6, hl', him⟩ hK
      have HIN : Hid (insR l = if lineL j = l then some j else none) := HYE.out j l' hrun
      have K9 := line9 j him Wx (HLK.out Wx hg)
      obtain ⟨LJ, hLJ⟩ : ∃ z : ByteArray, z = ⟨(lineL j).toArray⟩ := ⟨_, rfl⟩
      rw [← hLJ] at K9
      unfold In.val at K9
      obtain ⟨d0, d1, d2, d3, d4, d5⟩ := hi6.cells
      have HK : Hid (Wx.heap[D]? = some (.deferred (some []))) := hK
      have HG : Hid (w.grownBy Wx (some R) ∧ In6 zeroI (w.heap.size + 1) Wx ∧ w.heap.size + 2 ≤ D) := ⟨hg, hz6, by have := HNE.out; omega⟩
      by_cases hlj : lineL j = l
      · have hcmp : (LJ.toList == LB.toList) = true := by rw [hLJ, HLB.out, bal, bal, hlj]; simp
        have HI2 : Hid (insR l = some j) := by show _ = _; rw [HIN.out, if_pos hlj]
        clear hlj hLJ hrun hi6 hrd hbx hg hz6 him hK HIN
        show WpAt 14 3 Tryd.prog _ _ _ _
        refine WpAt.of (n := 3) (wpIn_wide.2 ?_)
        go_wp2_with fail
        refine K9.mono ?_
        rintro e w9 ⟨rfl, hb9⟩
        have M := must46_ok w9
        have d0 := keep_cell hb9 d0
        have d1 := keep_cell hb9 d1
        have d2 := keep_cell hb9 d2
        have d3 := keep_cell hb9 d3
        have d4 := keep_cell hb9 d4
        have d5 := keep_cell hb9 d5
        clear K9
        go_wp2_with fail
        refine M.mono ?_
        rintro e w10 ⟨rfl, rfl⟩
        clear M
        have z9 := HG.out.2.1.keep hb9
        obtain ⟨q0, q1, q2, q3, q4, q5⟩ := z9.cells
        have f0 := z9.frozen 0
        have f1 := z9.frozen 1
        have f2 := z9.frozen 2
        have f3 := z9.frozen 3
        have f4 := z9.frozen 4
        have f5 := z9.frozen 5
        obtain ⟨W9, hW9⟩ : ∃ z, (((((w10.setCell ⟨w.heap.size + 1, 0, none⟩ (.string j.name)).setCell ⟨w.heap.size + 1, 1, none⟩ (.int .i64 j.rs)).setCell ⟨w.heap.size + 1, 2, none⟩ (.int .i64 j.rt)).setCell ⟨w.heap.size + 1, 3, none⟩ (.int .i64 j.rd)).setCell ⟨w.heap.size + 1, 4, none⟩ (.int .i64 j.sa)).setCell ⟨w.heap.size + 1, 5, none⟩ (.int .u32 (j.imm : Int)) = z := ⟨_, rfl⟩
        have H9 : Hid (In6 j (w.heap.size + 1) W9 ∧ W9.heap[D]? = some (.deferred (some [])) ∧ w.grownBy W9 (some R)) := by
          have g := st6_grown w10 (w.heap.size + 1) j
          have e : st6 w10 (w.heap.size + 1) j = W9 := hW9
          have i := st6_in z9 j
          rw [e] at g i
          have hDl := (Array.getElem?_eq_some_iff.1 HK.out).1
          refine ⟨i, ?_, gb_out (gb_trans HG.out.1 (grown_of hb9)) g (by omega)⟩
          have := HG.out.2.2
          rw [g.block D (by have := hb9.size; omega) (by intro e; injection e with e; omega), hb9.block D hDl]
          exact HK.out
        clear hb9 z9
        go_wp2
        have hK9 := H9.out.2.1
        refine ⟨by simp, .inl ⟨_, _, rfl, run_takeDeferred hK9, ?_⟩⟩
        have i9 : In6 j (w.heap.size + 1) (W9.putObj D (.deferred none)) := H9.out.1.row (grownBy_putObj' W9 D _) (by intro e; injection e with e; have := HG.out.2.2; omega)
        obtain ⟨s0, s1, s2, s3, s4, s5⟩ := i9.cells
        refine ⟨j.val, ?_, HPS.out _ _ HI2.out (gb_out H9.out.2.2 (grownBy_putObj' W9 D _) (by have := HG.out.2.2; omega))⟩
        unfold In.val
        rw [results_cell1 rfl]
        simp [go_sem, s0, s1, s2, s3, s4, s5]
      · have hcmp : (LJ.toList == LB.toList) = false := by rw [hLJ, HLB.out, bal, bal]; simpa using hlj
        have HI2 : Hid (insR l = none) := by show _ = _; rw [HIN.out, if_neg hlj]
        clear hlj hLJ hrun hi6 hrd hbx hg hz6 him hK HIN
        show WpAt 14 3 Tryd.prog _ _ _ _
        refine WpAt.of (n := 3) (wpIn_wide.2 ?_)
        go_wp2_with fail
        refine K9.mono ?_
        rintro e w9 ⟨rfl, hb9⟩
        have M := must46_no w9
        go_wp2_with fail
        refine M.mono ?_
        rintro e w10 ⟨rfl, rfl⟩
        have hDl := (Array.getElem?_eq_some_iff.1 HK.out).1
        have hK9 : w10.heap[D]? = some (.deferred (some [])) := (hb9.block D hDl).trans HK.out
        exact ⟨by simp, .inl ⟨_, _, rfl, run_takeDeferred hK9, HPN.out _ HI2.out (gb_out (gb_trans HG.out.1 (grown_of hb9)) (grownBy_putObj' w10 D _) (by have := HG.out.2.2; omega))⟩⟩
    case stop =>
      rintro D c pre Wx _ _ h _
      exact h.elim
    case thrown =>
      rintro D ch Wx hD ⟨rfl, h1, h2⟩ hK
      have hd := HNE.out
      exact ⟨by simp, .inl ⟨_, _, rfl, run_takeDeferred hK, HPN.out _ h1 (gb_out h2 (grownBy_putObj' Wx D _) (by omega))⟩⟩
end Go.Proofs.YtglkkeelocdanaaDoor
namespace Go.Proofs.YtglkkeelocdanaaDoor
open Go.RowKit
set_option linter.unusedVariables false
set_option linter.unusedSimpArgs false
set_option maxRecDepth 100000
theorem assert_110 (w : World) : (Instr.typeAssert (.iface 23 (.int .i64 110)) 20 23 true).run Tryd.prog w = .ok (.tuple #[.int .i64 110, .bool true]) w := by
  kernel_rfl
theorem assert_nil (w : World) : (Instr.typeAssert .nilIface 20 23 true).run Tryd.prog w = .ok (.tuple #[.int .i64 0, .bool false]) w := by
  kernel_rfl
theorem catch42 (p : Addr) (w : World) (hp : (w.cell? p).isSome = true) (hy : w.frozen? p = false) :
    CallsD Tryd.prog 28 #[.pointer (some p)] (.panicking thrown110) w fun e u' w' =>
      e = .returned (.tuple #[]) ∧ u' = .panicking [{ v := .iface 23 (.int .i64 110), recovered := true }] ∧ w' = w.setCell p (.int .i64 110) := by
  obtain ⟨o', hp⟩ := Option.isSome_iff_exists.1 hp
  have ha := assert_110
  refine callsD_of_wpS Tryd.func28 rfl fun c₀ cs hu => ?_
  apply wpS_seq
  apply wpS_region
  simp [wpOpsS, go_sem, recoverD, hu, ha, Tryd.ntmps28, Exit.thenS]
  apply wpS_seq
  apply wpS_region
  simp [wpOpsS, go_sem, Exit.thenS]
  refine wpS_cond (t := true) (by simp [Act.eval, Array.replicate]) ?_
  simp only [if_true]
  apply wpS_region
  simp [wpOpsS, go_sem, hp, hy, bodyPostS, results, Tryd.results28]
theorem idle42 (p : Addr) (w : World) :
    CallsD Tryd.prog 28 #[.pointer (some p)] .returning w fun e u' w' => e = .returned (.tuple #[]) ∧ u' = .returning ∧ w' = w := by
  have ha := assert_nil
  refine callsD_of_wpS Tryd.func28 rfl fun c₀ cs hu => ?_
  apply wpS_seq
  apply wpS_region
  simp [wpOpsS, go_sem, recoverD, hu, ha, Tryd.ntmps28, Exit.thenS]
  apply wpS_seq
  apply wpS_region
  simp [wpOpsS, go_sem, Exit.thenS]
  refine wpS_cond (t := false) (by simp [Act.eval, Array.replicate]) ?_
  simp only [Bool.false_eq_true, if_false]
  refine wpS_of_wp (wp_skip ?_)
  cases c₀
  simp_all [bodyPostS, results, Tryd.results28]
/-- What read lays: its two results, and the reader. -/
theorem box3r (w : World) (S : ByteArray) : ∃ W, ((w.alloc (.cells #[.string ⟨#[]⟩, .int .i64 0, .int .i64 0, .int .i64 0, .int .i64 0, .int .u32 0] 29)).alloc (.cells #[.int .i64 0] 23)).alloc (.cells #[.string S] 62) = W ∧ Below w.heap.size w W ∧ W.heap.size = w.heap.size + 3 ∧
    In6 zeroI w.heap.size W ∧ Boxed W (w.heap.size + 1) 23 (.int .i64 0) ∧ Boxed W (w.heap.size + 2) 62 (.string S) := by
  refine ⟨_, rfl, (((Below.refl _ _).alloc (Nat.le_refl _) _).alloc (by simp) _).alloc (by simp only [World.size_alloc]; omega) _, by simp, ?_, ?_, ?_⟩
  · exact ((In6.new zeroI w).keep ((Below.refl _ _).alloc (Nat.le_refl _) _)).keep ((Below.refl _ _).alloc (Nat.le_refl _) _)
  · have := Boxed.new (w.alloc (.cells #[.string ⟨#[]⟩, .int .i64 0, .int .i64 0, .int .i64 0, .int .i64 0, .int .u32 0] 29)) 23 (.int .i64 0)
    rw [World.size_alloc] at this
    exact this.alloc _
  · have := Boxed.new ((w.alloc (.cells #[.string ⟨#[]⟩, .int .i64 0, .int .i64 0, .int .i64 0, .int .i64 0, .int .u32 0] 29)).alloc (.cells #[.int .i64 0] 23)) 62 (.string S)
    rw [World.size_alloc, World.size_alloc] at this
    exact this
/-- What Parse tells. -/
def parV (l : L8) : Value := match insR l with
  | some i => .tuple #[i.val, .int .i64 0]
  | none => .tuple #[zeroI.val, .int .i64 110]
set_option maxHeartbeats 1000000 in
theorem read16 (l : L8) (hn : l.length ≤ 100000) (w : World) (hl : Lw w) :
    Calls Tryd.prog 13 #[.string ⟨l.toArray⟩, .func (.func 14) #[] #[]] w fun e w' => e = .returned (parV l) ∧ Below w.heap.size w w' := by
  have hmf : ∀ (fn : Fn) (first cap : Array Value) (w : World), (Instr.makeFunc fn first cap).run Tryd.prog w = .ok (.func fn first cap) w := fun _ _ _ _ => rfl
  obtain ⟨W, hW, hb, hz, z0, b1, r2⟩ := box3r w ⟨l.toArray⟩
  have K17 := ins17 (w.heap.size + 2) l hn W w r2 hl hb (by omega)
  have HP : Hid (parV l = match insR l with
      | some i => .tuple #[i.val, .int .i64 0]
      | none => .tuple #[zeroI.val, .int .i64 110]) := rfl
  have H0 : Hid (Below w.heap.size w W ∧ In6 zeroI w.heap.size W ∧ Boxed W (w.heap.size + 1) 23 (.int .i64 0) ∧ W.heap.size = w.heap.size + 3) := ⟨hb, z0, b1, hz⟩
  obtain ⟨V, hV⟩ : ∃ z, z = parV l := ⟨_, rfl⟩
  rw [← hV] at HP ⊢
  generalize (⟨l.toArray⟩ : ByteArray) = S at hW ⊢
  clear hV hb hz z0 b1 r2
  cases hi : insR l with
  | some i =>
    rw [hi] at K17 HP
    unfold In.val at K17
    have HP : Hid (V = .tuple #[i.val, .int .i64 0]) := HP
    clear hi
    go_enter_defers Tryd.func13, Tryd.ntmps13
    go_wp2_with fail
    refine K17.mono ?_
    rintro e w2 ⟨rfl, hg2⟩
    have hz := H0.out.2.2.2
    have z2 := H0.out.2.1.row hg2 (by intro e; injection e with e; omega)
    have b2 := H0.out.2.2.1.kept hg2 (by intro e; injection e with e; omega)
    obtain ⟨q0, q1, q2, q3, q4, q5⟩ := z2.cells
    have f0 := z2.frozen 0
    have f1 := z2.frozen 1
    have f2 := z2.frozen 2
    have f3 := z2.frozen 3
    have f4 := z2.frozen 4
    have f5 := z2.frozen 5
    obtain ⟨W8, hW8⟩ : ∃ z, (((((w2.setCell ⟨w.heap.size, 0, none⟩ (.string i.name)).setCell ⟨w.heap.size, 1, none⟩ (.int .i64 i.rs)).setCell ⟨w.heap.size, 2, none⟩ (.int .i64 i.rt)).setCell ⟨w.heap.size, 3, none⟩ (.int .i64 i.rd)).setCell ⟨w.heap.size, 4, none⟩ (.int .i64 i.sa)).setCell ⟨w.heap.size, 5, none⟩ (.int .u32 (i.imm : Int)) = z := ⟨_, rfl⟩
    have g8 := st6_grown w2 w.heap.size i
    rw [show st6 w2 w.heap.size i = W8 from hW8] at g8
    have i8 := st6_in z2 i
    rw [show st6 w2 w.heap.size i = W8 from hW8] at i8
    have b8 := b2.kept g8 (by intro e; injection e with e; omega)
    have p0 := b8.cell
    have y0 := b8.frozen
    have g9 := grown_set W8 (w.heap.size + 1) (.int .i64 0)
    obtain ⟨W9, hW9⟩ : ∃ z, W8.setCell ⟨w.heap.size + 1, 0, none⟩ (.int .i64 0) = z := ⟨_, rfl⟩
    have b9 := Boxed.set (.int .i64 0) b8
    have i9 := i8.row g9 (by intro e; injection e with e; omega)
    rw [hW9] at b9 i9 g9
    have HB9 : Hid (Below w.heap.size w W9) := by
      have h1 : Below w.heap.size w w2 := H0.out.1.grown hg2 H0.out.1.size (fun k e => by injection e with e; omega)
      have h2 : Below w.heap.size w W8 := h1.grown g8 h1.size (fun k e => by injection e with e; omega)
      exact h2.grown g9 h2.size (fun k e => by injection e with e; omega)
    obtain ⟨s0, s1, s2, s3, s4, s5⟩ := i9.cells
    have s6 := b9.cell
    clear K17 hg2 z2 b2 g8 i8 b8 g9 b9 i9 hz
    go_wp2
    refine leaves_cons (f := 28) (args := #[.pointer (some ⟨w.heap.size + 1, 0, none⟩)]) (by simp) (by simp [go_sem]) ?_
    refine (idle42 ⟨w.heap.size + 1, 0, none⟩ _).mono ?_
    rintro e u' w'' ⟨rfl, rfl, rfl⟩
    have HB9 := HB9.out
    have HP := HP.out
    unfold In.val at HP
    simp [Leaves, settle, results, Tryd.results13, go_sem, s0, s1, s2, s3, s4, s5, s6, HB9, HP]
  | none =>
    rw [hi] at K17 HP
    have HP : Hid (V = .tuple #[zeroI.val, .int .i64 110]) := HP
    clear hi
    go_enter_defers Tryd.func13, Tryd.ntmps13
    go_wp2_with fail
    refine K17.mono ?_
    rintro e w2 ⟨rfl, hg2⟩
    have hz := H0.out.2.2.2
    have z2 := H0.out.2.1.row hg2 (by intro e; injection e with e; omega)
    have b2 := H0.out.2.2.1.kept hg2 (by intro e; injection e with e; omega)
    have g9 := grown_set w2 (w.heap.size + 1) (.int .i64 110)
    have b9 := Boxed.set (.int .i64 110) b2
    have i9 := z2.row g9 (by intro e; injection e with e; omega)
    have HB9 : Hid (Below w.heap.size w (w2.setCell ⟨w.heap.size + 1, 0, none⟩ (.int .i64 110))) := by
      have h1 : Below w.heap.size w w2 := H0.out.1.grown hg2 H0.out.1.size (fun k e => by injection e with e; omega)
      exact h1.grown g9 h1.size (fun k e => by injection e with e; omega)
    obtain ⟨s0, s1, s2, s3, s4, s5⟩ := i9.cells
    have s6 := b9.cell
    have HBX : Hid (Boxed w2 (w.heap.size + 1) 23 (.int .i64 0)) := b2
    clear K17 hg2 z2 b2 g9 b9 i9 hz
    go_wp2
    refine leaves_cons (f := 28) (args := #[.pointer (some ⟨w.heap.size + 1, 0, none⟩)]) (by simp) (by simp [go_sem]) ?_
    refine (catch42 ⟨w.heap.size + 1, 0, none⟩ w2 (by rw [HBX.out.cell]; rfl) HBX.out.frozen).mono ?_
    rintro e u' w'' ⟨rfl, rfl, rfl⟩
    have HB9 := HB9.out
    have HP := HP.out
    unfold In.val at HP
    simp [Leaves, settle, results, Tryd.results13, go_sem, s0, s1, s2, s3, s4, s5, s6, HB9, HP]
def parI (l : L8) : In := (insR l).getD zeroI
def parE (l : L8) : Int := if (insR l).isSome then 0 else 110
theorem parV_is (l : L8) : parV l = .tuple #[(parI l).val, .int .i64 (parE l)] := by
  unfold parV parI parE
  cases insR l <;> rfl
set_option maxHeartbeats 1000000 in
theorem parse7 (l : L8) (hn : l.length ≤ 100000) (w : World) (hl : Lw w) :
    Calls Tryd.prog 6 #[.string ⟨l.toArray⟩] w fun e w' => e = .returned (.tuple #[(parI l).val, .int .i64 (parE l)]) ∧ Below w.heap.size w w' := by
  obtain ⟨W, hW⟩ : ∃ z, w.alloc (.cells #[.string ⟨#[]⟩, .int .i64 0, .int .i64 0, .int .i64 0, .int .i64 0, .int .u32 0] 29) = z := ⟨_, rfl⟩
  have hb : Below w.heap.size w W := by rw [← hW]; exact (Below.refl _ _).alloc (Nat.le_refl _) _
  have z0 : In6 zeroI w.heap.size W := by rw [← hW]; exact In6.new zeroI w
  have K16 := read16 l hn W (hl.keep hb)
  rw [parV_is] at K16
  generalize parI l = i at K16 ⊢
  generalize parE l = ee at K16 ⊢
  generalize (⟨l.toArray⟩ : ByteArray) = S at K16 ⊢
  unfold In.val at K16 ⊢
  have H0 : Hid (Below w.heap.size w W ∧ In6 zeroI w.heap.size W) := ⟨hb, z0⟩
  clear hb z0 hl
  go_enter Tryd.func6, Tryd.ntmps6
  go_wp2_with fail
  refine K16.mono ?_
  rintro e w2 ⟨rfl, hb2⟩
  have z2 := H0.out.2.keep hb2
  obtain ⟨q0, q1, q2, q3, q4, q5⟩ := z2.cells
  have f0 := z2.frozen 0
  have f1 := z2.frozen 1
  have f2 := z2.frozen 2
  have f3 := z2.frozen 3
  have f4 := z2.frozen 4
  have f5 := z2.frozen 5
  obtain ⟨W8, hW8⟩ : ∃ z, (((((w2.setCell ⟨w.heap.size, 0, none⟩ (.string i.name)).setCell ⟨w.heap.size, 1, none⟩ (.int .i64 i.rs)).setCell ⟨w.heap.size, 2, none⟩ (.int .i64 i.rt)).setCell ⟨w.heap.size, 3, none⟩ (.int .i64 i.rd)).setCell ⟨w.heap.size, 4, none⟩ (.int .i64 i.sa)).setCell ⟨w.heap.size, 5, none⟩ (.int .u32 (i.imm : Int)) = z := ⟨_, rfl⟩
  have g8 := st6_grown w2 w.heap.size i
  rw [show st6 w2 w.heap.size i = W8 from hW8] at g8
  have i8 := st6_in z2 i
  rw [show st6 w2 w.heap.size i = W8 from hW8] at i8
  obtain ⟨s0, s1, s2, s3, s4, s5⟩ := i8.cells
  have HB8 : Hid (Below w.heap.size w W8) := by
    have h1 := below_tr H0.out.1 hb2
    exact h1.grown g8 h1.size (fun k e => by injection e with e; omega)
  clear K16 hb2 z2 g8 i8
  go_wp2
  refine bodyPost_ret (v := .tuple #[.agg #[.string i.name, .int .i64 i.rs, .int .i64 i.rt, .int .i64 i.rd, .int .i64 i.sa, .int .u32 (i.imm : Int)], .int .i64 ee]) ?_ rfl ⟨rfl, HB8.out⟩
  rw [results_cell_tmp rfl]; simp [go_sem, s0, s1, s2, s3, s4, s5]
end Go.Proofs.YtglkkeelocdanaaDoor
