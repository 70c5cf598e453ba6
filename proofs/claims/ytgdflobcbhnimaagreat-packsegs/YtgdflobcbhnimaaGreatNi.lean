/- What is proved here: two builders side by side: what is written to one leaves the other. -/
import Derived.Test.YtgdflobcbhnimaaGreatBd
import Derived.Test.YtgdflobcbhnimaaGreatNg
import Derived.RegionTactic
namespace Go.Proofs.YtgdflobcbhnimaaGreat
open Go.RowKit
set_option linter.unusedVariables false
set_option linter.unusedSimpArgs false
set_option maxRecDepth 100000
/-- Where the row is that an append leaves. -/
theorem append_row {P : Program} (w : World) (t u ty e : TypeId) (i : TypeInfo) (ht : P.underlying t = some (.slice e)) (hu : P.underlying u = some .string) (hi : P.info? e = some i) (hz : i.zero = some (.int .u8 0))
    (hsize : i.size = 1) (hby : i.bytes = 1) (base : Nat) (v : Value) (n : Nat) (xs : List Value) (hown : w.ownsRow base e 1 v n xs) (s : ByteArray) (h63 : n + s.size ≤ 1000000000) (v' : Value) (w' : World)
    (hr : (Builtin.append_ #[t, u] ty #[v, .string s]).run P w = .ok v' w') : v'.ownBlock = none ∨ v'.ownBlock = v.ownBlock ∨ v'.ownBlock = some w.heap.size := by
  have hxl : xs.length = n := by simpa using hown.1
  rcases hown.2 with ⟨rfl, rfl⟩ | ⟨g, cap, cur, rfl, hbg, hg, hnc, hcm, hcs, htake⟩
  · by_cases hm : s.size = 0
    · have hf := Lib.run_firstCells_string (P := P) w 1 s
      rw [hm] at hf
      have : (Builtin.append_ #[t, u] ty #[.slice none 0 0, .string s]).run P w = .ok (.slice none 0 0) w := by
        simp [Builtin.append_, run_underlying ht, run_underlying hu, sizeOf, typeInfo, hi, hsize, Builtin.lenOf, hm, hf]
      rw [this] at hr
      injection hr with h1 h2
      subst h1
      exact Or.inl rfl
    · have hr2 := run_append_nil_string (P := P) w t u ty e i (.int .u8 0) ht hu hi hz s (by omega) (by omega) (by rw [hby]; omega)
      rw [hr2] at hr
      injection hr with h1 h2
      subst h1
      exact Or.inr (Or.inr rfl)
  · by_cases hroom : n + s.size ≤ cap
    · have hcs' : cur.size = cap := by simpa using hcs
      have hr2 := Lib.run_append_room_string (P := P) w t u ty e i ht hu hi hsize g n cap cur hg s hroom (by omega)
      rw [hr2] at hr
      injection hr with h1 h2
      subst h1
      exact Or.inr (Or.inl rfl)
    · have holds : ∀ j u, xs[j]? = some u → w.cell? ((⟨g, 0, none⟩ : Addr).add j) = some u := hown.cells (g := g) rfl
      have hr2 := Lib.run_append_grow_string (P := P) w t u ty e i (.int .u8 0) ht hu hi hz ⟨g, 0, none⟩ n cap xs (by rw [hsize]; simpa using hxl) holds s (by omega) (by omega) (by rw [hby]; exact growslice_fits (by omega) (by omega))
      rw [hr2] at hr
      injection hr with h1 h2
      subst h1
      exact Or.inr (Or.inr rfl)
theorem wpList_append_str2 {P : Program} {w : World} {ops : Array Oper} {rest : List Oper} {o : Oper} {a : Act} {Q : Exit → Act → World → Prop} (hgd : o.guard = none) (sl x : Operand) (t u : TypeId)
    (ho : o.op = .call { callee := .builtin .append, args := #[sl, x], argTypes := #[t, u] })
    (base : Nat) (e : TypeId) (i : TypeInfo) (ht : P.underlying t = some (.slice e)) (hu : P.underlying u = some .string) (hi : P.info? e = some i) (hz : i.zero = some (.int .u8 0))
    (hsize : i.size = 1) (hby : i.bytes = 1)
    (v : Value) (n : Nat) (xs : List Value) (hs : a.eval sl = v) (hown : w.ownsRow base e 1 v n xs) (s : ByteArray) (hx : a.eval x = .string s)
    (h63 : n + s.size ≤ 1000000000) (hbase : base ≤ w.heap.size)
    (h : ∀ v' w', w'.ownsRow base e 1 v' (n + s.size) (xs ++ Lib.strCells s) → w.grownBy w' v.ownBlock → (v'.ownBlock = none ∨ v'.ownBlock = v.ownBlock ∨ v'.ownBlock = some w.heap.size) → wpList P ops Q rest (a.put o.dst v') w') : wpList P ops Q (o :: rest) a w := by
  refine wpList_plain hgd fun K hK => ?_
  obtain ⟨v', w', hr, h2, h3, h4⟩ := Lib.run_append_own_string (P := P) w base t u o.type e i ht hu hi hz hsize hby v n xs hown s (by unfold maxLen; omega) (by omega) hbase
  have h5 := append_row w t u o.type e i ht hu hi hz hsize hby base v n xs hown s h63 v' w' hr
  unfold Oper.wp execOp
  simp only [ho, resolve, invoke, builtin, Sem.run_bind, Sem.run_pure, Result.andThen_ok, List.map_toArray, List.map_cons, List.map_nil, hs, hx, hr]
  exact hK _ _ (h v' w' h2 h3 h5)
/-- A builder in a block, whose row is told. -/
structure IsV (B b : Nat) (l : L8) (v : Value) (w : World) : Prop where
  hB : B ≤ b
  at_ : ∃ p, (p = .pointer none ∨ p = .pointer (some ⟨b, 0, none⟩)) ∧ w.heap[b]? = some (.cells #[p, v] 63 (0, 0))
  own : w.ownsRow B 5 1 v l.length (Lib.byteCells l)
  ne : v.ownBlock ≠ some b
theorem IsV.lt {B b : Nat} {l : L8} {v : Value} {w : World} (h : IsV B b l v w) : b < w.heap.size := by
  obtain ⟨p, hp, hb⟩ := h.at_
  exact (Array.getElem?_eq_some_iff.1 hb).1
theorem IsV.row {B b : Nat} {l : L8} {v : Value} {w : World} (h : IsV B b l v w) {g : Nat} (hg : v.ownBlock = some g) : ∃ cur, w.heap[g]? = some (.cells cur 5 (0, 0)) := by
  obtain ⟨_, ⟨hv, _⟩ | ⟨g', cap, cur, hv, _, hh, _⟩⟩ := h.own
  · rw [hv] at hg; cases hg
  · rw [hv] at hg
    injection hg with hg
    subst hg
    exact ⟨cur, hh⟩
theorem IsV.keep {B b : Nat} {l : L8} {v : Value} {w w' : World} (h : IsV B b l v w) (hb : w'.heap[b]? = w.heap[b]?) (hr : ∀ g, v.ownBlock = some g → w'.heap[g]? = w.heap[g]?) : IsV B b l v w' := by
  refine ⟨h.hB, ?_, ?_, h.ne⟩
  · obtain ⟨p, hp, hh⟩ := h.at_
    exact ⟨p, hp, hb.trans hh⟩
  · obtain ⟨h0, h1 | ⟨g, cap, cur, h1, h2, h3, h4⟩⟩ := h.own
    · exact ⟨h0, Or.inl h1⟩
    · exact ⟨h0, Or.inr ⟨g, cap, cur, h1, h2, (hr g (by rw [h1]; rfl)).trans h3, h4⟩⟩
theorem IsV.below {B b : Nat} {l : L8} {v : Value} {w w' : World} (h : IsV B b l v w) (hb : Below w.heap.size w w') : IsV B b l v w' :=
  h.keep (hb.block b h.lt) (fun g hg => by obtain ⟨cur, hc⟩ := h.row hg; exact hb.block g (Array.getElem?_eq_some_iff.1 hc).1)
theorem check51v (B b : Nat) (l : L8) (v : Value) (w : World) (h : IsV B b l v w) :
    Calls Tryz.prog 67 #[.pointer (some ⟨b, 0, none⟩)] w fun e w' => e = .returned (.tuple #[]) ∧ w'.heap[b]? = some (.cells #[.pointer (some ⟨b, 0, none⟩), v] 63 (0, 0)) ∧ w.grownBy w' (some b) ∧ w'.heap.size = w.heap.size := by
  obtain ⟨p, hp, hb⟩ := h.at_
  rcases hp with rfl | rfl
  · have h0 : w.cell? ⟨b, 0, none⟩ = some (.pointer none) := by simp [World.cell?, hb]
    have hsh : w.shape? b = some (63, 2) := by simp [World.shape?, hb]
    have hfz : w.frozen? ⟨b, 0, none⟩ = false := by simp [World.frozen?, hb]
    refine (check51_fresh b w h0 hsh hfz).mono ?_
    rintro e w' ⟨rfl, rfl⟩
    refine ⟨rfl, ?_, grown_setk w b 0 _, by simp⟩
    have := blk_set hb 0 (.pointer (some ⟨b, 0, none⟩))
    simpa using this
  · have h0 : w.cell? ⟨b, 0, none⟩ = some (.pointer (some ⟨b, 0, none⟩)) := by simp [World.cell?, hb]
    refine (check51_used b w h0).mono ?_
    rintro e w' ⟨rfl, rfl⟩
    exact ⟨rfl, hb, gb_refl _ _, rfl⟩
/-- All blocks but a builder's own stay. -/
def OthB (b : Nat) (v : Value) (w w' : World) : Prop := ∀ k, k < w.heap.size → k ≠ b → v.ownBlock ≠ some k → w'.heap[k]? = w.heap[k]?
set_option maxHeartbeats 2000000 in
theorem write41v (B b : Nat) (l : L8) (s : ByteArray) (v : Value) (w : World) (h : IsV B b l v w) (hlen : l.length + s.size ≤ 1000000000) (hBw : B ≤ w.heap.size) :
    Calls Tryz.prog 28 #[.pointer (some ⟨b, 0, none⟩), .string s] w fun e w' => e = .returned (.tuple #[.int .i64 s.size, .nilIface]) ∧ ∃ v', IsV B b (l ++ s.toList) v' w' ∧ Below B w w' ∧ OthB b v w w' ∧ (v'.ownBlock = none ∨ v'.ownBlock = v.ownBlock ∨ ∃ k, v'.ownBlock = some k ∧ w.heap.size ≤ k) := by
  obtain ⟨i0, hi, hz0, hz1, hz2⟩ := info_parts (P := Tryz.prog) (e := 5) (z := .int .u8 0) (size := 1) (bytes := 1) (by kernel_rfl)
  obtain ⟨bs, hbs⟩ : ∃ bs, bs = Lib.byteCells l := ⟨_, rfl⟩
  have hbl : bs.length = l.length := by rw [hbs, Lib.byteCells_length]
  have hE : Lib.byteCells (l ++ s.toList) = bs ++ Lib.strCells s := by rw [hbs, Lib.byteCells_append, Lib.strCells_eq, ByteArray.toList_eq]
  have HH : Hid (IsV B b l v w) := h
  have K := check51v B b l v w h
  have HN : Hid (Lib.byteCells (l ++ s.toList) = bs ++ Lib.strCells s ∧ bs.length = l.length ∧ bs = Lib.byteCells l) := ⟨hE, hbl, hbs⟩
  clear hE hbl hbs h
  go_enter Tryz.func28, Tryz.ntmps28
  go_wp2_with fail
  refine K.mono ?_
  rintro e w1 ⟨rfl, hbk, hg1, hs1⟩
  have hown : w1.ownsRow B 5 1 v l.length bs := by
    have h := HH.out
    obtain ⟨h0, h1 | ⟨g, cap, cur, h1, h2, h3, h4⟩⟩ := h.own
    · rw [HN.out.2.2]; exact ⟨h0, Or.inl h1⟩
    · rw [HN.out.2.2]
      refine ⟨h0, Or.inr ⟨g, cap, cur, h1, h2, (hg1.block g (Array.getElem?_eq_some_iff.1 h3).1 ?_).trans h3, h4⟩⟩
      intro e
      injection e with e
      exact h.ne (by rw [h1, ← e]; rfl)
  have hb1 : Below B w w1 := (Below.refl B w).grown hg1 hBw (fun k e => by injection e with e; have := HH.out.hB; omega)
  have c0 : w1.cell? ⟨b, 0, none⟩ = some (.pointer (some ⟨b, 0, none⟩)) := by rw [Lib.cell_of_heap hbk]; rfl
  have c1 : w1.cell? ⟨b, 1, none⟩ = some v := by rw [Lib.cell_of_heap hbk]; rfl
  have hBw1 : B ≤ w1.heap.size := by omega
  have HG : Hid (w.grownBy w1 (some b) ∧ w1.heap.size = w.heap.size ∧ Below B w w1) := ⟨hg1, hs1, hb1⟩
  clear K hg1 hs1 hb1
  go_wp2_with (at_builtin; refine wpList_append_str2 rfl _ _ 61 9 rfl B 5 i0 Tryz.underlying61 Tryz.underlying9 hi hz0 hz1 hz2 _ _ _ rfl hown s rfl hlen hBw1 ?_)
  intro v' w2 hown' hgrow hblk
  have hlt : b < w1.heap.size := (Array.getElem?_eq_some_iff.1 hbk).1
  have hne : v.ownBlock ≠ some b := HH.out.ne
  have hb2 : w2.heap[b]? = some (.cells #[.pointer (some ⟨b, 0, none⟩), v] 63 (0, 0)) := by
    rw [hgrow.block b hlt (fun e => hne e.symm)]
    exact hbk
  have d0 : w2.cell? ⟨b, 0, none⟩ = some (.pointer (some ⟨b, 0, none⟩)) := by rw [Lib.cell_of_heap hb2]; rfl
  have d1 : w2.cell? ⟨b, 1, none⟩ = some v := by rw [Lib.cell_of_heap hb2]; rfl
  have f1 : w2.frozen? ⟨b, 1, none⟩ = false := Lib.frozen_of_heap hb2 1
  obtain ⟨ao, n', cap, rfl⟩ : ∃ ao n' cap, v' = .slice ao n' cap := by
    rcases hown'.2 with ⟨hv, _⟩ | ⟨g, cap, cur, hv, _⟩
    · exact ⟨_, _, _, hv⟩
    · exact ⟨_, _, _, hv⟩
  have HE : Hid (∃ v', IsV B b (l ++ s.toList) v' (w2.setCell ⟨b, 1, none⟩ (.slice ao n' cap)) ∧ Below B w (w2.setCell ⟨b, 1, none⟩ (.slice ao n' cap)) ∧ OthB b v w (w2.setCell ⟨b, 1, none⟩ (.slice ao n' cap)) ∧ (v'.ownBlock = none ∨ v'.ownBlock = v.ownBlock ∨ ∃ k, v'.ownBlock = some k ∧ w.heap.size ≤ k)) := by
    obtain ⟨g1, g2, g3⟩ := HG.out
    have hneb : (Value.slice ao n' cap).ownBlock ≠ some b := by
      rcases hblk with e | e | e
      · rw [e]; intro h; cases h
      · rw [e]; exact hne
      · rw [e]; intro h; injection h with h; omega
    refine ⟨.slice ao n' cap, ⟨HH.out.hB, ⟨_, Or.inr rfl, ?_⟩, ?_, hneb⟩, ?_, ?_, ?_⟩
    · have := blk_set hb2 1 (.slice ao n' cap)
      simpa using this
    · have h3 : (w2.setCell ⟨b, 1, none⟩ (.slice ao n' cap)).ownsRow B 5 1 (.slice ao n' cap) (l.length + s.size) (bs ++ Lib.strCells s) := by
        obtain ⟨h0, h1 | ⟨g, cap', cur, h1, h2, h3, h4⟩⟩ := hown'
        · exact ⟨h0, Or.inl h1⟩
        · refine ⟨h0, Or.inr ⟨g, cap', cur, h1, h2, ((grown_setk w2 b 1 _).block g (Array.getElem?_eq_some_iff.1 h3).1 ?_).trans h3, h4⟩⟩
          intro e
          injection e with e
          exact hneb (by rw [h1, ← e]; rfl)
      rw [HN.out.1]
      rw [List.length_append, bt_len]
      exact h3
    · exact (g3.grown hgrow hBw1 (fun k hk => by
        obtain ⟨_, h1 | ⟨g, cap', cur, h1, h2, h3, h4⟩⟩ := hown
        · rw [h1.1] at hk; cases hk
        · have hk : g = k := by rw [h1] at hk; simpa [Value.ownBlock] using hk
          omega)).setCell (p := ⟨b, 1, none⟩) HH.out.hB _
    · intro k hk hkb hkr
      have e1 := g1.block k hk (fun e => hkb (by injection e))
      have e2 := hgrow.block k (by omega) (fun e => hkr e.symm)
      have e3 := (grown_setk w2 b 1 (.slice ao n' cap)).block k (by have := hgrow.size; omega) (fun e => hkb (by injection e))
      exact e3.trans (e2.trans e1)
    · rcases hblk with e | e | e
      · exact Or.inl e
      · exact Or.inr (Or.inl e)
      · exact Or.inr (Or.inr ⟨_, e, by omega⟩)
  clear hown hown' hgrow hblk hlt hb2 hbk
  go_wp2
  go_ret2
  exact ⟨rfl, HE.out⟩
end Go.Proofs.YtgdflobcbhnimaaGreat
