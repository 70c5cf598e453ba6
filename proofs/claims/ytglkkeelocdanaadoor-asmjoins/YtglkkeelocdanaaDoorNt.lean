/- What is proved here: bytes as hex digits: the program's hex. -/
import Derived.Test.YtglkkeelocdanaaDoorNp
import Derived.Test.YtglkkeelocdanaaDoorEach
import Derived.Laws.IdiomStrings
import Derived.Laws.MakeOwn
import Derived.Laws.AppendOwn
namespace Go.Proofs.YtglkkeelocdanaaDoor
open Go.RowKit
set_option linter.unusedVariables false
set_option linter.unusedSimpArgs false
set_option maxRecDepth 100000
/-- A hex digit. -/
def hxD (n : Nat) : UInt8 := if n < 10 then UInt8.ofNat (48 + n) else UInt8.ofNat (87 + n)
def hexL (s : L8) : L8 := s.flatMap (fun c => [hxD (c.toNat / 16), hxD (c.toNat % 16)])
theorem hex_len (s : L8) : (hexL s).length = 2 * s.length := by
  unfold hexL
  induction s with
  | nil => rfl
  | cons c t ih => rw [List.flatMap_cons, List.length_append, ih]; simp; omega
theorem hex_snoc (s : L8) (c : UInt8) : hexL (s ++ [c]) = hexL s ++ [hxD (c.toNat / 16), hxD (c.toNat % 16)] := by
  unfold hexL; rw [List.flatMap_append]; simp
theorem hex_ix (n : Nat) (h : n < 16) (w : World) : (Instr.index 9 (.string ⟨#[48, 49, 50, 51, 52, 53, 54, 55, 56, 57, 97, 98, 99, 100, 101, 102]⟩) (.int .u8 (n : Int))).run Tryd.prog w = .ok (.int .u8 ((hxD n).toNat : Int)) w := by
  have key : n = 0 ∨ n = 1 ∨ n = 2 ∨ n = 3 ∨ n = 4 ∨ n = 5 ∨ n = 6 ∨ n = 7 ∨ n = 8 ∨ n = 9 ∨ n = 10 ∨ n = 11 ∨ n = 12 ∨ n = 13 ∨ n = 14 ∨ n = 15 := by omega
  clear h
  rcases key with rfl | rfl | rfl | rfl | rfl | rfl | rfl | rfl | rfl | rfl | rfl | rfl | rfl | rfl | rfl | rfl <;> rfl
theorem and15 (c : Nat) (hc : c < 256) : bits .and .u8 (c : Int) 15 = ((c % 16 : Nat) : Int) := by
  have := bits_mask .u8 8 (by decide) (fun n h0 h1 => by rw [IntKind.wrap_u8]; omega) 4 (by decide) (c : Int) (Int.natCast_nonneg _) (by rw [show (2 : Int) ^ 8 = 256 from rfl]; omega)
  first | (rw [show (15 : Int) = 2 ^ 4 - 1 from rfl, this]; omega) | (simp at this; rw [this]; omega)
def cellsB (l : L8) : List Value := l.map (fun b => Value.int .u8 (b.toNat : Int))
theorem info5 : (Tryd.prog.info? 5).map (fun i => (i.zero, i.size, i.bytes)) = some (some (.int .u8 0), 1, 1) := by kernel_rfl
theorem mk55 (n : Nat) (hn : n ≤ 1000000) (w : World) : ∃ cs : Array Value, cs.size = n ∧ (Instr.makeSlice 34 (.int .i64 0) (.int .i64 (n : Int))).run Tryd.prog w = .ok (.slice (some ⟨w.heap.size, 0, none⟩) 0 n) (w.alloc (.cells cs 5)) := by
  obtain ⟨i0, hi, hz0, hz1, hz2⟩ := info_parts info5
  have h := run_makeSlice (P := Tryd.prog) w 34 5 i0 (.int .u8 0) Tryd.underlying34 hi hz0 .i64 .i64 0 (n : Int) (by omega) (by omega) (by rw [hz1]; omega) (by rw [hz2]; omega) (by omega)
  rw [hz1, Int.toNat_natCast, Nat.mul_one, Int.toNat_zero] at h
  exact ⟨_, size_madeCells _ _, h⟩
theorem cells2 (w w' : World) (a b : Value) (t g : Nat) (h : w'.heap[g]? = some (.cells #[a, b] t (0, 0))) : ∀ j u, ([a, b] : List Value)[j]? = some u → w'.cell? ((⟨g, 0, none⟩ : Addr).add j) = some u := by
  intro j u hj
  have ha : (Addr.add ⟨g, 0, none⟩ j) = ⟨g, j, none⟩ := by unfold Addr.add; split <;> simp_all
  rw [ha]
  match j, hj with
  | 0, hj => simp [World.cell?, h]; simpa using hj
  | 1, hj => simp [World.cell?, h]; simpa using hj
  | j + 2, hj => simp at hj
theorem own_keep1 {w w' : World} {base e n : Nat} {v : Value} {xs : List Value} (h : w.ownsRow base e 1 v n xs) (hb : Below w.heap.size w w') : w'.ownsRow base e 1 v n xs := by
  obtain ⟨h0, h | ⟨g, cap, cur, h1, h2, h3, h4⟩⟩ := h
  · exact ⟨h0, Or.inl h⟩
  · refine ⟨h0, Or.inr ⟨g, cap, cur, h1, h2, ?_, h4⟩⟩
    rw [hb.block g (Array.getElem?_eq_some_iff.1 h3).1]; exact h3
/-- A row of bytes of one's own, as text. -/
theorem own_text {w : World} {base : Nat} {v : Value} {l : L8} (h : w.ownsRow base 5 1 v l.length (cellsB l)) : (convert 34 9 v).run Tryd.prog w = .ok (.string ⟨l.toArray⟩) w := by
  obtain ⟨hx, ⟨rfl, h0⟩ | ⟨g, cap, cur, rfl, hb, hh, hn, hc, hcs, hx2⟩⟩ := h
  · have : l = [] := List.eq_nil_of_length_eq_zero h0
    subst this
    first | rfl | simp [go_sem]
  · refine run_convert_bytes_back (P := Tryd.prog) w 34 9 5 ⟨g, 0, none⟩ cap l Tryd.underlying34 Tryd.underlying5 Tryd.underlying9 (fun j hj => ?_)
    have ha : (Addr.add ⟨g, 0, none⟩ j) = ⟨g, j, none⟩ := by unfold Addr.add; split <;> simp_all
    rw [ha]
    have e : (cellsB l)[j]? = some (.int .u8 (l[j].toNat : Int)) := by unfold cellsB; rw [List.getElem?_map, List.getElem?_eq_getElem hj]; rfl
    rw [← hx2, List.getElem?_take] at e
    split at e
    · simp only [World.cell?, hh]; simpa using e
    · cases e
set_option maxHeartbeats 1000000 in
theorem hex34 (S : ByteArray) (hS : S.size ≤ 100000) (w : World) : Calls Tryd.prog 20 #[.string S] w fun e w' => e = .returned (.string ⟨(hexL S.toList).toArray⟩) ∧ Below w.heap.size w w' := by
  obtain ⟨i0, hi0, hz0, hz1, hz2⟩ := info_parts info5
  have HI : Hid (Tryd.prog.info? 5 = some i0 ∧ i0.zero = some (.int .u8 0) ∧ i0.size = 1 ∧ i0.bytes = 1) := ⟨hi0, hz0, hz1, hz2⟩
  obtain ⟨l, hl⟩ : ∃ z, z = S.toList := ⟨_, rfl⟩
  have HL : Hid (l = S.toList ∧ l.length = S.size) := ⟨hl, by rw [hl]; exact bt_len S⟩
  rw [← hl]
  obtain ⟨cs, hcs, hmk⟩ := mk55 (2 * S.size) (by omega) w
  obtain ⟨W1, hW1⟩ : ∃ z, w.alloc (.cells cs 5) = z := ⟨_, rfl⟩
  have HW1 : Hid (Below w.heap.size w W1 ∧ W1.ownsRow w.heap.size 5 1 (.slice (some ⟨w.heap.size, 0, none⟩) 0 (2 * S.size)) 0 []) := by
    rw [← hW1]
    exact ⟨(Below.refl _ _).alloc (Nat.le_refl _) _, World.ownsRow_made w cs (2 * S.size) (Nat.le_refl _) (by unfold maxLen; omega) (by omega)⟩
  have h2S : (2 : Int) * (S.size : Int) = ((2 * S.size : Nat) : Int) := by omega
  obtain ⟨C2, hC2⟩ : ∃ z, z = 2 * S.size := ⟨_, rfl⟩
  rw [← hC2] at hmk HW1 h2S
  obtain ⟨XL, hXL⟩ : ∃ z, z = hexL l := ⟨_, rfl⟩
  rw [← hXL]
  have HXL : Hid (XL = hexL l) := hXL
  clear hl hi0 hz0 hz1 hz2 hcs hC2 hXL
  go_enter Tryd.func20, Tryd.ntmps20
  go_wp2
  go_loopw [3, 11] (fun x y wr => ∃ k : Nat, y = .int .i64 (k : Int) ∧ k ≤ S.size ∧ wr.ownsRow w.heap.size 5 1 x (2 * k) (cellsB (hexL (l.take k))) ∧ Below w.heap.size w wr) (fun _ y _ => S.size - (intOf y).toNat)
  case atStart => exact ⟨0, rfl, Nat.zero_le _, HW1.out.2, HW1.out.1⟩
  case round =>
    obtain ⟨k, rfl, hk, how, hb⟩ := hrel
    obtain ⟨sa, sc, rfl⟩ := own_shape1 how
    have HO : Hid _ := how
    have HB : Hid (Below w.heap.size w wr) := hb
    have hll := HL.out.2
    clear hW1 hmk how hb
    by_cases hlt : k < S.size
    · have hkl : k < l.length := by omega
      obtain ⟨c, hc⟩ : ∃ c, c = l[k] := ⟨_, rfl⟩
      have hix : S[k] = c := by
        have h := bt_get S k hlt (by rw [← HL.out.1]; exact hkl)
        rw [h, hc]
        simp only [HL.out.1]
      obtain ⟨cn, hcn⟩ : ∃ z : Nat, z = c.toNat := ⟨_, rfl⟩
      have hcl : cn < 256 := by rw [hcn]; exact UInt8.toNat_lt c
      have hix2 : S[k].toNat = cn := by rw [hix, hcn]
      have hik : (k : Int) < (S.size : Int) := by omega
      obtain ⟨hi, hhi⟩ : ∃ z : Nat, z = cn / 16 := ⟨_, rfl⟩
      obtain ⟨lo, hlo⟩ : ∃ z : Nat, z = cn % 16 := ⟨_, rfl⟩
      have hsh : (cn : Int) / 16 = (hi : Int) := by omega
      have hand : bits .and .u8 (cn : Int) 15 = (lo : Int) := by rw [hlo]; exact and15 cn hcl
      obtain ⟨ha, hha⟩ : ∃ z : Nat, z = (hxD hi).toNat := ⟨_, rfl⟩
      obtain ⟨hb, hhb⟩ : ∃ z : Nat, z = (hxD lo).toNat := ⟨_, rfl⟩
      have hxa := hex_ix hi (by omega)
      have hxb := hex_ix lo (by omega)
      rw [← hha] at hxa
      rw [← hhb] at hxb
      have HSN : Hid (cellsB (hexL (l.take (k + 1))) = cellsB (hexL (l.take k)) ++ [.int .u8 (ha : Int), .int .u8 (hb : Int)]) := by
        show _ = _
        rw [List.take_succ_eq_append_getElem hkl, ← hc, hex_snoc, ← hcn, ← hhi, ← hlo]
        unfold cellsB
        rw [List.map_append, hha, hhb]
        rfl
      clear hix hc hcn hhi hlo hha hhb
      go_wp2
      refine wp_region_cut (R := Ext) [⟨14, fun v _ => v = .slice sa (2 * k) sc, fun _ _ _ _ h => h⟩, ⟨15, fun v _ => v = .string S, fun _ _ _ _ h => h⟩, ⟨16, fun v _ => v = .int .i64 (k : Int), fun _ _ _ _ h => h⟩, ⟨17, fun v _ => v = .int .u8 (cn : Int), fun _ _ _ _ h => h⟩, ⟨18, fun v _ => v = .int .u8 (hi : Int), fun _ _ _ _ h => h⟩, ⟨19, fun v _ => v = .int .u8 (ha : Int), fun _ _ _ _ h => h⟩, ⟨20, fun v _ => v = .string S, fun _ _ _ _ h => h⟩, ⟨21, fun v _ => v = .int .i64 (k : Int), fun _ _ _ _ h => h⟩, ⟨22, fun v _ => v = .int .u8 (cn : Int), fun _ _ _ _ h => h⟩, ⟨23, fun v _ => v = .int .u8 (lo : Int), fun _ _ _ _ h => h⟩, ⟨24, fun v _ => v = .int .u8 (hb : Int), fun _ _ _ _ h => h⟩, ⟨25, fun v W => ∃ g, v = .slice (some ⟨g, 0, none⟩) 2 2 ∧ W.heap[g]? = some (.cells #[.int .u8 (ha : Int), .int .u8 (hb : Int)] 5 (0, 0)), fun v A C hb h => by obtain ⟨g, h1, h2⟩ := h; exact ⟨g, h1, (hb.block _ (Array.getElem?_eq_some_iff.1 h2).1).trans h2⟩⟩] _ 12 (by kernel_rfl) rfl (by kernel_rfl) (by decide) (by kernel_rfl) (Below.drew (Below.refl _ _)) (fun _ _ _ h1 h2 => below_tr h1 h2) (fun QQ => ⟨?_, ?_, ?_, ?_, ?_, ?_, ?_, ?_, ?_, ?_, ?_, ?_, trivial⟩) (fun f wy hR hf A hA => ?_)
      · intro A wx hR hout hdep K hK
        have h3 : A.tmps[3]?.getD undef = .slice sa (2 * k) sc := hout 3 (by kernel_rfl)
        refine if_yes (by kernel_rfl) ?_
        simp [go_sem, h3, hix2, hik, hsh, hand, hxa, hxb]
        exact hK.out _ _ (Below.refl _ _) rfl
      · intro A wx hR hout hdep K hK
        have h0 : A.tmps[0]?.getD undef = .string S := hout 0 (by kernel_rfl)
        refine if_yes (by kernel_rfl) ?_
        simp [go_sem, h0, hix2, hik, hsh, hand, hxa, hxb]
        exact hK.out _ _ (Below.refl _ _) rfl
      · intro A wx hR hout hdep K hK
        have h4 : A.tmps[4]?.getD undef = .int .i64 (k : Int) := hout 4 (by kernel_rfl)
        refine if_yes (by kernel_rfl) ?_
        simp [go_sem, h4, hix2, hik, hsh, hand, hxa, hxb]
        exact hK.out _ _ (Below.refl _ _) rfl
      · intro A wx hR hout hdep K hK
        have h15 : A.tmps[15]?.getD undef = .string S := hdep 15 (by kernel_rfl)
        have h16 : A.tmps[16]?.getD undef = .int .i64 (k : Int) := hdep 16 (by kernel_rfl)
        refine if_yes (by kernel_rfl) ?_
        simp [go_sem, h15, h16, hix2, hik, hsh, hand, hxa, hxb]
        exact hK.out _ _ (Below.refl _ _) rfl
      · intro A wx hR hout hdep K hK
        have h17 : A.tmps[17]?.getD undef = .int .u8 (cn : Int) := hdep 17 (by kernel_rfl)
        refine if_yes (by kernel_rfl) ?_
        simp [go_sem, h17, hix2, hik, hsh, hand, hxa, hxb]
        exact hK.out _ _ (Below.refl _ _) rfl
      · intro A wx hR hout hdep K hK
        have h18 : A.tmps[18]?.getD undef = .int .u8 (hi : Int) := hdep 18 (by kernel_rfl)
        refine if_yes (by kernel_rfl) ?_
        simp [go_sem, h18, hix2, hik, hsh, hand, hxa, hxb]
        exact hK.out _ _ (Below.refl _ _) rfl
      · intro A wx hR hout hdep K hK
        have h0 : A.tmps[0]?.getD undef = .string S := hout 0 (by kernel_rfl)
        refine if_yes (by kernel_rfl) ?_
        simp [go_sem, h0, hix2, hik, hsh, hand, hxa, hxb]
        exact hK.out _ _ (Below.refl _ _) rfl
      · intro A wx hR hout hdep K hK
        have h4 : A.tmps[4]?.getD undef = .int .i64 (k : Int) := hout 4 (by kernel_rfl)
        refine if_yes (by kernel_rfl) ?_
        simp [go_sem, h4, hix2, hik, hsh, hand, hxa, hxb]
        exact hK.out _ _ (Below.refl _ _) rfl
      · intro A wx hR hout hdep K hK
        have h20 : A.tmps[20]?.getD undef = .string S := hdep 20 (by kernel_rfl)
        have h21 : A.tmps[21]?.getD undef = .int .i64 (k : Int) := hdep 21 (by kernel_rfl)
        refine if_yes (by kernel_rfl) ?_
        simp [go_sem, h20, h21, hix2, hik, hsh, hand, hxa, hxb]
        exact hK.out _ _ (Below.refl _ _) rfl
      · intro A wx hR hout hdep K hK
        have h22 : A.tmps[22]?.getD undef = .int .u8 (cn : Int) := hdep 22 (by kernel_rfl)
        refine if_yes (by kernel_rfl) ?_
        simp [go_sem, h22, hix2, hik, hsh, hand, hxa, hxb]
        exact hK.out _ _ (Below.refl _ _) rfl
      · intro A wx hR hout hdep K hK
        have h23 : A.tmps[23]?.getD undef = .int .u8 (lo : Int) := hdep 23 (by kernel_rfl)
        refine if_yes (by kernel_rfl) ?_
        simp [go_sem, h23, hix2, hik, hsh, hand, hxa, hxb]
        exact hK.out _ _ (Below.refl _ _) rfl
      · intro A wx hR hout hdep K hK
        have h19 : A.tmps[19]?.getD undef = .int .u8 (ha : Int) := hdep 19 (by kernel_rfl)
        have h24 : A.tmps[24]?.getD undef = .int .u8 (hb : Int) := hdep 24 (by kernel_rfl)
        refine if_yes (by kernel_rfl) ?_
        simp [go_sem, h19, h24, hix2, hik, hsh, hand, hxa, hxb]
        exact hK.out _ _ ((Below.refl _ _).alloc (Nat.le_refl _) _) ⟨_, rfl, World.alloc_heap_new wx _⟩
      obtain ⟨g, hv25, hg25⟩ : ∃ g, f 25 = .slice (some ⟨g, 0, none⟩) 2 2 ∧ wy.heap[g]? = some (.cells #[.int .u8 (ha : Int), .int .u8 (hb : Int)] 5 (0, 0)) := hf 25 (by kernel_rfl)
      have hv14 : f 14 = .slice sa (2 * k) sc := hf 14 (by kernel_rfl)
      simp only [putSl, List.take_succ_cons, List.take_zero, Act.put, List.setIfInBounds_toArray, List.set_cons_zero, List.set_cons_succ, hv25, hv14] at hA
      subst hA
      have how := own_keep1 HO.out hR
      have HBY : Hid (Below w.heap.size w wy) := below_tr HB.out hR
      refine wpAny_ready (rs := [12]) (by kernel_rfl) (by decide) (AllReady.cons rfl ?_ AllReady.nil)
      intro K5 hK5
      refine if_yes (by kernel_rfl) ?_
      refine wp_append_own wy (.tmp 14) (.tmp 25) 34 rfl w.heap.size 5 i0 _ 1 1 Tryd.underlying34 HI.out.1 HI.out.2.1 HI.out.2.2.1 HI.out.2.2.2 rfl (by decide) _ _ _ rfl how ⟨g, 0, none⟩ 2 2 [.int .u8 (ha : Int), .int .u8 (hb : Int)] rfl rfl (cells2 w wy _ _ _ g hg25) (by intro u hu; simp at hu; rcases hu with rfl | rfl <;> rfl) (by unfold maxLen; omega) (by omega) HBY.out.size ?_
      intro sv w2 how2 hgr2 _
      refine hK5 _ _ ?_
      simp only [Act.put, List.setIfInBounds_toArray, List.set_cons_zero, List.set_cons_succ]
      refine wpAny_ready (rs := [13]) (by kernel_rfl) (by decide) (AllReady.cons rfl ?_ AllReady.nil)
      intro K6 hK6
      refine if_yes (by kernel_rfl) ?_
      simp [go_sem]
      refine hK6 _ _ ?_
      refine wpAny_done (by kernel_rfl) ?_ _
      obtain ⟨sa2, sc2, rfl⟩ := own_shape1 how2
      have HF : Hid (w2.ownsRow w.heap.size 5 1 (.slice sa2 (2 * k + 2) sc2) (2 * k + 2) (cellsB (hexL (l.take (k + 1)))) ∧ Below w.heap.size w w2) := by
        refine ⟨by rw [HSN.out]; exact how2, HBY.out.grown hgr2 HBY.out.size (fun r e => own_ge1 HO.out r e)⟩
      clear how how2 hgr2 hg25 hf hv25 hv14 hR
      go_wp2
      go_roundw
      case rel => exact ⟨k + 1, by simp, by omega, by rw [show 2 * (k + 1) = 2 * k + 2 by omega]; exact HF.out.1, HF.out.2⟩
      case measure => simp [intOf]; omega
    · have hke : k = S.size := by omega
      have hik : ¬ (k : Int) < (S.size : Int) := by omega
      have hik2 : decide ((k : Int) < (S.size : Int)) = false := decide_eq_false hik
      have hcv : (convert 34 9 (.slice sa (2 * k) sc)).run Tryd.prog wr = .ok (.string ⟨(hexL l).toArray⟩) wr := by
        have h := HO.out
        rw [hke, ← hll, List.take_length, ← hex_len] at h
        have := own_text h
        rw [hke, ← hll, ← hex_len]
        exact this
      rw [← HXL.out] at hcv
      clear hke
      go_wp2
      first | go_ret | skip
      exact ⟨rfl, HB.out⟩
end Go.Proofs.YtglkkeelocdanaaDoor
