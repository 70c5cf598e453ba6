/- What is proved here: numbers as bytes, one behind the other: the program's halves and words. -/
import Derived.Test.YtgdflobcbhnimaaGreatETk
namespace Go.Proofs.YtgdflobcbhnimaaGreat.E
open Go.RowKit
set_option linter.unusedVariables false
set_option linter.unusedSimpArgs false
set_option maxRecDepth 100000
/-- A slice holds numbers of 32 bits. -/
def SlU (w : World) (v : Value) (xs : List Nat) : Prop := ∃ b o cap, v = .slice (some ⟨b, o, none⟩) xs.length cap ∧ xs.length ≤ cap ∧ cap ≤ 9223372036854775807 ∧ ∀ i (h : i < xs.length), w.cell? ⟨b, o + i, none⟩ = some (.int .u32 (xs[i] : Int))
theorem SlU.keep {w w' : World} {v : Value} {xs : List Nat} (h : SlU w v xs) (hb : Below w.heap.size w w') : SlU w' v xs := by
  obtain ⟨b, o, cap, rfl, h1, h2, h3⟩ := h
  exact ⟨b, o, cap, rfl, h1, h2, fun i hi => keep_cell hb (h3 i hi)⟩
theorem SlU.new (w : World) (xs : List Nat) (cs : Array Value) (hc : cs = (xs.map fun (x : Nat) => Value.int .u32 (x : Int)).toArray) (n : Nat) (hn : n = xs.length) (hx : xs.length ≤ 1000) : SlU (w.alloc (.cells cs 22)) (.slice (some ⟨w.heap.size, 0, none⟩) n n) xs := by
  subst hn hc
  refine ⟨w.heap.size, 0, xs.length, rfl, Nat.le_refl _, by omega, fun i hi => ?_⟩
  rw [Nat.zero_add]
  exact cell_newA w _ _ _ _ _ rfl (by simp [hi])
theorem own_keep {w w' : World} {base e size : Nat} {v : Value} {n : Nat} {xs : List Value} (h : w.ownsRow base e size v n xs) (hb : Below w.heap.size w w') : w'.ownsRow base e size v n xs := by
  obtain ⟨h0, h | ⟨g, cap, cur, h1, h2, h3, h4⟩⟩ := h
  · exact ⟨h0, Or.inl h⟩
  · refine ⟨h0, Or.inr ⟨g, cap, cur, h1, h2, ?_, h4⟩⟩
    rw [hb.block g (Array.getElem?_eq_some_iff.1 h3).1]; exact h3
theorem isB_keep {B b : Nat} {l : L8} {w w' : World} (h : IsB B b l w) (hb : Below w.heap.size w w') : IsB B b l w' := by
  have key : ∀ p, Lib.BuilderAt 63 5 B b p (Lib.byteCells l) w → Lib.BuilderAt 63 5 B b p (Lib.byteCells l) w' := fun p h => by
    have hl := h.lt
    obtain ⟨h0, v, h1, h2, h3⟩ := h
    exact ⟨h0, v, (hb.block b hl).trans h1, own_keep h2 hb, h3⟩
  rcases h with h | h
  · exact Or.inl (key _ h)
  · exact Or.inr (key _ h)
theorem put55 (v n : Nat) (hn : n ≤ 8) (w : World) : Calls Tryz.prog 116 #[.int .u64 (v : Int), .int .i64 (n : Int)] w fun e w' => e = .returned (.string ⟨(bN n v).toArray⟩) ∧ Below w.heap.size w w' := by
  have h := W.putBe_any v (n : Int) w
  have e : W.putBeS v (n : Int) = ⟨(bN n v).toArray⟩ := by
    unfold W.putBeS bN
    rw [if_pos (by omega)]
    rfl
  rw [e] at h
  exact h
theorem flat_len2 (n : Nat) (xs : List Nat) : (xs.flatMap (bN n)).length = n * xs.length := by
  induction xs with
  | nil => rfl
  | cons x t ih => rw [List.flatMap_cons, List.length_append, bN_len, ih, List.length_cons]; rw [Nat.mul_add, Nat.mul_one, Nat.add_comm]
set_option maxHeartbeats 1000000 in
theorem numbers52 (n : Nat) (hn : n ≤ 8) (xs : List Nat) (hx : xs.length ≤ 1000) (v : Value) (w : World) (hb : ∀ x ∈ xs, x < 4294967296) (hs : SlU w v xs) :
    Calls Tryz.prog 122 #[.int .i64 (n : Int), v] w fun e w' => e = .returned (.string ⟨(xs.flatMap (bN n)).toArray⟩) ∧ Below w.heap.size w w' := by
  obtain ⟨b, o, cap, rfl, s1, s2, s3⟩ := hs
  have HS : Hid (∀ i (h : i < xs.length), w.cell? ⟨b, o + i, none⟩ = some (.int .u32 (xs[i] : Int))) := s3
  have HP : Hid (∀ x w', Calls Tryz.prog 116 #[.int .u64 ((x : Nat) : Int), .int .i64 (n : Int)] w' fun e w'' => e = .returned (.string ⟨(bN n x).toArray⟩) ∧ Below w'.heap.size w' w'') := fun x w' => put55 x n hn w'
  have HBD : Hid (∀ x ∈ xs, x < 4294967296) := hb
  clear s3 hb
  obtain ⟨W0, hW0⟩ : ∃ W0, w.alloc (.cells #[.pointer none, .slice none 0 0] 63) = W0 := ⟨_, rfl⟩
  have HI : Hid (IsB w.heap.size w.heap.size [] W0 ∧ Below w.heap.size w W0 ∧ w.heap.size ≤ W0.heap.size) := by
    refine ⟨?_, ?_, ?_⟩
    · rw [← hW0]
      exact Or.inl ⟨Nat.le_refl _, _, World.alloc_heap_new w _, ⟨rfl, Or.inl ⟨rfl, rfl⟩⟩, by simp [Value.ownBlock]⟩
    · rw [← hW0]; exact (Below.refl _ _).alloc (Nat.le_refl _) _
    · rw [← hW0]; simp
  go_enter Tryz.func122, Tryz.ntmps122
  go_wp2
  go_loopw [10] (fun x wr => ∃ k : Nat, x = .int .i64 (k : Int) ∧ k ≤ xs.length ∧ IsB w.heap.size w.heap.size ((xs.take k).flatMap (bN n)) wr ∧ Below w.heap.size w wr) (fun x _ => xs.length - (intOf x).toNat)
  case atStart => exact ⟨0, rfl, Nat.zero_le _, HI.out.1, HI.out.2.1⟩
  case round =>
    obtain ⟨k, rfl, hk, hI, hbr⟩ := hrel
    by_cases hlt : k < xs.length
    · have c0 := keep_cell hbr (HS.out k hlt)
      obtain ⟨x, hxx⟩ : ∃ x, x = xs[k] := ⟨_, rfl⟩
      have HT : Hid ((xs.take (k + 1)).flatMap (bN n) = (xs.take k).flatMap (bN n) ++ bN n x) := by
        show _ = _
        rw [List.take_succ_eq_append_getElem hlt, List.flatMap_append, hxx]
        simp
      have hm := HBD.out x (by rw [hxx]; exact List.getElem_mem hlt)
      have hw : (x : Int) % 18446744073709551616 = (x : Int) := by omega
      rw [← hxx] at c0
      have HII : Hid (IsB w.heap.size w.heap.size ((xs.take k).flatMap (bN n)) wr) := hI
      have hxi : (x : Int) < 4294967296 := by omega
      clear hxx hm hI
      go_wp2_with fail
      refine (HP.out x wr).mono ?_
      rintro e w1 ⟨rfl, hb1⟩
      clear c0 hw hxi
      have hszw : w.heap.size ≤ wr.heap.size := hbr.size
      have hI1 := isB_keep HII.out hb1
      have KW := write41 w.heap.size w.heap.size ((xs.take k).flatMap (bN n)) ⟨(bN n x).toArray⟩ w1 hI1 (by
        rw [flat_len2]
        have h1 : (⟨(bN n x).toArray⟩ : ByteArray).size = n := by show (bN n x).toArray.size = n; simp [bN_len]
        have h2 : (xs.take k).length ≤ 1000 := by simp; omega
        have h3 : n * (xs.take k).length ≤ 8 * 1000 := Nat.mul_le_mul hn h2
        rw [h1]; omega) (Nat.le_trans hszw hb1.size)
      rw [bal, ← HT.out] at KW
      clear hI1
      go_wp2_with fail
      refine KW.mono ?_
      rintro e w2 ⟨rfl, hI2, hb2⟩
      clear KW
      have HE : Hid (IsB w.heap.size w.heap.size ((xs.take (k + 1)).flatMap (bN n)) w2 ∧ Below w.heap.size w w2) := ⟨hI2, (hbr.trans (hb1.mono hszw)).trans hb2⟩
      clear hI2 hb2 hb1 hbr
      go_wp2
      go_roundw
      case rel => exact ⟨k + 1, by go_num, by omega, HE.out.1, HE.out.2⟩
      case measure => simp [intOf]; omega
    · have KS := string43 w.heap.size w.heap.size _ wr hI hbr.size
      rw [List.take_of_length_le (by omega)] at KS
      go_wp2_with fail
      refine KS.mono ?_
      rintro e w1 ⟨rfl, hb1⟩
      go_wp2
      go_ret
      exact ⟨rfl, hbr.trans hb1⟩
theorem halves41 (xs : List Nat) (hx : xs.length ≤ 1000) (v : Value) (w : World) (hb : ∀ x ∈ xs, x < 4294967296) (hs : SlU w v xs) :
    Calls Tryz.prog 110 #[v] w fun e w' => e = .returned (.string ⟨(xs.flatMap (bN 2)).toArray⟩) ∧ Below w.heap.size w w' := by
  have K := numbers52 2 (by decide) xs hx v w hb hs
  obtain ⟨b, o, cap, rfl, s1, s2, s3⟩ := hs
  clear s3 hb
  generalize (⟨(xs.flatMap (bN 2)).toArray⟩ : ByteArray) = X at K ⊢
  go_enter Tryz.func110, Tryz.ntmps110
  go_wp2_with fail
  refine K.mono ?_
  rintro e w1 ⟨rfl, hb1⟩
  go_wp2
  go_ret
  exact ⟨rfl, hb1⟩
theorem words43 (xs : List Nat) (hx : xs.length ≤ 1000) (v : Value) (w : World) (hb : ∀ x ∈ xs, x < 4294967296) (hs : SlU w v xs) :
    Calls Tryz.prog 112 #[v] w fun e w' => e = .returned (.string ⟨(xs.flatMap (bN 4)).toArray⟩) ∧ Below w.heap.size w w' := by
  have K := numbers52 4 (by decide) xs hx v w hb hs
  obtain ⟨b, o, cap, rfl, s1, s2, s3⟩ := hs
  clear s3 hb
  generalize (⟨(xs.flatMap (bN 4)).toArray⟩ : ByteArray) = X at K ⊢
  go_enter Tryz.func112, Tryz.ntmps112
  go_wp2_with fail
  refine K.mono ?_
  rintro e w1 ⟨rfl, hb1⟩
  go_wp2
  go_ret
  exact ⟨rfl, hb1⟩
theorem ba_app (a b : L8) : (⟨a.toArray⟩ : ByteArray) ++ ⟨b.toArray⟩ = ⟨(a ++ b).toArray⟩ := by
  apply ByteArray.ext
  simp
set_option maxHeartbeats 1000000 in
theorem atEntry42 (w : World) : Calls Tryz.prog 111 #[] w fun e w' => e = .returned (.string ⟨entL.toArray⟩) ∧ Below w.heap.size w w' := by
  have K0 : Hid (∀ w0, Calls Tryz.prog 110 #[.slice (some ⟨w0.heap.size, 0, none⟩) 1 1] (w0.alloc (.cells #[.int .u32 8] 22)) fun e w' => e = .returned (.string ⟨#[0, 8]⟩) ∧ Below w0.heap.size w0 w') := fun w0 => by
    have h := halves41 [8] (by decide) _ _ (by decide) (SlU.new w0 [8] #[.int .u32 8] rfl 1 rfl (by decide))
    have e : ([8] : List Nat).flatMap (bN 2) = [0, 8] := by decide
    rw [e] at h
    exact h.mono fun e w' h => ⟨h.1, below_tr ((Below.refl _ _).alloc (Nat.le_refl _) _) h.2⟩
  have K1 : Hid (∀ w0, Calls Tryz.prog 112 #[.slice (some ⟨w0.heap.size, 0, none⟩) 1 1] (w0.alloc (.cells #[.int .u32 1] 22)) fun e w' => e = .returned (.string ⟨#[0, 0, 0, 1]⟩) ∧ Below w0.heap.size w0 w') := fun w0 => by
    have h := words43 [1] (by decide) _ _ (by decide) (SlU.new w0 [1] #[.int .u32 1] rfl 1 rfl (by decide))
    have e : ([1] : List Nat).flatMap (bN 4) = [0, 0, 0, 1] := by decide
    rw [e] at h
    exact h.mono fun e w' h => ⟨h.1, below_tr ((Below.refl _ _).alloc (Nat.le_refl _) _) h.2⟩
  go_enter Tryz.func111, Tryz.ntmps111
  go_wp2_with fail
  refine (K0.out _).mono ?_
  rintro e w1 ⟨rfl, hb1⟩
  go_wp2_with fail
  refine (K1.out _).mono ?_
  rintro e w2 ⟨rfl, hb2⟩
  go_wp2
  go_ret
  exact ⟨by first | rfl | (simp; rfl) | (congr 1), below_tr hb1 hb2⟩
set_option maxHeartbeats 1000000 in
theorem atCount44 (w : World) : Calls Tryz.prog 113 #[] w fun e w' => e = .returned (.string ⟨cntL.toArray⟩) ∧ Below w.heap.size w w' := by
  have K0 : Hid (∀ w0, Calls Tryz.prog 112 #[.slice (some ⟨w0.heap.size, 0, none⟩) 3 3] (w0.alloc (.cells #[.int .u32 52, .int .u32 0, .int .u32 1879052288] 22)) fun e w' => e = .returned (.string ⟨#[0, 0, 0, 52, 0, 0, 0, 0, 112, 0, 16, 0]⟩) ∧ Below w0.heap.size w0 w') := fun w0 => by
    have h := words43 [52, 0, 1879052288] (by decide) _ _ (by decide) (SlU.new w0 [52, 0, 1879052288] #[.int .u32 52, .int .u32 0, .int .u32 1879052288] rfl 3 rfl (by decide))
    have e : ([52, 0, 1879052288] : List Nat).flatMap (bN 4) = [0, 0, 0, 52, 0, 0, 0, 0, 112, 0, 16, 0] := by decide
    rw [e] at h
    exact h.mono fun e w' h => ⟨h.1, below_tr ((Below.refl _ _).alloc (Nat.le_refl _) _) h.2⟩
  have K1 : Hid (∀ w0, Calls Tryz.prog 110 #[.slice (some ⟨w0.heap.size, 0, none⟩) 2 2] (w0.alloc (.cells #[.int .u32 52, .int .u32 32] 22)) fun e w' => e = .returned (.string ⟨#[0, 52, 0, 32]⟩) ∧ Below w0.heap.size w0 w') := fun w0 => by
    have h := halves41 [52, 32] (by decide) _ _ (by decide) (SlU.new w0 [52, 32] #[.int .u32 52, .int .u32 32] rfl 2 rfl (by decide))
    have e : ([52, 32] : List Nat).flatMap (bN 2) = [0, 52, 0, 32] := by decide
    rw [e] at h
    exact h.mono fun e w' h => ⟨h.1, below_tr ((Below.refl _ _).alloc (Nat.le_refl _) _) h.2⟩
  go_enter Tryz.func113, Tryz.ntmps113
  go_wp2_with fail
  refine (K0.out _).mono ?_
  rintro e w1 ⟨rfl, hb1⟩
  go_wp2_with fail
  refine (K1.out _).mono ?_
  rintro e w2 ⟨rfl, hb2⟩
  go_wp2
  go_ret
  exact ⟨by first | rfl | (simp; rfl) | (congr 1), below_tr hb1 hb2⟩
set_option maxHeartbeats 1000000 in
theorem atEnd45 (w : World) : Calls Tryz.prog 114 #[] w fun e w' => e = .returned (.string ⟨endL.toArray⟩) ∧ Below w.heap.size w w' := by
  have K0 : Hid (∀ w0, Calls Tryz.prog 110 #[.slice (some ⟨w0.heap.size, 0, none⟩) 3 3] (w0.alloc (.cells #[.int .u32 0, .int .u32 0, .int .u32 0] 22)) fun e w' => e = .returned (.string ⟨#[0, 0, 0, 0, 0, 0]⟩) ∧ Below w0.heap.size w0 w') := fun w0 => by
    have h := halves41 [0, 0, 0] (by decide) _ _ (by decide) (SlU.new w0 [0, 0, 0] #[.int .u32 0, .int .u32 0, .int .u32 0] rfl 3 rfl (by decide))
    have e : ([0, 0, 0] : List Nat).flatMap (bN 2) = [0, 0, 0, 0, 0, 0] := by decide
    rw [e] at h
    exact h.mono fun e w' h => ⟨h.1, below_tr ((Below.refl _ _).alloc (Nat.le_refl _) _) h.2⟩
  go_enter Tryz.func114, Tryz.ntmps114
  go_wp2_with fail
  refine (K0.out _).mono ?_
  rintro e w1 ⟨rfl, hb1⟩
  go_wp2
  go_ret
  exact ⟨by first | rfl | (simp; rfl) | (congr 1), hb1⟩
end Go.Proofs.YtgdflobcbhnimaaGreat.E
