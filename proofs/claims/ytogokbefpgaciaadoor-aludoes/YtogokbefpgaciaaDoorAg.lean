/- What is proved here: alu's rows lie in a new block, and a name's is found. -/
import Derived.Test.YtogokbefpgaciaaDoorAf
import Derived.Test.YtogokbefpgaciaaDoorFd
import Derived.Test.YtogokbefpgaciaaDoorEn
namespace Go.Proofs.YtogokbefpgaciaaDoor
open Go.RowKit
set_option linter.unusedVariables false
set_option linter.unusedSimpArgs false
set_option maxRecDepth 100000
/-- alu's rows: a name, and the function that makes its number. -/
def aL : List (ByteArray × Nat) := [(⟨#[97, 100, 100]⟩, 41),
  (⟨#[115, 117, 98]⟩, 43),
  (⟨#[97, 100, 100, 105]⟩, 44),
  (⟨#[97, 100, 100, 117]⟩, 45),
  (⟨#[115, 117, 98, 117]⟩, 46),
  (⟨#[97, 100, 100, 105, 117]⟩, 47),
  (⟨#[97, 110, 100]⟩, 48),
  (⟨#[111, 114]⟩, 49),
  (⟨#[120, 111, 114]⟩, 50),
  (⟨#[110, 111, 114]⟩, 51),
  (⟨#[97, 110, 100, 105]⟩, 52),
  (⟨#[111, 114, 105]⟩, 53),
  (⟨#[120, 111, 114, 105]⟩, 54),
  (⟨#[115, 108, 116]⟩, 55),
  (⟨#[115, 108, 116, 117]⟩, 57),
  (⟨#[115, 108, 116, 105]⟩, 58),
  (⟨#[115, 108, 116, 105, 117]⟩, 59),
  (⟨#[108, 117, 105]⟩, 60),
  (⟨#[115, 108, 108]⟩, 61),
  (⟨#[115, 114, 108]⟩, 62),
  (⟨#[115, 114, 97]⟩, 63),
  (⟨#[115, 108, 108, 118]⟩, 64),
  (⟨#[115, 114, 108, 118]⟩, 65),
  (⟨#[115, 114, 97, 118]⟩, 66),
  (⟨#[114, 111, 116, 114]⟩, 67),
  (⟨#[114, 111, 116, 114, 118]⟩, 69),
  (⟨#[109, 117, 108]⟩, 70),
  (⟨#[99, 108, 122]⟩, 71),
  (⟨#[99, 108, 111]⟩, 73),
  (⟨#[101, 120, 116]⟩, 74),
  (⟨#[105, 110, 115]⟩, 76),
  (⟨#[119, 115, 98, 104]⟩, 78),
  (⟨#[115, 101, 98]⟩, 79),
  (⟨#[115, 101, 104]⟩, 80)]
theorem aL_len : aL.length = 34 := rfl
def aCells (r : ByteArray × Nat) : List Value := [.string r.1, .func (.func r.2) #[] #[]]
def aVal (r : ByteArray × Nat) : Value := .agg #[.string r.1, .func (.func r.2) #[] #[]]
def aA : Array Value := (aL.flatMap aCells).toArray
def aEnd (w : World) : Act := { tmps := #[.slice (some ⟨w.heap.size, 0, none⟩) 34 34] ++ (aL.map aVal).toArray ++ #[.slice (some ⟨w.heap.size, 0, none⟩) 34 34], defers := [] }
set_option maxHeartbeats 2000000 in
theorem arows27 (w : World) : Calls Tryd.prog 27 #[] w fun e w' => e = .returned (.slice (some ⟨w.heap.size, 0, none⟩) 34 34) ∧ w' = w.alloc (.cells aA 37) := by
  refine calls_of_wp Tryd.func27 rfl ?_
  refine wp_seq (wp_run (a' := { tmps := #[.slice none 0 0] ++ Array.replicate 35 undef, defers := [] }) (w' := w) (by kernel_rfl) ?_)
  show Code.wp _ _ _ _ _
  refine wp_seq (wp_run (a' := aEnd w) (w' := w.alloc (.cells aA 37)) (by kernel_rfl) ?_)
  refine wp_ret (bodyPost_ret (v := .slice (some ⟨w.heap.size, 0, none⟩) 34 34) (by kernel_rfl) rfl ⟨rfl, rfl⟩)
/-- alu's rows lie in block b. -/
def ARowsAt (w : World) (b : Nat) : Prop := ∀ i (h : i < aL.length), w.cell? ⟨b, i * 2, none⟩ = some (.string aL[i].1) ∧ w.cell? ⟨b, i * 2 + 1, none⟩ = some (.func (.func aL[i].2) #[] #[])
theorem ARowsAt.keep {w w' : World} {b : Nat} (h : ARowsAt w b) (hb : Below w.heap.size w w') : ARowsAt w' b := fun i hi => by
  obtain ⟨h0, h1⟩ := h i hi
  exact ⟨keep_cell hb h0, keep_cell hb h1⟩
theorem aflat_get : ∀ (l : List (ByteArray × Nat)) (i j : Nat) (h : i < l.length) (hj : j < 2), (l.flatMap aCells)[i * 2 + j]? = (aCells l[i])[j]?
  | [], i, j, h, _ => absurd h (Nat.not_lt_zero _)
  | r :: l, 0, j, _, hj => by
    rw [List.flatMap_cons, List.getElem?_append_left (by show _ < 2; omega), Nat.zero_mul, Nat.zero_add]; rfl
  | r :: l, i + 1, j, h, hj => by
    rw [List.flatMap_cons, List.getElem?_append_right (by show 2 ≤ _; omega), show (i + 1) * 2 + j - (aCells r).length = i * 2 + j from by show _ - 2 = _; omega]
    exact aflat_get l i j (by simpa using h) hj
theorem arowsAt_new (w : World) : ARowsAt (w.alloc (.cells aA 37)) w.heap.size := fun i hi => by
  have hg : ∀ j, j < 2 → aA[i * 2 + j]? = (aCells aL[i])[j]? := fun j hj => by
    rw [aA, List.getElem?_toArray]; exact aflat_get aL i j hi hj
  refine ⟨?_, ?_⟩
  · exact cell_newA w _ _ _ _ _ rfl (hg 0 (by decide))
  · exact cell_newA w _ _ _ _ _ rfl (hg 1 (by decide))
theorem box2 (w : World) (a b : Value) (t : Nat) : ∃ W, w.alloc (.cells #[a, b] t) = W ∧ Below w.heap.size w W ∧ W.heap.size = w.heap.size + 1 ∧
    W.cell? ⟨w.heap.size, 0, none⟩ = some a ∧ W.cell? ⟨w.heap.size, 1, none⟩ = some b ∧ Free W ⟨w.heap.size, 0, none⟩ ∧ Free W ⟨w.heap.size, 1, none⟩ := by
  refine ⟨_, rfl, (Below.refl _ _).alloc (Nat.le_refl _) _, by simp, ?_, ?_, ⟨⟨a, ?_⟩, ?_⟩, ⟨⟨b, ?_⟩, ?_⟩⟩
  all_goals first | exact cell_newA w _ _ _ _ _ rfl rfl | (rw [World.frozen?_alloc_at _ _ _ _ rfl])
theorem res2 (w : World) (n : Nat) (x0 x1 : Value) (f0 : Free w ⟨n, 0, none⟩) (f1 : Free w ⟨n, 1, none⟩) :
    let W := (w.setCell ⟨n, 0, none⟩ x0).setCell ⟨n, 1, none⟩ x1
    W.cell? ⟨n, 0, none⟩ = some x0 ∧ W.cell? ⟨n, 1, none⟩ = some x1 := by
  refine ⟨?_, ?_⟩
  · rw [World.cell?_setCell_other _ _ _ _ (by simp)]; exact World.cell?_setCell_same _ _ _ f0.cell
  · exact World.cell?_setCell_same _ _ _ (f1.set _ _).cell
theorem below2 {B : Nat} {w0 w : World} {n : Nat} (h : Below B w0 w) (hn : B ≤ n) (x0 x1 : Value) : Below B w0 ((w.setCell ⟨n, 0, none⟩ x0).setCell ⟨n, 1, none⟩ x1) :=
  (h.setCell hn _).setCell hn _
def aNm (n : ByteArray) (r : ByteArray × Nat) : Bool := r.1.toList == n.toList
def aIdx (n : ByteArray) : Option Nat := aL.findIdx? (aNm n)
def aI (n : ByteArray) : Int := match aIdx n with | some k => (k : Int) | none => -1
theorem aidx_at (n : ByteArray) (k : Nat) (h : k < aL.length) (hp : aNm n aL[k] = true) (hb : ∀ j (hj : j < aL.length), j < k → aNm n aL[j] = false) : aI n = (k : Int) := by
  have : aIdx n = some k := List.findIdx?_eq_some_iff_getElem.2 ⟨h, hp, fun j hj => by rw [hb j (by omega) hj]; decide⟩
  unfold aI; rw [this]
theorem aidx_none (n : ByteArray) (hb : ∀ j (hj : j < aL.length), aNm n aL[j] = false) : aI n = -1 := by
  have : aIdx n = none := List.findIdx?_eq_none_iff.2 (fun x hx => by obtain ⟨i, hi, rfl⟩ := List.getElem_of_mem hx; exact hb i hi)
  unfold aI; rw [this]
theorem aidx_lt {n : ByteArray} {k : Nat} (h : aIdx n = some k) : k < aL.length := (List.findIdx?_eq_some_iff_getElem.1 h).1
theorem aclo29 (r : ByteArray × Nat) (n : ByteArray) (pn : Addr) (w : World) (hc : w.cell? pn = some (.string n)) : Calls Tryd.prog 29 #[aVal r, .pointer (some pn)] w fun e w' => e = .returned (.bool (aNm n r)) ∧ Below w.heap.size w w' := by
  obtain ⟨W, hW, hb, hz, c0, c1, _⟩ := box2 w (.string r.1) (.func (.func r.2) #[] #[]) 37
  have hc := keep_cell hb hc
  have HB : Hid (Below w.heap.size w W) := hb
  unfold aNm aVal
  clear hb hz
  go_enter Tryd.func29, Tryd.ntmps29
  go_wp2
  go_ret
  exact ⟨rfl, HB.out⟩
set_option maxHeartbeats 1000000 in
theorem aindex28 (n : ByteArray) (p0 : Addr) (b : Nat) (w : World) (hr : ARowsAt w b) (hc : w.cell? p0 = some (.string n)) :
    Calls Tryd.prog 28 #[.slice (some ⟨b, 0, none⟩) 34 34, .func (.func 29) #[] #[.pointer (some p0)]] w fun e w' => e = .returned (.int .i64 (aI n)) ∧ Below w.heap.size w w' := by
  have HR : Hid (∀ w', Below w.heap.size w w' → ARowsAt w' b) := fun w' h => hr.keep h
  have HC : Hid (∀ r, ∀ w', Below w.heap.size w w' → Calls Tryd.prog 29 #[aVal r, .pointer (some p0)] w' fun e w'' => e = .returned (.bool (aNm n r)) ∧ Below w'.heap.size w' w'') := fun r w' h => aclo29 r n p0 w' (keep_cell h hc)
  have hl := aL_len
  have HL : Hid (aL.length = 34) := hl
  clear hr hc hl
  obtain ⟨z, hz⟩ : ∃ z, z = aI n := ⟨_, rfl⟩
  rw [← hz]
  have HZ : Hid (z = aI n) := hz
  clear hz
  go_enter Tryd.func28, Tryd.ntmps28
  go_wp2
  go_loopw [8] (fun i wr => ∃ k : Nat, k ≤ 34 ∧ i = .int .i64 (k : Int) ∧ Below w.heap.size w wr ∧ ∀ j (hj : j < aL.length), j < k → aNm n aL[j] = false) (fun i _ => 34 - (intOf i).toNat)
  case atStart => exact ⟨0, by decide, rfl, Below.refl _ _, fun j _ h => absurd h (Nat.not_lt_zero _)⟩
  case round =>
    obtain ⟨k, hk, rfl, hbr, hpre⟩ := hrel
    have HB : Hid (Below w.heap.size w wr) := hbr
    have HP : Hid (∀ j (hj : j < aL.length), j < k → aNm n aL[j] = false) := hpre
    have hk64 : wrap64 ((k : Int) + 1) = (k : Int) + 1 := by unfold wrap64; omega
    by_cases hkl : k < 34
    · have hk' : k < aL.length := by rw [HL.out]; exact hkl
      obtain ⟨q0, q1⟩ := HR.out wr hbr k hk'
      have K := HC.out aL[k] wr hbr
      unfold aVal at K
      have hkI : (k : Int) < 34 := by omega
      have HE : Hid (aNm n aL[k] = true → z = (k : Int)) := fun h => by rw [HZ.out]; exact aidx_at n k hk' h HP.out
      have HN : Hid (aNm n aL[k] = false → ∀ j (hj : j < aL.length), j < k + 1 → aNm n aL[j] = false) := fun h j hj hjk => by
        by_cases e : j = k
        · subst e; exact h
        · exact HP.out j hj (by omega)
      generalize aNm n aL[k] = pb at K HE HN
      generalize aL[k] = r at q0 q1 K
      clear hbr hpre hk'
      go_wp2_with fail
      refine K.mono ?_
      rintro e wG ⟨rfl, hbG⟩
      have HBG : Hid (Below w.heap.size w wG) := below_tr HB.out hbG
      clear K hbG q0 q1
      cases pb with
      | true =>
        have HEE : Hid (z = (k : Int)) := HE.out rfl
        go_wp2
        go_ret
        exact ⟨by rw [HEE.out]; rfl, HBG.out⟩
      | false =>
        have HNN : Hid _ := HN.out rfl
        clear HN HE
        go_wp2
        go_roundw
        case rel => exact ⟨k + 1, by omega, by go_num, HBG.out, HNN.out⟩
        case measure => simp [intOf]; omega
    · have he : k = 34 := by omega
      subst he
      have HEE : Hid (z = -1) := by show _ = _; rw [HZ.out]; exact aidx_none n (fun j hj => HP.out j hj (by rw [HL.out] at hj; exact hj))
      clear hbr hpre
      go_wp2
      go_ret
      exact ⟨by rw [HEE.out]; rfl, HB.out⟩
theorem run_store_func (P : Program) (w : World) (a : Addr) (fn : Fn) (f c : Array Value) (m : Mode) : (store a (.func fn f c) m).run P w = stored P w a (.func fn f c) m := run_store P w a _ m rfl
theorem run_store_nilF (P : Program) (w : World) (a : Addr) (m : Mode) : (store a .nilFunc m).run P w = stored P w a .nilFunc m := run_store P w a _ m rfl
/-- What is found of a name. -/
def aRow (n : ByteArray) : Value := match aIdx n with | some k => (if h : k < aL.length then aVal aL[k] else undef) | none => .agg #[.string ⟨#[]⟩, .nilFunc]
theorem box12 (w : World) (x a b : Value) (s t : Nat) : ∃ W, (w.alloc (.cells #[x] s)).alloc (.cells #[a, b] t) = W ∧ Below w.heap.size w W ∧ W.heap.size = w.heap.size + 2 ∧ W.cell? ⟨w.heap.size, 0, none⟩ = some x ∧
    Free W ⟨w.heap.size + 1, 0, none⟩ ∧ Free W ⟨w.heap.size + 1, 1, none⟩ := by
  have hz : w.heap.size + 1 = (w.alloc (.cells #[x] s)).heap.size := by simp
  refine ⟨_, rfl, ((Below.refl _ _).alloc (Nat.le_refl _) _).alloc (by simp) _, by simp, ?_, ⟨⟨a, ?_⟩, ?_⟩, ⟨⟨b, ?_⟩, ?_⟩⟩
  all_goals first | exact cell_old (cell_newA w _ _ _ _ _ rfl rfl) _ | exact cell_newA _ _ _ _ _ _ hz rfl | (rw [World.frozen?_alloc_at _ _ _ _ hz])
set_option maxHeartbeats 1000000 in
theorem afound16 (n : ByteArray) (w : World) : Calls Tryd.prog 16 #[.string n] w fun e w' => e = .returned (.tuple #[aRow n, .bool (aIdx n).isSome]) ∧ Below w.heap.size w w' := by
  obtain ⟨W, hW, hb, hz, cn, g0, g1⟩ := box12 w (.string n) (.string ⟨#[]⟩) .nilFunc 9 37
  have K27 := arows27 W
  have hrn := arowsAt_new W
  have hbn : Below W.heap.size W (W.alloc (.cells aA 37)) := (Below.refl _ _).alloc (Nat.le_refl _) _
  have K28 := aindex28 n ⟨w.heap.size, 0, none⟩ W.heap.size (W.alloc (.cells aA 37)) hrn (keep_cell hbn cn)
  have HRW : Hid (∀ w', Below (W.alloc (.cells aA 37)).heap.size (W.alloc (.cells aA 37)) w' → ARowsAt w' W.heap.size ∧ Below w.heap.size w w' ∧ Free w' ⟨w.heap.size + 1, 0, none⟩ ∧ Free w' ⟨w.heap.size + 1, 1, none⟩) := fun w' h => ⟨hrn.keep h, below_tr hb (below_tr hbn h), (g0.keep hbn).keep h, (g1.keep hbn).keep h⟩
  have hst1 := run_store_func Tryd.prog
  have hst2 := run_store_nilF Tryd.prog
  clear hrn hbn hb g0 g1 cn
  rw [hz] at K27 K28 HRW
  obtain ⟨W2, hW2⟩ : ∃ W2, W.alloc (.cells aA 37) = W2 := ⟨_, rfl⟩
  rw [hW2] at K27 K28 HRW
  have HF : Hid (aRow n = (match aIdx n with | some k => (if h : k < aL.length then aVal aL[k] else undef) | none => .agg #[.string ⟨#[]⟩, .nilFunc])) := rfl
  have HI : Hid (aI n = (match aIdx n with | some k => (k : Int) | none => -1)) := rfl
  have HK : Hid (∀ k, aIdx n = some k → k < aL.length) := fun k h => aidx_lt h
  generalize aRow n = R at HF ⊢
  generalize aI n = I at HI K28
  generalize aIdx n = o at HF HI HK ⊢
  cases o with
  | none =>
    obtain rfl : R = .agg #[.string ⟨#[]⟩, .nilFunc] := HF.out
    obtain rfl : I = -1 := HI.out
    clear HF HI hW2 hz HK
    go_enter Tryd.func16, Tryd.ntmps16
    go_wp2_with fail
    refine K27.mono ?_
    rintro e w1 ⟨rfl, rfl⟩
    go_wp2_with fail
    refine K28.mono ?_
    rintro e w3 ⟨rfl, hb3⟩
    obtain ⟨hra, hbw, f0, f1⟩ := HRW.out w3 hb3
    have q0 := f0.cell
    have q1 := f1.cell
    have z0 := f0.frozen
    have z1 := f1.frozen
    have hres := res2 w3 (w.heap.size + 1) (.string ⟨#[]⟩) .nilFunc f0 f1
    simp only at hres
    have HBE := below2 (n := w.heap.size + 1) hbw (by omega) (.string ⟨#[]⟩) .nilFunc
    obtain ⟨W9, hW9⟩ : ∃ z, (w3.setCell ⟨w.heap.size + 1, 0, none⟩ (.string ⟨#[]⟩)).setCell ⟨w.heap.size + 1, 1, none⟩ .nilFunc = z := ⟨_, rfl⟩
    rw [hW9] at hres HBE
    have HBE : Hid _ := HBE
    obtain ⟨s0, s1⟩ := hres
    clear K27 K28 hbw hb3 hra
    go_wp2
    refine bodyPost_ret (v := .tuple #[.agg #[.string ⟨#[]⟩, .nilFunc], .bool false]) ?_ rfl ⟨rfl, HBE.out⟩
    rw [results_cell_tmp rfl]; simp [go_sem, s0, s1]
  | some k =>
    have hk := HK.out k rfl
    obtain rfl : R = aVal aL[k] := by have := HF.out; simp only [dif_pos hk] at this; exact this
    obtain rfl : I = (k : Int) := HI.out
    have HRk : Hid (∀ w', ARowsAt w' (w.heap.size + 2) → w'.cell? ⟨w.heap.size + 2, k * 2, none⟩ = some (.string aL[k].1) ∧ w'.cell? ⟨w.heap.size + 2, k * 2 + 1, none⟩ = some (.func (.func aL[k].2) #[] #[])) := fun w' h => h k hk
    have hk83 : (k : Int) < 34 := by rw [aL_len] at hk; omega
    have hk0 : ¬ (k : Int) < 0 := by omega
    unfold aVal
    generalize aL[k] = r at HRk ⊢
    obtain ⟨nm, fn⟩ := r
    simp only at HRk ⊢
    clear HF HI hW2 hz HK hk
    go_enter Tryd.func16, Tryd.ntmps16
    go_wp2_with fail
    refine K27.mono ?_
    rintro e w1 ⟨rfl, rfl⟩
    go_wp2_with fail
    refine K28.mono ?_
    rintro e w3 ⟨rfl, hb3⟩
    obtain ⟨hra, hbw, f0, f1⟩ := HRW.out w3 hb3
    obtain ⟨u0, u1⟩ := HRk.out w3 hra
    have q0 := f0.cell
    have q1 := f1.cell
    have z0 := f0.frozen
    have z1 := f1.frozen
    have hres := res2 w3 (w.heap.size + 1) (.string nm) (.func (.func fn) #[] #[]) f0 f1
    simp only at hres
    have HBE := below2 (n := w.heap.size + 1) hbw (by omega) (.string nm) (.func (.func fn) #[] #[])
    obtain ⟨W9, hW9⟩ : ∃ z, (w3.setCell ⟨w.heap.size + 1, 0, none⟩ (.string nm)).setCell ⟨w.heap.size + 1, 1, none⟩ (.func (.func fn) #[] #[]) = z := ⟨_, rfl⟩
    rw [hW9] at hres HBE
    have HBE : Hid _ := HBE
    obtain ⟨s0, s1⟩ := hres
    clear K27 K28 hbw hb3 hra HRk
    go_wp2
    refine bodyPost_ret (v := .tuple #[.agg #[.string nm, .func (.func fn) #[] #[]], .bool true]) ?_ rfl ⟨rfl, HBE.out⟩
    rw [results_cell_tmp rfl]; simp [go_sem, s0, s1]
end Go.Proofs.YtogokbefpgaciaaDoor
