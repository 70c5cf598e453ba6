import Derived.Test.YtimfipkbddpdmaaGreatDoorAf
import Derived.Test.YtimfipkbddpdmaaGreatDoorFd
import Derived.Test.YtimfipkbddpdmaaGreatDoorAb
import Derived.Defers
import Derived.Recover
import Derived.Laws.Pointers
set_option linter.unusedVariables false
set_option linter.unusedSimpArgs false
set_option maxRecDepth 100000
open Go Go.RowKit
namespace Go.Proofs.YtimfipkbddpdmaaGreatDoor
def aL : List (ByteArray × Nat) := [(⟨#[97, 100, 100]⟩, 153),
 (⟨#[115, 117, 98]⟩, 155),
 (⟨#[97, 100, 100, 105]⟩, 156),
 (⟨#[97, 100, 100, 117]⟩, 157),
 (⟨#[115, 117, 98, 117]⟩, 158),
 (⟨#[97, 100, 100, 105, 117]⟩, 159),
 (⟨#[97, 110, 100]⟩, 160),
 (⟨#[111, 114]⟩, 161),
 (⟨#[120, 111, 114]⟩, 162),
 (⟨#[110, 111, 114]⟩, 163),
 (⟨#[97, 110, 100, 105]⟩, 164),
 (⟨#[111, 114, 105]⟩, 165),
 (⟨#[120, 111, 114, 105]⟩, 166),
 (⟨#[115, 108, 116]⟩, 167),
 (⟨#[115, 108, 116, 117]⟩, 169),
 (⟨#[115, 108, 116, 105]⟩, 170),
 (⟨#[115, 108, 116, 105, 117]⟩, 171),
 (⟨#[108, 117, 105]⟩, 172),
 (⟨#[115, 108, 108]⟩, 173),
 (⟨#[115, 114, 108]⟩, 174),
 (⟨#[115, 114, 97]⟩, 175),
 (⟨#[115, 108, 108, 118]⟩, 176),
 (⟨#[115, 114, 108, 118]⟩, 177),
 (⟨#[115, 114, 97, 118]⟩, 178),
 (⟨#[114, 111, 116, 114]⟩, 179),
 (⟨#[114, 111, 116, 114, 118]⟩, 181),
 (⟨#[109, 117, 108]⟩, 182),
 (⟨#[99, 108, 122]⟩, 183),
 (⟨#[99, 108, 111]⟩, 185),
 (⟨#[101, 120, 116]⟩, 186),
 (⟨#[105, 110, 115]⟩, 188),
 (⟨#[119, 115, 98, 104]⟩, 190),
 (⟨#[115, 101, 98]⟩, 191),
 (⟨#[115, 101, 104]⟩, 192)]
theorem aL_len : aL.length = 34 := rfl
def aCells (r : ByteArray × Nat) : List Value := [.string r.1, .func (.func r.2) #[] #[]]
def aVal (r : ByteArray × Nat) : Value := .agg #[.string r.1, .func (.func r.2) #[] #[]]
def aA : Array Value := (aL.flatMap aCells).toArray
def aEnd (w : World) : Act := { tmps := #[.slice (some ⟨w.heap.size, 0, none⟩) 34 34] ++ (aL.map aVal).toArray ++ #[.slice (some ⟨w.heap.size, 0, none⟩) 34 34], defers := [] }
set_option maxHeartbeats 2000000 in
theorem arows27 (w : World) : Calls Tryz.prog 118 #[] w fun e w' => e = .returned (.slice (some ⟨w.heap.size, 0, none⟩) 34 34) /\ w' = w.alloc (.cells aA 167) := by
 refine calls_of_wp Tryz.func118 rfl ?_
 refine wp_seq (wp_run (a' := { tmps := #[.slice none 0 0] ++ Array.replicate 35 undef, defers := [] }) (w' := w) (by kernel_rfl) ?_)
 show Code.wp _ _ _ _ _
 refine wp_seq (wp_run (a' := aEnd w) (w' := w.alloc (.cells aA 167)) (by kernel_rfl) ?_)
 refine wp_ret (bodyPost_ret (v := .slice (some ⟨w.heap.size, 0, none⟩) 34 34) (by kernel_rfl) rfl ⟨rfl, rfl⟩)
def ARowsAt (w : World) (b : Nat) : Prop := ∀ i (h : i < aL.length), w.cell? ⟨b, i * 2, none⟩ = some (.string aL[i].1) /\ w.cell? ⟨b, i * 2 + 1, none⟩ = some (.func (.func aL[i].2) #[] #[])
theorem ARowsAt.keep {w w' : World} {b : Nat} (h : ARowsAt w b) (hb : Below w.heap.size w w') : ARowsAt w' b := fun i hi => by
 obtain ⟨h0, h1⟩ := h i hi
 exact ⟨keep_cell hb h0, keep_cell hb h1⟩
theorem aflat_get : ∀ (l : List (ByteArray × Nat)) (i j : Nat) (h : i < l.length) (hj : j < 2), (l.flatMap aCells)[i * 2 + j]? = (aCells l[i])[j]?
 | [], i, j, h, _ => absurd h (Nat.not_lt_zero _)
 | r :: l, 0, j, _, hj => by
  rw [List.flatMap_cons, List.getElem?_append_left (by show _ < 2; omega), Nat.zero_mul, Nat.zero_add]; rfl
 | r :: l, i + 1, j, h, hj => by
  rw [List.flatMap_cons, List.getElem?_append_right (by show 2 <= _; omega), show (i + 1) * 2 + j - (aCells r).length = i * 2 + j from by show _ - 2 = _; omega]
  exact aflat_get l i j (by simpa using h) hj
theorem arowsAt_new (w : World) : ARowsAt (w.alloc (.cells aA 167)) w.heap.size := fun i hi => by
 have hg : ∀ j, j < 2 -> aA[i * 2 + j]? = (aCells aL[i])[j]? := fun j hj => by
  rw [aA, List.getElem?_toArray]; exact aflat_get aL i j hi hj
 refine ⟨?_, ?_⟩
 ·exact cell_newA w _ _ _ _ _ rfl (hg 0 (by decide))
 ·exact cell_newA w _ _ _ _ _ rfl (hg 1 (by decide))
theorem box2 (w : World) (a b : Value) (t : Nat) : ∃ W, w.alloc (.cells #[a, b] t) = W /\ Below w.heap.size w W /\ W.heap.size = w.heap.size + 1 /\
  W.cell? ⟨w.heap.size, 0, none⟩ = some a /\ W.cell? ⟨w.heap.size, 1, none⟩ = some b /\ Free W ⟨w.heap.size, 0, none⟩ /\ Free W ⟨w.heap.size, 1, none⟩ := by
 refine ⟨_, rfl, (Below.refl _ _).alloc (Nat.le_refl _) _, by simp, ?_, ?_, ⟨⟨a, ?_⟩, ?_⟩, ⟨⟨b, ?_⟩, ?_⟩⟩
 all_goals first | exact cell_newA w _ _ _ _ _ rfl rfl | (rw [World.frozen?_alloc_at _ _ _ _ rfl])
theorem res2 (w : World) (n : Nat) (x0 x1 : Value) (f0 : Free w ⟨n, 0, none⟩) (f1 : Free w ⟨n, 1, none⟩) :
  let W := (w.setCell ⟨n, 0, none⟩ x0).setCell ⟨n, 1, none⟩ x1
  W.cell? ⟨n, 0, none⟩ = some x0 /\ W.cell? ⟨n, 1, none⟩ = some x1 := by
 refine ⟨?_, ?_⟩
 ·rw [World.cell?_setCell_other _ _ _ _ (by simp)]; exact World.cell?_setCell_same _ _ _ f0.cell
 ·exact World.cell?_setCell_same _ _ _ (f1.set _ _).cell
theorem below2 {B : Nat} {w0 w : World} {n : Nat} (h : Below B w0 w) (hn : B <= n) (x0 x1 : Value) : Below B w0 ((w.setCell ⟨n, 0, none⟩ x0).setCell ⟨n, 1, none⟩ x1) :=
 (h.setCell hn _).setCell hn _
def aNm (n : ByteArray) (r : ByteArray × Nat) : Bool := r.1.toList == n.toList
def aIdx (n : ByteArray) : Option Nat := aL.findIdx? (aNm n)
def aI (n : ByteArray) : Int := match aIdx n with | some k => (k : Int) | none => -1
theorem aidx_at (n : ByteArray) (k : Nat) (h : k < aL.length) (hp : aNm n aL[k] = true) (hb : ∀ j (hj : j < aL.length), j < k -> aNm n aL[j] = false) : aI n = (k : Int) := by
 have : aIdx n = some k := List.findIdx?_eq_some_iff_getElem.2 ⟨h, hp, fun j hj => by rw [hb j (by omega) hj]; decide⟩
 unfold aI; rw [this]
theorem aidx_none (n : ByteArray) (hb : ∀ j (hj : j < aL.length), aNm n aL[j] = false) : aI n = -1 := by
 have : aIdx n = none := List.findIdx?_eq_none_iff.2 (fun x hx => by obtain ⟨i, hi, rfl⟩ := List.getElem_of_mem hx; exact hb i hi)
 unfold aI; rw [this]
theorem aidx_lt {n : ByteArray} {k : Nat} (h : aIdx n = some k) : k < aL.length := (List.findIdx?_eq_some_iff_getElem.1 h).1
theorem aclo29 (r : ByteArray × Nat) (n : ByteArray) (pn : Addr) (w : World) (hc : w.cell? pn = some (.string n)) : Calls Tryz.prog 120 #[aVal r, .pointer (some pn)] w fun e w' => e = .returned (.bool (aNm n r)) /\ Below w.heap.size w w' := by
 obtain ⟨W, hW, hb, hz, c0, c1, _⟩ := box2 w (.string r.1) (.func (.func r.2) #[] #[]) 167
 have hc := keep_cell hb hc
 have HB : Hid (Below w.heap.size w W) := hb
 unfold aNm aVal
 clear hb hz
 go_enter Tryz.func120, Tryz.ntmps120
 go_wp2
 go_ret
 exact ⟨rfl, HB.out⟩
set_option maxHeartbeats 1000000 in
theorem aindex28 (n : ByteArray) (p0 : Addr) (b : Nat) (w : World) (hr : ARowsAt w b) (hc : w.cell? p0 = some (.string n)) :
  Calls Tryz.prog 119 #[.slice (some ⟨b, 0, none⟩) 34 34, .func (.func 120) #[] #[.pointer (some p0)]] w fun e w' => e = .returned (.int .i64 (aI n)) /\ Below w.heap.size w w' := by
 have HR : Hid (∀ w', Below w.heap.size w w' -> ARowsAt w' b) := fun w' h => hr.keep h
 have HC : Hid (∀ r, ∀ w', Below w.heap.size w w' -> Calls Tryz.prog 120 #[aVal r, .pointer (some p0)] w' fun e w'' => e = .returned (.bool (aNm n r)) /\ Below w'.heap.size w' w'') := fun r w' h => aclo29 r n p0 w' (keep_cell h hc)
 have hl := aL_len
 have HL : Hid (aL.length = 34) := hl
 clear hr hc hl
 obtain ⟨z, hz⟩ : ∃ z, z = aI n := ⟨_, rfl⟩
 rw [<- hz]
 have HZ : Hid (z = aI n) := hz
 clear hz
 go_enter Tryz.func119, Tryz.ntmps119
 go_wp2
 go_loopw [8] (fun i wr => ∃ k : Nat, k <= 34 /\ i = .int .i64 k /\ Below w.heap.size w wr /\ ∀ j (hj : j < aL.length), j < k -> aNm n aL[j] = false) (fun i _ => 34 - (intOf i).toNat)
 case atStart => exact ⟨0, by decide, rfl, Below.refl _ _, fun j _ h => absurd h (Nat.not_lt_zero _)⟩
 case round =>
  obtain ⟨k, hk, rfl, hbr, hpre⟩ := hrel
  have HB : Hid (Below w.heap.size w wr) := hbr
  have HP : Hid (∀ j (hj : j < aL.length), j < k -> aNm n aL[j] = false) := hpre
  have hk64 : wrap64 ((k : Int) + 1) = (k : Int) + 1 := by unfold wrap64; omega
  by_cases hkl : k < 34
  ·have hk' : k < aL.length := by rw [HL.out]; exact hkl
   obtain ⟨q0, q1⟩ := HR.out wr hbr k hk'
   have K := HC.out aL[k] wr hbr
   unfold aVal at K
   have hkI : (k : Int) < 34 := by omega
   have HE : Hid (aNm n aL[k] = true -> z = (k : Int)) := fun h => by rw [HZ.out]; exact aidx_at n k hk' h HP.out
   have HN : Hid (aNm n aL[k] = false -> ∀ j (hj : j < aL.length), j < k + 1 -> aNm n aL[j] = false) := fun h j hj hjk => by
    by_cases e : j = k
    ·subst e; exact h
    ·exact HP.out j hj (by omega)
   generalize aNm n aL[k] = pb at K HE HN
   generalize aL[k] = r at q0 q1 K
   clear hbr hpre hk'
   go_wp2_with fail
   refine K.mono ?_
   rintro e wG ⟨rfl, hbG⟩
   have HBG : Hid (Below w.heap.size w wG) := below_tr HB.out hbG
   clear K hbG q0 q1
   cases pb with
   | true =>
    have HEE : Hid (z = (k : Int)) := HE.out rfl
    go_wp2
    go_ret
    exact ⟨by rw [HEE.out]; rfl, HBG.out⟩
   | false =>
    have HNN : Hid _ := HN.out rfl
    clear HN HE
    go_wp2
    go_roundw
    case rel => exact ⟨k + 1, by omega, by go_num, HBG.out, HNN.out⟩
    case measure => simp [intOf]; omega
  ·have he : k = 34 := by omega
   subst he
   have HEE : Hid (z = -1) := by show _ = _; rw [HZ.out]; exact aidx_none n (fun j hj => HP.out j hj (by rw [HL.out] at hj; exact hj))
   clear hbr hpre
   go_wp2
   go_ret
   exact ⟨by rw [HEE.out]; rfl, HB.out⟩
theorem run_store_func (P : Program) (w : World) (a : Addr) (fn : Fn) (f c : Array Value) (m : Mode) : (store a (.func fn f c) m).run P w = stored P w a (.func fn f c) m := run_store P w a _ m rfl
theorem run_store_nilF (P : Program) (w : World) (a : Addr) (m : Mode) : (store a .nilFunc m).run P w = stored P w a .nilFunc m := run_store P w a _ m rfl
def aRow (n : ByteArray) : Value := match aIdx n with | some k => (if h : k < aL.length then aVal aL[k] else undef) | none => .agg #[.string ⟨#[]⟩, .nilFunc]
theorem box12 (w : World) (x a b : Value) (s t : Nat) : ∃ W, (w.alloc (.cells #[x] s)).alloc (.cells #[a, b] t) = W /\ Below w.heap.size w W /\ W.heap.size = w.heap.size + 2 /\ W.cell? ⟨w.heap.size, 0, none⟩ = some x /\
  Free W ⟨w.heap.size + 1, 0, none⟩ /\ Free W ⟨w.heap.size + 1, 1, none⟩ := by
 have hz : w.heap.size + 1 = (w.alloc (.cells #[x] s)).heap.size := by simp
 refine ⟨_, rfl, ((Below.refl _ _).alloc (Nat.le_refl _) _).alloc (by simp) _, by simp, ?_, ⟨⟨a, ?_⟩, ?_⟩, ⟨⟨b, ?_⟩, ?_⟩⟩
 all_goals first | exact cell_old (cell_newA w _ _ _ _ _ rfl rfl) _ | exact cell_newA _ _ _ _ _ _ hz rfl | (rw [World.frozen?_alloc_at _ _ _ _ hz])
set_option maxHeartbeats 1000000 in
theorem afound16 (n : ByteArray) (w : World) : Calls Tryz.prog 101 #[.string n] w fun e w' => e = .returned (.tuple #[aRow n, .bool (aIdx n).isSome]) /\ Below w.heap.size w w' := by
 obtain ⟨W, hW, hb, hz, cn, g0, g1⟩ := box12 w (.string n) (.string ⟨#[]⟩) .nilFunc 9 167
 have K27 := arows27 W
 have hrn := arowsAt_new W
 have hbn : Below W.heap.size W (W.alloc (.cells aA 167)) := (Below.refl _ _).alloc (Nat.le_refl _) _
 have K28 := aindex28 n ⟨w.heap.size, 0, none⟩ W.heap.size (W.alloc (.cells aA 167)) hrn (keep_cell hbn cn)
 have HRW : Hid (∀ w', Below (W.alloc (.cells aA 167)).heap.size (W.alloc (.cells aA 167)) w' -> ARowsAt w' W.heap.size /\ Below w.heap.size w w' /\ Free w' ⟨w.heap.size + 1, 0, none⟩ /\ Free w' ⟨w.heap.size + 1, 1, none⟩) := fun w' h => ⟨hrn.keep h, below_tr hb (below_tr hbn h), (g0.keep hbn).keep h, (g1.keep hbn).keep h⟩
 have hst1 := run_store_func Tryz.prog
 have hst2 := run_store_nilF Tryz.prog
 clear hrn hbn hb g0 g1 cn
 rw [hz] at K27 K28 HRW
 obtain ⟨W2, hW2⟩ : ∃ W2, W.alloc (.cells aA 167) = W2 := ⟨_, rfl⟩
 rw [hW2] at K27 K28 HRW
 have HF : Hid (aRow n = (match aIdx n with | some k => (if h : k < aL.length then aVal aL[k] else undef) | none => .agg #[.string ⟨#[]⟩, .nilFunc])) := rfl
 have HI : Hid (aI n = (match aIdx n with | some k => (k : Int) | none => -1)) := rfl
 have HK : Hid (∀ k, aIdx n = some k -> k < aL.length) := fun k h => aidx_lt h
 generalize aRow n = R at HF |-
 generalize aI n = I at HI K28
 generalize aIdx n = o at HF HI HK |-
 cases o with
 | none =>
  obtain rfl : R = .agg #[.string ⟨#[]⟩, .nilFunc] := HF.out
  obtain rfl : I = -1 := HI.out
  clear HF HI hW2 hz HK
  go_enter Tryz.func101, Tryz.ntmps101
  go_wp2_with fail
  refine K27.mono ?_
  rintro e w1 ⟨rfl, rfl⟩
  go_wp2_with fail
  refine K28.mono ?_
  rintro e w3 ⟨rfl, hb3⟩
  obtain ⟨hra, hbw, f0, f1⟩ := HRW.out w3 hb3
  have q0 := f0.cell
  have q1 := f1.cell
  have z0 := f0.frozen
  have z1 := f1.frozen
  have hres := res2 w3 (w.heap.size + 1) (.string ⟨#[]⟩) .nilFunc f0 f1
  simp only at hres
  have HBE := below2 (n := w.heap.size + 1) hbw (by omega) (.string ⟨#[]⟩) .nilFunc
  obtain ⟨W9, hW9⟩ : ∃ z, (w3.setCell ⟨w.heap.size + 1, 0, none⟩ (.string ⟨#[]⟩)).setCell ⟨w.heap.size + 1, 1, none⟩ .nilFunc = z := ⟨_, rfl⟩
  rw [hW9] at hres HBE
  have HBE : Hid _ := HBE
  obtain ⟨s0, s1⟩ := hres
  clear K27 K28 hbw hb3 hra
  go_wp2
  refine bodyPost_ret (v := .tuple #[.agg #[.string ⟨#[]⟩, .nilFunc], .bool false]) ?_ rfl ⟨rfl, HBE.out⟩
  rw [results_cell_tmp rfl]; simp [go_sem, s0, s1]
 | some k =>
  have hk := HK.out k rfl
  obtain rfl : R = aVal aL[k] := by have := HF.out; simp only [dif_pos hk] at this; exact this
  obtain rfl : I = (k : Int) := HI.out
  have HRk : Hid (∀ w', ARowsAt w' (w.heap.size + 2) -> w'.cell? ⟨w.heap.size + 2, k * 2, none⟩ = some (.string aL[k].1) /\ w'.cell? ⟨w.heap.size + 2, k * 2 + 1, none⟩ = some (.func (.func aL[k].2) #[] #[])) := fun w' h => h k hk
  have hk83 : (k : Int) < 34 := by rw [aL_len] at hk; omega
  have hk0 : ¬ (k : Int) < 0 := by omega
  unfold aVal
  generalize aL[k] = r at HRk |-
  obtain ⟨nm, fn⟩ := r
  simp only at HRk |-
  clear HF HI hW2 hz HK hk
  go_enter Tryz.func101, Tryz.ntmps101
  go_wp2_with fail
  refine K27.mono ?_
  rintro e w1 ⟨rfl, rfl⟩
  go_wp2_with fail
  refine K28.mono ?_
  rintro e w3 ⟨rfl, hb3⟩
  obtain ⟨hra, hbw, f0, f1⟩ := HRW.out w3 hb3
  obtain ⟨u0, u1⟩ := HRk.out w3 hra
  have q0 := f0.cell
  have q1 := f1.cell
  have z0 := f0.frozen
  have z1 := f1.frozen
  have hres := res2 w3 (w.heap.size + 1) (.string nm) (.func (.func fn) #[] #[]) f0 f1
  simp only at hres
  have HBE := below2 (n := w.heap.size + 1) hbw (by omega) (.string nm) (.func (.func fn) #[] #[])
  obtain ⟨W9, hW9⟩ : ∃ z, (w3.setCell ⟨w.heap.size + 1, 0, none⟩ (.string nm)).setCell ⟨w.heap.size + 1, 1, none⟩ (.func (.func fn) #[] #[]) = z := ⟨_, rfl⟩
  rw [hW9] at hres HBE
  have HBE : Hid _ := HBE
  obtain ⟨s0, s1⟩ := hres
  clear K27 K28 hbw hb3 hra HRk
  go_wp2
  refine bodyPost_ret (v := .tuple #[.agg #[.string nm, .func (.func fn) #[] #[]], .bool true]) ?_ rfl ⟨rfl, HBE.out⟩
  rw [results_cell_tmp rfl]; simp [go_sem, s0, s1]
theorem enter_of {f : FuncId} {fn : Func} (hf : Tryz.prog.funcs[f]? = some fn) (hname : (fn.name == "runtime.NumGoroutine") = false) (hb : fn.body.isSome = true) (args : Array Value) (w : World) :
  (callFunc f args).run Tryz.prog w = .ok (.enter f args) w := by
 have h1 : fn.name ≠ "runtime.NumGoroutine" := by simpa using hname
 obtain ⟨c, hb⟩ := Option.isSome_iff_exists.1 hb
 simp [callFunc, hf, h1, hb]
theorem assert_is (x : Int) (w : World) : (Instr.typeAssert (.iface 215 (.int .i64 x)) 20 215 true).run Tryz.prog w = .ok (.tuple #[.int .i64 x, .bool true]) w := by
 kernel_rfl
theorem assert_nil (w : World) : (Instr.typeAssert .nilIface 20 215 true).run Tryz.prog w = .ok (.tuple #[.int .i64 0, .bool false]) w := by
 kernel_rfl
theorem catch35 (p q : Addr) (x : Int) (w : World) (hpq : q.block ≠ p.block) (hp : (w.cell? p).isSome = true) (hq : (w.cell? q).isSome = true) (hy : w.frozen? p = false) (hz : w.frozen? q = false) :
  CallsD Tryz.prog 193 #[.pointer (some p), .pointer (some q)] (.panicking (thrown x)) w fun e u' w' =>
   e = .returned (.tuple #[]) /\ u' = .panicking [{ v := .iface 215 (.int .i64 x), recovered := true }] /\ w' = (w.setCell p (.int .u32 0)).setCell q (.bool false) := by
 obtain ⟨o, hq⟩ := Option.isSome_iff_exists.1 hq
 obtain ⟨o', hp⟩ := Option.isSome_iff_exists.1 hp
 have hq2 : (w.setCell p (.int .u32 0)).cell? q = some o := by rw [World.cell?_setCell_other _ _ _ _ (by intro h; exact hpq (by rw [h]))]; exact hq
 have hz2 : (w.setCell p (.int .u32 0)).frozen? q = false := by simp [hz]
 have ha := assert_is x
 refine callsD_of_wpS Tryz.func193 rfl fun c₀ cs hu => ?_
 apply wpS_seq
 apply wpS_region
 simp [wpOpsS, go_sem, recoverD, hu, ha, Tryz.ntmps193, Exit.thenS]
 apply wpS_seq
 apply wpS_region
 simp [wpOpsS, go_sem, Exit.thenS]
 refine wpS_cond (t := true) (by simp [Act.eval, Array.replicate]) ?_
 simp only [if_true]
 apply wpS_region
 simp [wpOpsS, go_sem, hp, hq, hy, hz, hq2, hz2, bodyPostS, results, Tryz.results193]
theorem idle35 (p q : Addr) (w : World) :
  CallsD Tryz.prog 193 #[.pointer (some p), .pointer (some q)] .returning w fun e u' w' => e = .returned (.tuple #[]) /\ u' = .returning /\ w' = w := by
 have ha := assert_nil
 refine callsD_of_wpS Tryz.func193 rfl fun c₀ cs hu => ?_
 apply wpS_seq
 apply wpS_region
 simp [wpOpsS, go_sem, recoverD, hu, ha, Tryz.ntmps193, Exit.thenS]
 apply wpS_seq
 apply wpS_region
 simp [wpOpsS, go_sem, Exit.thenS]
 refine wpS_cond (t := false) (by simp [Act.eval, Array.replicate]) ?_
 simp only [Bool.false_eq_true, if_false]
 refine wpS_of_wp (wp_skip ?_)
 cases c₀
 simp_all [bodyPostS, results, Tryz.results193]
theorem box611 (w : World) (a b c d e f x y : Value) (t u v : Nat) : ∃ W, ((w.alloc (.cells #[a, b, c, d, e, f] t)).alloc (.cells #[x] u)).alloc (.cells #[y] v) = W /\ Below w.heap.size w W /\ W.heap.size = w.heap.size + 3 /\
  (W.cell? ⟨w.heap.size, 0, none⟩ = some a /\ W.cell? ⟨w.heap.size, 1, none⟩ = some b /\ W.cell? ⟨w.heap.size, 2, none⟩ = some c /\ W.cell? ⟨w.heap.size, 3, none⟩ = some d /\ W.cell? ⟨w.heap.size, 4, none⟩ = some e /\ W.cell? ⟨w.heap.size, 5, none⟩ = some f) /\
  Free W ⟨w.heap.size + 1, 0, none⟩ /\ Free W ⟨w.heap.size + 2, 0, none⟩ := by
 have hz : w.heap.size + 1 = (w.alloc (.cells #[a, b, c, d, e, f] t)).heap.size := by simp
 have hz2 : w.heap.size + 2 = ((w.alloc (.cells #[a, b, c, d, e, f] t)).alloc (.cells #[x] u)).heap.size := by simp
 refine ⟨_, rfl, (((Below.refl _ _).alloc (Nat.le_refl _) _).alloc (by simp) _).alloc (by simp only [World.size_alloc]; omega) _, by simp, ⟨?_, ?_, ?_, ?_, ?_, ?_⟩, ⟨⟨x, ?_⟩, ?_⟩, ⟨⟨y, ?_⟩, ?_⟩⟩
 all_goals first | exact cell_old (cell_old (cell_newA w _ _ _ _ _ rfl rfl) _) _ | exact cell_old (cell_newA _ _ _ _ _ _ hz rfl) _ | exact cell_newA _ _ _ _ _ _ hz2 rfl | (rw [World.frozen?_alloc_at _ _ _ _ hz2]) | (rw [World.frozen?_alloc _ _ _ (by simp), World.frozen?_alloc_at _ _ _ _ hz]) | simp [go_sem]
set_option maxHeartbeats 1000000 in
theorem caught18_ok (fn : Nat) (x : Tk) (v : Nat) (w : World)
  (hc : ∀ w1, (callFunc fn #[x.val]).run Tryz.prog w1 = .ok (.enter fn #[x.val]) w1)
  (h : ∀ w1, Calls Tryz.prog fn #[x.val] w1 fun e w2 => e = .returned (.int .u32 v) /\ Below w1.heap.size w1 w2) :
  Calls Tryz.prog 122 #[.func (.func fn) #[] #[], x.val] w fun e w' => e = .returned (.tuple #[.int .u32 v, .bool true]) /\ Below w.heap.size w w' := by
 have hmf : ∀ (fn : Fn) (first cap : Array Value) (w : World), (Instr.makeFunc fn first cap).run Tryz.prog w = .ok (.func fn first cap) w := fun _ _ _ _ => rfl
 have h' : Hid (∀ w1, Calls Tryz.prog fn #[x.val] w1 fun e w2 => e = .returned (.int .u32 v) /\ Below w1.heap.size w1 w2) := h
 clear h
 obtain ⟨xs, xt, xi, xm, sa, rd⟩ := x
 simp only [Tk.val] at hc h' |-
 obtain ⟨W, hW, hb, hz, ⟨c0, c1, c2, c3, c4, c5⟩, f1, f2⟩ := box611 w (.int .u32 xs) (.int .u32 xt) (.int .u32 xi) (.int .u32 xm) (.int .i64 sa) (.int .i64 rd) (.int .u32 0) (.bool false) 192 22 4
 have HF : Hid (∀ w', Below W.heap.size W w' -> Free w' ⟨w.heap.size + 1, 0, none⟩ /\ Free w' ⟨w.heap.size + 2, 0, none⟩ /\ Below w.heap.size w w') := fun w' h => ⟨f1.keep h, f2.keep h, below_tr hb h⟩
 have K := h'.out W
 clear hb hz f1 f2 h'
 go_enter_defers Tryz.func122, Tryz.ntmps122
 go_wp2_with fail
 refine K.mono ?_
 rintro e w2 ⟨rfl, hb2⟩
 obtain ⟨g1, g2, hbw⟩ := HF.out w2 hb2
 have g2' := g2.set ⟨w.heap.size + 1, 0, none⟩ (.int .u32 v)
 have q1 := g1.cell
 have q2 := g2'.cell
 have z1 := g1.frozen
 have z2 := g2'.frozen
 have y1 : ((w2.setCell ⟨w.heap.size + 1, 0, none⟩ (.int .u32 v)).setCell ⟨w.heap.size + 2, 0, none⟩ (.bool true)).cell? ⟨w.heap.size + 1, 0, none⟩ = some (.int .u32 v) := by
  rw [World.cell?_setCell_other _ _ _ _ (by simp)]; exact World.cell?_setCell_same _ _ _ g1.cell
 have y2 : ((w2.setCell ⟨w.heap.size + 1, 0, none⟩ (.int .u32 v)).setCell ⟨w.heap.size + 2, 0, none⟩ (.bool true)).cell? ⟨w.heap.size + 2, 0, none⟩ = some (.bool true) := World.cell?_setCell_same _ _ _ g2'.cell
 have HBE : Below w.heap.size w ((w2.setCell ⟨w.heap.size + 1, 0, none⟩ (.int .u32 v)).setCell ⟨w.heap.size + 2, 0, none⟩ (.bool true)) := (hbw.setCell (Nat.le_succ _) _).setCell (by show w.heap.size <= w.heap.size + 2; omega) _
 obtain ⟨W9, hW9⟩ : ∃ z, (w2.setCell ⟨w.heap.size + 1, 0, none⟩ (.int .u32 v)).setCell ⟨w.heap.size + 2, 0, none⟩ (.bool true) = z := ⟨_, rfl⟩
 rw [hW9] at y1 y2 HBE
 have HBE : Hid _ := HBE
 clear g1 g2 g2' hbw hb2 K
 go_wp2
 refine leaves_cons (f := 193) (args := #[.pointer (some ⟨w.heap.size + 1, 0, none⟩), .pointer (some ⟨w.heap.size + 2, 0, none⟩)]) (by simp) (by simp [go_sem]) ?_
 refine (idle35 ⟨w.heap.size + 1, 0, none⟩ ⟨w.heap.size + 2, 0, none⟩ _).mono ?_
 rintro e u' w'' ⟨rfl, rfl, rfl⟩
 have HBE := HBE.out
 simp [Leaves, settle, results, Tryz.results122, go_sem, y1, y2, HBE]
set_option maxHeartbeats 1000000 in
theorem caught18_no (fn : Nat) (x : Tk) (w : World)
  (hc : ∀ w1, (callFunc fn #[x.val]).run Tryz.prog w1 = .ok (.enter fn #[x.val]) w1)
  (h : ∀ w1, Calls Tryz.prog fn #[x.val] w1 fun e w2 => (∃ m : Int, e = .panicked (thrown m)) /\ Below w1.heap.size w1 w2) :
  Calls Tryz.prog 122 #[.func (.func fn) #[] #[], x.val] w fun e w' => e = .returned (.tuple #[.int .u32 0, .bool false]) /\ Below w.heap.size w w' := by
 have hmf : ∀ (fn : Fn) (first cap : Array Value) (w : World), (Instr.makeFunc fn first cap).run Tryz.prog w = .ok (.func fn first cap) w := fun _ _ _ _ => rfl
 have h' : Hid (∀ w1, Calls Tryz.prog fn #[x.val] w1 fun e w2 => (∃ m : Int, e = .panicked (thrown m)) /\ Below w1.heap.size w1 w2) := h
 clear h
 obtain ⟨xs, xt, xi, xm, sa, rd⟩ := x
 simp only [Tk.val] at hc h' |-
 obtain ⟨W, hW, hb, hz, ⟨c0, c1, c2, c3, c4, c5⟩, f1, f2⟩ := box611 w (.int .u32 xs) (.int .u32 xt) (.int .u32 xi) (.int .u32 xm) (.int .i64 sa) (.int .i64 rd) (.int .u32 0) (.bool false) 192 22 4
 have HF : Hid (∀ w', Below W.heap.size W w' -> Free w' ⟨w.heap.size + 1, 0, none⟩ /\ Free w' ⟨w.heap.size + 2, 0, none⟩ /\ Below w.heap.size w w') := fun w' h => ⟨f1.keep h, f2.keep h, below_tr hb h⟩
 have K := h'.out W
 clear hb hz f1 f2 h'
 go_enter_defers Tryz.func122, Tryz.ntmps122
 go_wp2_with fail
 refine K.mono ?_
 rintro e w2 ⟨⟨m, rfl⟩, hb2⟩
 obtain ⟨g1, g2, hbw⟩ := HF.out w2 hb2
 have g2' := g2.set ⟨w.heap.size + 1, 0, none⟩ (.int .u32 0)
 have y1 : ((w2.setCell ⟨w.heap.size + 1, 0, none⟩ (.int .u32 0)).setCell ⟨w.heap.size + 2, 0, none⟩ (.bool false)).cell? ⟨w.heap.size + 1, 0, none⟩ = some (.int .u32 0) := by
  rw [World.cell?_setCell_other _ _ _ _ (by simp)]; exact World.cell?_setCell_same _ _ _ g1.cell
 have y2 : ((w2.setCell ⟨w.heap.size + 1, 0, none⟩ (.int .u32 0)).setCell ⟨w.heap.size + 2, 0, none⟩ (.bool false)).cell? ⟨w.heap.size + 2, 0, none⟩ = some (.bool false) := World.cell?_setCell_same _ _ _ g2'.cell
 have HBE : Hid (Below w.heap.size w ((w2.setCell ⟨w.heap.size + 1, 0, none⟩ (.int .u32 0)).setCell ⟨w.heap.size + 2, 0, none⟩ (.bool false))) := (hbw.setCell (Nat.le_succ _) _).setCell (by show w.heap.size <= w.heap.size + 2; omega) _
 have HG : Hid (Free w2 ⟨w.heap.size + 1, 0, none⟩ /\ Free w2 ⟨w.heap.size + 2, 0, none⟩) := ⟨g1, g2⟩
 clear g1 g2 g2' hbw hb2 K
 go_wp2
 refine leaves_cons (f := 193) (args := #[.pointer (some ⟨w.heap.size + 1, 0, none⟩), .pointer (some ⟨w.heap.size + 2, 0, none⟩)]) (by simp) (by simp [go_sem]) ?_
 refine (catch35 ⟨w.heap.size + 1, 0, none⟩ ⟨w.heap.size + 2, 0, none⟩ m w2 (by simp) (by rw [HG.out.1.cell]; rfl) (by rw [HG.out.2.cell]; rfl) HG.out.1.frozen HG.out.2.frozen).mono ?_
 rintro e u' w'' ⟨rfl, rfl, rfl⟩
 have HBE := HBE.out
 simp [Leaves, settle, results, Tryz.results122, go_sem, y1, y2, HBE]
theorem caught18 (fn : Nat) (x : Tk) (r : Option Nat) (w : World)
  (hc : ∀ w1, (callFunc fn #[x.val]).run Tryz.prog w1 = .ok (.enter fn #[x.val]) w1)
  (h : ∀ w1, Calls Tryz.prog fn #[x.val] w1 fun e w2 => Told r e /\ Below w1.heap.size w1 w2) :
  Calls Tryz.prog 122 #[.func (.func fn) #[] #[], x.val] w fun e w' => e = .returned (.tuple #[.int .u32 (r.getD 0 : Int), .bool r.isSome]) /\ Below w.heap.size w w' := by
 cases r with
 | none => exact caught18_no fn x w hc h
 | some v => exact caught18_ok fn x v w hc h
end Go.Proofs.YtimfipkbddpdmaaGreatDoor
