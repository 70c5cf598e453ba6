/- What is proved here: a name's number, the document's; which texts are names. -/
import Derived.Test.YtgdflobcbhnimaaGreatNb
import Derived.Laws.Externs
import Derived.WalkLawsBesides
import Derived.Lib.Bytealg
import Derived.Lib.IndexLaws
import Derived.Shelf.Abstract
namespace Go.Proofs.YtgdflobcbhnimaaGreat
open Go.RowKit
set_option linter.unusedVariables false
set_option linter.unusedSimpArgs false
set_option maxRecDepth 100000
theorem x_index (s : ByteArray) (w : World) : (callFunc 118 #[.string s, .int .u8 0]).run Tryz.prog w = .ok (.value (.int .i64 (firstIdx s 0))) w := by
  rw [run_callFunc_extern Tryz.func118 (by kernel_rfl) (by kernel_rfl) (by kernel_rfl) (e := Extern.BytealgIndexByte.indexByte) (by kernel_rfl), run_indexByte_string]
  rfl
theorem index58 (s : ByteArray) (w : World) : Calls Tryz.prog 101 #[.string s, .int .u8 0] w fun e w' => e = .returned (.int .i64 (firstIdx s 0)) ∧ w' = w := by
  have h := x_index s
  go_enter Tryz.func101, Tryz.ntmps101
  go_wp2
  go_ret
  exact ⟨rfl, rfl⟩
theorem idx_no (c : UInt8) : ∀ l : List UInt8, c ∉ l → Lib.indexByte l c = -1
  | [], _ => rfl
  | b :: t, h => by
    simp only [List.mem_cons, not_or] at h
    have h0 : (b == c) = false := by simpa using fun e => h.1 e.symm
    rw [Lib.indexByte, h0, idx_no c t h.2]
    rfl
theorem idx_take (c : UInt8) : ∀ l : List UInt8, c ∈ l → Lib.indexByte l c = ((l.takeWhile (· != c)).length : Int)
  | [], h => by simp at h
  | b :: t, h => by
    by_cases e : b = c
    · subst e
      simp [Lib.indexByte]
    · have h0 : (b == c) = false := by simpa using e
      have h3 : (b != c) = true := by simpa using e
      have hm : c ∈ t := by
        rcases List.mem_cons.1 h with h | h
        · exact absurd h.symm e
        · exact h
      have h1 := idx_take c t hm
      rw [List.takeWhile_cons, if_pos h3, Lib.indexByte, h0, h1]
      have h2 : ((((t.takeWhile (· != c)).length : Nat) : Int) == -1) = false := by simp only [beq_eq_false_iff_ne, ne_eq]; omega
      rw [h2]
      simp
theorem first_take (s : ByteArray) (h : (0 : UInt8) ∈ s.toList) : firstIdx s 0 = ((s.toList.takeWhile (· != 0)).length : Int) := by
  rw [Lib.firstIdx_eq, ← ByteArray.toList_eq]; exact idx_take 0 _ h
theorem first_no (s : ByteArray) (h : (0 : UInt8) ∉ s.toList) : firstIdx s 0 = -1 := by
  rw [Lib.firstIdx_eq, ← ByteArray.toList_eq]; exact idx_no 0 _ h
theorem first_dec (s : ByteArray) : decide (0 ≤ firstIdx s 0) = s.toList.contains 0 := by
  by_cases h : (0 : UInt8) ∈ s.toList
  · rw [first_take s h, decide_eq_true (by omega)]
    simpa using h
  · rw [first_no s h]
    simpa using h
theorem index52 (s : ByteArray) (w : World) : Calls Tryz.prog 127 #[.string s, .string ⟨#[0]⟩] w fun e w' => e = .returned (.int .i64 (firstIdx s 0)) ∧ w' = w := by
  by_cases h : s.toList = [0]
  · have hq : ([0] == s.toList) = true := by rw [h]; rfl
    have hx : firstIdx s 0 = 0 := by rw [first_take s (by rw [h]; simp), h]; rfl
    rw [hx]
    clear h hx
    go_enter Tryz.func127, Tryz.ntmps127
    go_wp2
    go_ret
    exact ⟨rfl, rfl⟩
  · have hq : ([0] == s.toList) = false := by simpa using fun e => h e.symm
    have K := index58 s w
    clear h
    go_enter Tryz.func127, Tryz.ntmps127
    go_wp2_with fail
    refine K.mono ?_
    rintro e wz ⟨rfl, rfl⟩
    go_wp2
    go_ret
    exact ⟨rfl, rfl⟩
theorem index56 (s : ByteArray) (w : World) : Calls Tryz.prog 125 #[.string s, .string ⟨#[0]⟩] w fun e w' => e = .returned (.int .i64 (firstIdx s 0)) ∧ w' = w := by
  have K := index52 s w
  go_enter Tryz.func125, Tryz.ntmps125
  go_wp2_with fail
  refine K.mono ?_
  rintro e wz ⟨rfl, rfl⟩
  go_wp2
  go_ret
  exact ⟨rfl, rfl⟩
theorem contains50 (s : ByteArray) (w : World) : Calls Tryz.prog 119 #[.string s, .string ⟨#[0]⟩] w fun e w' => e = .returned (.bool (s.toList.contains 0)) ∧ w' = w := by
  have K := index56 s w
  rw [← first_dec s]
  go_enter Tryz.func119, Tryz.ntmps119
  go_wp2_with fail
  refine K.mono ?_
  rintro e wz ⟨rfl, rfl⟩
  go_wp2
  go_ret
  exact ⟨rfl, rfl⟩
def nameB (l : L8) : Bool := decide (1 ≤ l.length) && (decide (l.length ≤ 31) && !l.contains 0)
theorem isName40 (l : L8) (w : World) : Calls Tryz.prog 103 #[.string ⟨l.toArray⟩] w fun e w' => e = .returned (.bool (nameB l)) ∧ w' = w := by
  obtain ⟨S, hS⟩ : ∃ S : ByteArray, S = ⟨l.toArray⟩ := ⟨_, rfl⟩
  have hl : S.toList = l := by rw [hS]; exact bal l
  have hsz : S.size = l.length := by rw [← hl, bt_len]
  have K := contains50 S w
  rw [hl] at K
  rw [← hS]
  unfold nameB
  rw [← hsz]
  generalize l.contains 0 = C at K ⊢
  clear hS hl hsz
  by_cases h1 : 1 ≤ S.size
  · have i1 : (1 : Int) ≤ (S.size : Int) := by omega
    have d1 := decide_eq_true i1
    rw [decide_eq_true h1, Bool.true_and]
    by_cases h2 : S.size ≤ 31
    · have i2 : (S.size : Int) ≤ 31 := by omega
      have d2 := decide_eq_true i2
      rw [decide_eq_true h2, Bool.true_and]
      go_enter Tryz.func103, Tryz.ntmps103
      go_wp2_with fail
      refine K.mono ?_
      rintro e wz ⟨rfl, rfl⟩
      go_wp2
      go_ret
      exact ⟨rfl, rfl⟩
    · have i2 : ¬ (S.size : Int) ≤ 31 := by omega
      have d2 := decide_eq_false i2
      rw [decide_eq_false h2, Bool.false_and]
      go_enter Tryz.func103, Tryz.ntmps103
      go_wp2
      go_ret
      exact ⟨rfl, rfl⟩
  · have i1 : ¬ (1 : Int) ≤ (S.size : Int) := by omega
    have d1 := decide_eq_false i1
    rw [decide_eq_false h1, Bool.false_and]
    go_enter Tryz.func103, Tryz.ntmps103
    go_wp2
    go_ret
    exact ⟨rfl, rfl⟩
end Go.Proofs.YtgdflobcbhnimaaGreat
namespace Go.Proofs.YtgdflobcbhnimaaGreat
open Go.RowKit
set_option linter.unusedVariables false
set_option linter.unusedSimpArgs false
set_option maxRecDepth 100000
def Sy.val (s : Sy) : Value := .agg #[.string ⟨s.name.toArray⟩, .int .u32 (s.value : Int), .int .u32 (s.size : Int), .int .i64 s.bind, .int .i64 s.part]
def Sy.cells (s : Sy) : List Value := [.string ⟨s.name.toArray⟩, .int .u32 (s.value : Int), .int .u32 (s.size : Int), .int .i64 s.bind, .int .i64 s.part]
/-- A new block of five cells. -/
theorem box5 (w : World) (s : Sy) : ∃ W, w.alloc (.cells #[.string ⟨s.name.toArray⟩, .int .u32 (s.value : Int), .int .u32 (s.size : Int), .int .i64 s.bind, .int .i64 s.part] 46) = W ∧ Below w.heap.size w W ∧ W.heap.size = w.heap.size + 1 ∧
    (W.cell? ⟨w.heap.size, 0, none⟩ = some (.string ⟨s.name.toArray⟩) ∧ W.cell? ⟨w.heap.size, 1, none⟩ = some (.int .u32 (s.value : Int)) ∧ W.cell? ⟨w.heap.size, 2, none⟩ = some (.int .u32 (s.size : Int)) ∧ W.cell? ⟨w.heap.size, 3, none⟩ = some (.int .i64 s.bind) ∧ W.cell? ⟨w.heap.size, 4, none⟩ = some (.int .i64 s.part)) := by
  refine ⟨_, rfl, (Below.refl _ _).alloc (Nat.le_refl _) _, by simp, ?_, ?_, ?_, ?_, ?_⟩ <;> exact cell_newA _ _ _ _ _ _ rfl rfl
/-- A symbol lies in five cells. -/
def At5 (w : World) (b o : Nat) (s : Sy) : Prop := w.cell? ⟨b, o, none⟩ = some (.string ⟨s.name.toArray⟩) ∧ w.cell? ⟨b, o + 1, none⟩ = some (.int .u32 (s.value : Int)) ∧ w.cell? ⟨b, o + 2, none⟩ = some (.int .u32 (s.size : Int)) ∧ w.cell? ⟨b, o + 3, none⟩ = some (.int .i64 s.bind) ∧ w.cell? ⟨b, o + 4, none⟩ = some (.int .i64 s.part)
theorem At5.keep {w w' : World} {b o : Nat} {g : Sy} (h : At5 w b o g) (hb : Below w.heap.size w w') : At5 w' b o g := by
  obtain ⟨h0, h1, h2, h3, h4⟩ := h
  exact ⟨keep_cell hb h0, keep_cell hb h1, keep_cell hb h2, keep_cell hb h3, keep_cell hb h4⟩
/-- A slice holds symbols. -/
def SlY (w : World) (v : Value) (gs : List Sy) : Prop :=
  ∃ ao cap, v = .slice ao gs.length cap ∧ gs.length ≤ cap ∧ cap ≤ 9223372036854775807 ∧ (ao = none → cap = 0) ∧
   ∀ i (h : i < gs.length), ∃ b o, ao = some ⟨b, o, none⟩ ∧ At5 w b (o + i * 5) gs[i]
theorem SlY.keep {w w' : World} {v : Value} {gs : List Sy} (h : SlY w v gs) (hb : Below w.heap.size w w') : SlY w' v gs := by
  obtain ⟨ao, cap, rfl, h1, h2, h3, h4⟩ := h
  refine ⟨ao, cap, rfl, h1, h2, h3, fun i hi => ?_⟩
  obtain ⟨b, o, e, c⟩ := h4 i hi
  exact ⟨b, o, e, c.keep hb⟩
theorem SlY.nil (w : World) : SlY w (.slice none 0 0) [] := ⟨none, 0, rfl, Nat.le_refl _, by decide, fun _ => rfl, fun i h => absurd h (Nat.not_lt_zero _)⟩
set_option maxHeartbeats 1000000 in
theorem index39_0 (f : Nat) (gs : List Sy) (v : Value) (p : Sy → Bool) (w : World) (hs : SlY w v gs) (hn : gs.length ≤ 1000000)
    (eg : ∀ args w, (callFunc f args).run Tryz.prog w = .ok (.enter f args) w)
    (hf : ∀ w1 g, Below w.heap.size w w1 → g ∈ gs → Calls Tryz.prog f #[g.val] w1 fun e w' => e = .returned (.bool (p g)) ∧ Below w1.heap.size w1 w') :
    Calls Tryz.prog 102 #[v, .func (.func f) #[] #[]] w fun e w' => (∃ i : Int, e = .returned (.int .i64 i) ∧ decide (0 ≤ i) = gs.any p) ∧ Below w.heap.size w w' := by
  obtain ⟨ao, cap, rfl, s1, s2, s3, s4⟩ := hs
  have HS : Hid (∀ i (h : i < gs.length), ∃ b o, ao = some ⟨b, o, none⟩ ∧ At5 w b (o + i * 5) gs[i]) := s4
  have HF : Hid (∀ w1 g, Below w.heap.size w w1 → g ∈ gs → Calls Tryz.prog f #[g.val] w1 fun e w' => e = .returned (.bool (p g)) ∧ Below w1.heap.size w1 w') := hf
  clear s3 s4 hf
  go_enter Tryz.func102, Tryz.ntmps102
  go_wp2
  go_loopw [8] (fun x wr => ∃ k : Nat, x = .int .i64 (k : Int) ∧ k ≤ gs.length ∧ (gs.take k).any p = false ∧ Below w.heap.size w wr) (fun x _ => gs.length - (intOf x).toNat)
  case atStart => exact ⟨0, rfl, Nat.zero_le _, rfl, Below.refl _ _⟩
  case round =>
    obtain ⟨k, rfl, hk, hall, hb⟩ := hrel
    by_cases hlt : k < gs.length
    · obtain ⟨b, o, rfl, h7⟩ := HS.out k hlt
      have h7 := h7.keep hb
      obtain ⟨g, hg⟩ : ∃ g, g = gs[k] := ⟨_, rfl⟩
      rw [← hg] at h7
      have KF := HF.out wr g hb (by rw [hg]; exact List.getElem_mem hlt)
      have htk : (gs.take (k + 1)).any p = p g := by
        rw [List.take_succ_eq_append_getElem hlt, List.any_append, hall, hg]; simp
      have hge : gs.any p = false → p g = false := fun h => by
        rw [List.any_eq_false] at h
        have := h g (by rw [hg]; exact List.getElem_mem hlt)
        simpa using this
      have HA : Hid ((gs.take (k + 1)).any p = p g ∧ (gs.any p = false → p g = false)) := ⟨htk, hge⟩
      clear htk hge hall hg
      obtain ⟨q0, q1, q2, q3, q4⟩ := h7
      unfold Sy.val at KF
      cases hp : p g with
      | false =>
        rw [hp] at KF HA
        clear hp
        go_wp2_with fail
        refine KF.mono ?_
        rintro e w1 ⟨rfl, hb1⟩
        clear KF q0 q1 q2 q3 q4
        go_wp2
        go_roundw
        case rel => exact ⟨k + 1, by go_num, by omega, HA.out.1, below_tr hb hb1⟩
        case measure => simp [intOf]; omega
      | true =>
        rw [hp] at KF HA
        clear hp
        have HT : Hid (gs.any p = true) := by
          cases hh : gs.any p with
          | true => exact rfl
          | false => exact absurd (HA.out.2 hh) (by decide)
        go_wp2_with fail
        refine KF.mono ?_
        rintro e w1 ⟨rfl, hb1⟩
        clear KF q0 q1 q2 q3 q4
        go_wp2
        go_ret
        exact ⟨⟨_, rfl, by rw [HT.out]; exact decide_eq_true (by omega)⟩, below_tr hb hb1⟩
    · have HT : Hid (gs.any p = false) := by rw [List.take_of_length_le (by omega)] at hall; exact hall
      go_wp2
      go_ret
      exact ⟨⟨_, rfl, by rw [HT.out]; rfl⟩, hb⟩
theorem contains27_0 (f : Nat) (gs : List Sy) (v : Value) (p : Sy → Bool) (w : World) (hs : SlY w v gs) (hn : gs.length ≤ 1000000)
    (eg : ∀ args w, (callFunc f args).run Tryz.prog w = .ok (.enter f args) w)
    (hf : ∀ w1 g, Below w.heap.size w w1 → g ∈ gs → Calls Tryz.prog f #[g.val] w1 fun e w' => e = .returned (.bool (p g)) ∧ Below w1.heap.size w1 w') :
    Calls Tryz.prog 81 #[v, .func (.func f) #[] #[]] w fun e w' => e = .returned (.bool (gs.any p)) ∧ Below w.heap.size w w' := by
  have K := index39_0 f gs v p w hs hn eg hf
  obtain ⟨ao, cap, rfl, s1, s2, s3, s4⟩ := hs
  clear hf s4 s3
  go_enter Tryz.func81, Tryz.ntmps81
  go_wp2_with fail
  refine K.mono ?_
  rintro e w1 ⟨⟨i, rfl, hi⟩, hb1⟩
  clear K
  go_wp2
  go_ret
  exact ⟨by first | (rw [← hi]; rfl) | rfl | (simp [← hi]), hb1⟩
theorem fitY_any (gs : List Sy) : gs.all fitY = !gs.any (fun g => !fitY g) := by
  induction gs with
  | nil => rfl
  | cons g t ih => rw [List.all_cons, List.any_cons, ih]; cases fitY g <;> rfl
theorem fitY_is (g : Sy) : fitY g = (nameB g.name && (!decide (g.bind < 0) && (!decide (2 < g.bind) && (!decide (g.part < 0) && !decide (2 < g.part))))) := by
  unfold fitY nameB
  have hc : g.name.contains 0 = decide ((0 : UInt8) ∈ g.name) := by
    by_cases h : (0 : UInt8) ∈ g.name <;> simp [h]
  rw [hc]
  rw [Bool.eq_iff_iff, decide_eq_true_eq]
  unfold FitY
  simp only [Bool.and_eq_true, Bool.not_eq_true', decide_eq_false_iff_not, decide_eq_true_eq]
  constructor
  · rintro ⟨h1, h2, h3, h4, h5, h6, h7⟩
    exact ⟨⟨h1, h2, h3⟩, by omega, by omega, by omega, by omega⟩
  · rintro ⟨⟨h1, h2, h3⟩, h4, h5, h6, h7⟩
    exact ⟨h1, h2, h3, by omega, by omega, by omega, by omega⟩
set_option maxHeartbeats 4000000 in
theorem unfit28 (g : Sy) (w : World) : Calls Tryz.prog 82 #[g.val] w fun e w' => e = .returned (.bool (!fitY g)) ∧ Below w.heap.size w w' := by
  obtain ⟨W, hW, hbl, hz, q0, q1, q2, q3, q4⟩ := box5 w g
  have HB : Hid (Below w.heap.size w W) := hbl
  have KN := isName40 g.name W
  have HF : Hid (fitY g = _) := fitY_is g
  rw [fitY_is g]
  unfold Sy.val
  clear hbl hz
  generalize nameB g.name = N at KN ⊢
  cases N with
  | false =>
    rw [Bool.false_and]
    go_enter Tryz.func82, Tryz.ntmps82
    go_wp2_with fail
    refine KN.mono ?_
    rintro e w1 ⟨rfl, rfl⟩
    go_wp2
    go_ret
    exact ⟨rfl, HB.out⟩
  | true =>
    rw [Bool.true_and]
    by_cases c0 : g.bind < 0
    · have dc0 := decide_eq_true c0
      rw [dc0]
      go_enter Tryz.func82, Tryz.ntmps82
      go_wp2_with fail
      refine KN.mono ?_
      rintro e w1 ⟨rfl, rfl⟩
      go_wp2
      go_ret
      exact ⟨rfl, HB.out⟩
    · have dc0 := decide_eq_false c0
      by_cases c1 : 2 < g.bind
      · have dc1 := decide_eq_true c1
        rw [dc0, dc1]
        go_enter Tryz.func82, Tryz.ntmps82
        go_wp2_with fail
        refine KN.mono ?_
        rintro e w1 ⟨rfl, rfl⟩
        go_wp2
        go_ret
        exact ⟨rfl, HB.out⟩
      · have dc1 := decide_eq_false c1
        by_cases c2 : g.part < 0
        · have dc2 := decide_eq_true c2
          rw [dc0, dc1, dc2]
          go_enter Tryz.func82, Tryz.ntmps82
          go_wp2_with fail
          refine KN.mono ?_
          rintro e w1 ⟨rfl, rfl⟩
          go_wp2
          go_ret
          exact ⟨rfl, HB.out⟩
        · have dc2 := decide_eq_false c2
          by_cases c3 : 2 < g.part
          · have dc3 := decide_eq_true c3
            rw [dc0, dc1, dc2, dc3]
            go_enter Tryz.func82, Tryz.ntmps82
            go_wp2_with fail
            refine KN.mono ?_
            rintro e w1 ⟨rfl, rfl⟩
            go_wp2
            go_ret
            exact ⟨rfl, HB.out⟩
          · have dc3 := decide_eq_false c3
            rw [dc0, dc1, dc2, dc3]
            go_enter Tryz.func82, Tryz.ntmps82
            go_wp2_with fail
            refine KN.mono ?_
            rintro e w1 ⟨rfl, rfl⟩
            go_wp2
            go_ret
            exact ⟨rfl, HB.out⟩
set_option maxHeartbeats 1000000 in
theorem fit16 (l : List Sy) (v : Value) (w : World) (hs : SlY w v l) (hn : l.length ≤ 1000000) :
    Calls Tryz.prog 50 #[v] w fun r w' => r = .returned (.bool (fitL l)) ∧ Below w.heap.size w w' := by
  have eg := enters_of Tryz.func82 (by kernel_rfl) rfl
  have K := contains27_0 82 l v (fun g => !fitY g) w hs hn eg (fun w1 g _ hg => unfit28 g w1)
  have hfe : fitL l = (decide (l.length ≤ 200) && !l.any (fun g => !fitY g)) := by unfold fitL; rw [fitY_any]
  rw [hfe]
  clear hfe
  generalize l.any (fun g => !fitY g) = B at K ⊢
  obtain ⟨ao, cap, rfl, s1, s2, s3, s4⟩ := hs
  clear s4 s3
  by_cases h : l.length ≤ 200
  · have i2 : (l.length : Int) ≤ 200 := by omega
    have d2 := decide_eq_true i2
    rw [decide_eq_true h, Bool.true_and]
    go_enter Tryz.func50, Tryz.ntmps50
    go_wp2_with fail
    refine K.mono ?_
    rintro e w1 ⟨rfl, hb1⟩
    clear K
    go_wp2
    go_ret
    exact ⟨rfl, hb1⟩
  · have i2 : ¬ (l.length : Int) ≤ 200 := by omega
    have d2 := decide_eq_false i2
    rw [decide_eq_false h, Bool.false_and]
    clear K
    go_enter Tryz.func50, Tryz.ntmps50
    go_wp2
    go_ret
    exact ⟨rfl, Below.refl _ _⟩
/-- The document's. -/
theorem all_ne (l : L8) : l.all (fun c => c != 0) = !l.contains 0 := by
  induction l with
  | nil => rfl
  | cons c t ih =>
    rw [List.all_cons, List.contains_cons, ih]
    by_cases h : c = 0
    · subst h; rfl
    · have h1 : (c != 0) = true := by simpa using h
      have h2 : ((0 : UInt8) == c) = false := by simpa using fun e => h e.symm
      rw [h1, h2]; rfl
set_option maxHeartbeats 4000000 in
theorem fitSym23 (g : Sy) (w : World) : Calls Tryz.prog 53 #[g.val] w fun e w' => e = .returned (.bool (fitY g)) ∧ Below w.heap.size w w' := by
  obtain ⟨W, hW, hbl, hz, q0, q1, q2, q3, q4⟩ := box5 w g
  have HB : Hid (Below w.heap.size w W) := hbl
  obtain ⟨S, hS⟩ : ∃ S : ByteArray, S = ⟨g.name.toArray⟩ := ⟨_, rfl⟩
  have hl : S.toList = g.name := by rw [hS]; exact bal _
  have hsz : S.size = g.name.length := by rw [← hl, bt_len]
  have HF : Hid (fitY g = (decide (1 ≤ S.size) && (decide (S.size ≤ 31) && S.toList.all (fun c => c != 0)) && (!decide (g.bind < 0) && (!decide (2 < g.bind) && (!decide (g.part < 0) && !decide (2 < g.part)))))) := by
    rw [Hid, fitY_is, nameB, ← hl, all_ne, bt_len]
  unfold Sy.val
  rw [← hS] at hW q0 ⊢
  clear hbl hz hS hl hsz
  generalize fitY g = F at HF ⊢
  by_cases c0 : (S.size : Int) < 1
  · have dc0 := decide_eq_true c0
    have HQ : Hid (F = false) := by
      show F = false
      have := HF.out
      rw [this]
      simp [show ¬ 1 ≤ S.size by omega]
    rw [HQ.out]
    go_enter Tryz.func53, Tryz.ntmps53
    go_wp2
    go_ret
    exact ⟨rfl, HB.out⟩
  · have dc0 := decide_eq_false c0
    by_cases c1 : (31 : Int) < (S.size : Int)
    · have dc1 := decide_eq_true c1
      have HQ : Hid (F = false) := by
        show F = false
        have := HF.out
        rw [this]
        simp [show ¬ S.size ≤ 31 by omega]
      rw [HQ.out]
      go_enter Tryz.func53, Tryz.ntmps53
      go_wp2
      go_ret
      exact ⟨rfl, HB.out⟩
    · have dc1 := decide_eq_false c1
      by_cases c2 : g.bind < 0
      · have dc2 := decide_eq_true c2
        have HQ : Hid (F = false) := by
          show F = false
          have := HF.out
          rw [this]
          simp [show g.bind < 0 by omega]
        rw [HQ.out]
        go_enter Tryz.func53, Tryz.ntmps53
        go_wp2
        go_ret
        exact ⟨rfl, HB.out⟩
      · have dc2 := decide_eq_false c2
        by_cases c3 : 2 < g.bind
        · have dc3 := decide_eq_true c3
          have HQ : Hid (F = false) := by
            show F = false
            have := HF.out
            rw [this]
            simp [show 2 < g.bind by omega]
          rw [HQ.out]
          go_enter Tryz.func53, Tryz.ntmps53
          go_wp2
          go_ret
          exact ⟨rfl, HB.out⟩
        · have dc3 := decide_eq_false c3
          by_cases c4 : g.part < 0
          · have dc4 := decide_eq_true c4
            have HQ : Hid (F = false) := by
              show F = false
              have := HF.out
              rw [this]
              simp [show g.part < 0 by omega]
            rw [HQ.out]
            go_enter Tryz.func53, Tryz.ntmps53
            go_wp2
            go_ret
            exact ⟨rfl, HB.out⟩
          · have dc4 := decide_eq_false c4
            by_cases c5 : 2 < g.part
            · have dc5 := decide_eq_true c5
              have HQ : Hid (F = false) := by
                show F = false
                have := HF.out
                rw [this]
                simp [show 2 < g.part by omega]
              rw [HQ.out]
              go_enter Tryz.func53, Tryz.ntmps53
              go_wp2
              go_ret
              exact ⟨rfl, HB.out⟩
            · have dc5 := decide_eq_false c5
              have HQ : Hid (F = S.toList.all (fun c => c != 0)) := by
                show F = S.toList.all (fun c => c != 0)
                have := HF.out
                rw [this]
                simp [show 1 ≤ S.size by omega, show S.size ≤ 31 by omega, show ¬ g.bind < 0 by omega, show ¬ 2 < g.bind by omega, show ¬ g.part < 0 by omega, show ¬ 2 < g.part by omega]
              have hms : S.size ≤ 31 := by omega
              go_enter Tryz.func53, Tryz.ntmps53
              go_wp2
              clear q1 q2 q3 q4 hW
              go_loop [3] (fun i => ∃ k : Nat, k ≤ S.size ∧ i = .int .i64 k ∧ (S.toList.take k).all (fun c => c != 0) = true) (fun i => S.size - (intOf i).toNat)
              case atStart => exact ⟨0, Nat.zero_le _, rfl, rfl⟩
              case round =>
                obtain ⟨k, hk, rfl, hall⟩ := hrel
                by_cases hlt : k < S.size
                · obtain ⟨c, hc⟩ : ∃ c : Nat, c = (S[k]).toNat := ⟨_, rfl⟩
                  have hk2 : k < S.toList.length := by rw [bt_len]; exact hlt
                  have hgt : S[k] = S.toList[k] := bt_get S k hlt hk2
                  have HA : Hid ((S.toList.take (k + 1)).all (fun c => c != 0) = (S[k] != 0) ∧ ((S[k] != 0) = false → S.toList.all (fun c => c != 0) = false)) := by
                    refine ⟨?_, fun h => ?_⟩
                    · rw [List.take_succ_eq_append_getElem hk2, List.all_append, hall, hgt]; simp
                    · cases hh : S.toList.all (fun c => c != 0) with
                      | false => rfl
                      | true =>
                        rw [List.all_eq_true] at hh
                        have := hh _ (List.getElem_mem hk2)
                        rw [← hgt, h] at this
                        cases this
                  have hcs : (S[k]).toNat = c := hc.symm
                  by_cases h0 : c = 0
                  · have HZ : Hid ((S[k] != 0) = false) := by
                      have : S[k] = 0 := UInt8.toNat_inj.1 (by rw [hcs, h0]; rfl)
                      rw [Hid, this]; rfl
                    clear hc hgt hk2 hall
                    subst h0
                    go_wp2
                    go_ret
                    exact ⟨by rw [HQ.out, HA.out.2 HZ.out]; rfl, HB.out⟩
                  · have HZ : Hid ((S[k] != 0) = true) := by
                      have : ¬ S[k] = 0 := fun e => h0 (by rw [← hcs, e]; rfl)
                      simpa [Hid] using this
                    have h0i : ¬ (c : Int) = 0 := by omega
                    clear hc hgt hk2 hall
                    go_wp2
                    go_round
                    case rel => exact ⟨k + 1, by omega, by go_num, by rw [HA.out.1, HZ.out]⟩
                    case measure => simp [intOf]; omega
                · have HT : Hid (S.toList.all (fun c => c != 0) = true) := by rw [List.take_of_length_le (by rw [bt_len]; omega)] at hall; exact hall
                  obtain rfl : k = S.size := by omega
                  clear hall
                  go_wp2
                  go_ret
                  exact ⟨by rw [HQ.out, HT.out]; rfl, HB.out⟩
end Go.Proofs.YtgdflobcbhnimaaGreat
