/- What is proved here: texts one behind the other: the library's Concat. -/
import Derived.Test.YtgdflobcbhnimaaGreatPkj
import Derived.Lib.AppendZerosOnto
import Derived.OwnWalk
import Derived.Lib.Walk
import Derived.Laws.AppendOwnNone
import Derived.LoopTactic
namespace Go.Proofs.YtgdflobcbhnimaaGreat
open Go.RowKit 
set_option linter.unusedVariables false
set_option linter.unusedSimpArgs false
set_option maxRecDepth 100000
open E (own_keep)
def stC (s : L8) : Value := .string ⟨s.toArray⟩
/-- A row of texts of one's own. -/
def OwnS (B : Nat) (w : World) (v : Value) (xs : List L8) : Prop := w.ownsRow B 9 1 v xs.length (xs.map stC)
theorem OwnS.keep {B : Nat} {w w' : World} {v : Value} {xs : List L8} (h : OwnS B w v xs) (hb : Below w.heap.size w w') : OwnS B w' v xs := own_keep h hb
theorem OwnS.sl {B : Nat} {w : World} {v : Value} {xs : List L8} (h : OwnS B w v xs) : SlS w v xs := by
  obtain ⟨h0, h | ⟨g, cap, cur, h1, h2, h3, h4, h5, h6, h7⟩⟩ := h
  · obtain ⟨rfl, h⟩ := h
    have : xs = [] := List.eq_nil_of_length_eq_zero h
    subst this
    exact ⟨none, 0, rfl, Nat.le_refl _, by decide, fun _ => rfl, fun i h => absurd h (Nat.not_lt_zero _)⟩
  · refine ⟨some ⟨g, 0, none⟩, cap, h1, h4, by unfold maxLen at h5; omega, (by simp), fun i hi => ⟨g, 0, rfl, ?_⟩⟩
    have e : (cur.toList.take (xs.length * 1))[i]? = some (.string ⟨xs[i].toArray⟩) := by rw [h7, List.getElem?_map, List.getElem?_eq_getElem hi]; rfl
    rw [List.getElem?_take_of_lt (by omega)] at e
    simp only [World.cell?, h3, Nat.zero_add]
    simpa using e
theorem OwnS.ge {B : Nat} {w : World} {v : Value} {xs : List L8} (h : OwnS B w v xs) : ∀ r, v.ownBlock = some r → B ≤ r := by
  intro r hr
  obtain ⟨_, h | ⟨g, cap, cur, h1, h2, _⟩⟩ := h
  · rw [h.1] at hr; cases hr
  · rw [h1] at hr
    injection hr with hr
    subst hr
    exact h2
theorem SlS.news {w : World} {ad : Addr} {n cap : Nat} {xs : List L8} (h : SlS w (.slice (some ad) n cap) xs) : n = xs.length ∧ ∀ j u, (xs.map stC)[j]? = some u → w.cell? (ad.add j) = some u := by
  obtain ⟨ao, cap', hv, h1, h2, h3, h4⟩ := h
  injection hv with e1 e2 e3
  refine ⟨e2, fun j u hj => ?_⟩
  have hjl : j < xs.length := by have := (List.getElem?_eq_some_iff.1 hj).1; simpa using this
  obtain ⟨b, o, e, c⟩ := h4 j hjl
  rw [← e1] at e
  injection e with e
  subst e
  rw [List.getElem?_map, List.getElem?_eq_getElem hjl] at hj
  injection hj with hj
  subst hj
  rw [show (⟨b, o, none⟩ : Addr).add j = ⟨b, o + j, none⟩ by simp [Addr.add]]
  exact c
theorem stC_one (xs : List L8) : ∀ u ∈ xs.map stC, u.oneCell' = true := by
  intro u hu
  obtain ⟨a, _, rfl⟩ := List.mem_map.1 hu
  rfl
theorem infoS : ∃ i, Tryz.prog.info? 9 = some i ∧ i.zero = some (.string ⟨#[]⟩) ∧ i.size = 1 ∧ i.bytes = 16 := info_parts (P := Tryz.prog) (e := 9) (by kernel_rfl)
set_option maxHeartbeats 1000000 in
theorem grow107 (n : Nat) (w : World) (hn : n ≤ 1073741824) :
    Calls Tryz.prog 107 #[.slice none 0 0, .int .i64 (n : Int)] w fun e w' => ∃ v, e = .returned v ∧ w'.ownsRow w.heap.size 9 1 v 0 [] ∧ Below w.heap.size w w' := by
  by_cases h0 : n = 0
  · subst h0
    go_enter Tryz.func107, Tryz.ntmps107
    go_wp2
    go_ret
    exact ⟨_, rfl, World.ownsRow_nil _ _ _ _, Below.refl _ _⟩
  obtain ⟨i0, hi, hz0, hz1, hz2⟩ := infoS
  have hold : (Builtin.firstCells i0.size 0 (.slice none 0 0)).run Tryz.prog w.drew = .ok ([] : List Value).toArray w.drew := run_firstCells_none w.drew i0.size 0 0 0
  have hrz : ∀ ty, (Builtin.append_ #[23, 3] ty #[.slice none 0 0, .int .i64 (n : Int)]).run Tryz.prog w =
      .ok (.slice (some ⟨w.heap.size, 0, none⟩) n (grownCap w n 0 9)) (w.drew.alloc (.cells (Builtin.zeroCells #[.string ⟨#[]⟩] n ++ Builtin.zeroCells #[.string ⟨#[]⟩] (grownCap w n 0 9 - n)) 9)) := fun ty => by
    have h := Lib.run_append_grow_zeros w 23 3 ty 9 i0 _ .i64 .i64 Tryz.underlying23 Tryz.underlying3 hi hz0 none 0 0 [] hold n (by omega) (by omega) (by omega) (by omega) (by rw [hz2]; omega)
      (by rw [Nat.zero_add, hz2]; exact growslice_fits (by omega) (by omega))
    simpa [Value.cells] using h
  have hGn : n ≤ grownCap w n 0 9 := grownCap_ge w _ _ _
  have hG63 := grownCap_le_maxLen w n 0 9 (by unfold maxLen; omega)
  obtain ⟨G, hG⟩ : ∃ G, G = grownCap w n 0 9 := ⟨_, rfl⟩
  rw [← hG] at hrz hGn hG63
  clear hold hG hi hz0 hz1 hz2
  have HG : Hid (∀ cs : Array Value, cs.size = G * 1 → (w.drew.alloc (.cells cs 9)).ownsRow w.heap.size 9 1 (.slice (some ⟨w.heap.size, 0, none⟩) 0 G) 0 []) := fun cs hcs => by
    refine ⟨by simp, Or.inr ⟨w.heap.size, G, cs, rfl, Nat.le_refl _, ?_, by omega, hG63, hcs, by simp⟩⟩
    show (w.heap.push _)[w.heap.size]? = _
    simp
  unfold maxLen at hG63
  go_enter Tryz.func107, Tryz.ntmps107
  go_wp2_with (at_builtin; refine Lib.wpList_append_run _ rfl _ _ _ _ rfl _ _ rfl rfl _ _ (hrz _) ?_)
  go_ret
  refine ⟨_, rfl, HG.out _ ?_, ((Below.refl _ _).drew).alloc (Nat.le_refl _) _⟩
  simp [size_zeroCells]
  omega
/-- The first lists, joined. -/
def joinS (f : Nat → List L8) : Nat → List L8
  | 0 => []
  | n + 1 => joinS f n ++ f n
theorem joinS_le (f : Nat → List L8) : ∀ (n m : Nat), n ≤ m → (joinS f n).length ≤ (joinS f m).length
  | n, 0, h => by obtain rfl : n = 0 := by omega
                  exact Nat.le_refl _
  | n, m + 1, h => by
    by_cases e : n = m + 1
    · subst e; exact Nat.le_refl _
    · have := joinS_le f n m (by omega)
      simp [joinS]; omega
set_option maxHeartbeats 1000000 in
theorem concat88 (b k : Nat) (vs : Nat → Value) (xss : Nat → List L8) (w : World) (hk : k ≤ 8) (hn : (joinS xss k).length ≤ 1073741824)
    (hv : ∀ i, i < k → w.cell? ⟨b, i, none⟩ = some (vs i) ∧ SlS w (vs i) (xss i)) :
    Calls Tryz.prog 88 #[.slice (some ⟨b, 0, none⟩) k k] w fun e w' => ∃ v, e = .returned v ∧ OwnS w.heap.size w' v (joinS xss k) ∧ Below w.heap.size w w' := by
  have HV : Hid _ := hv
  have HJ : Hid (∀ m, m ≤ k → (joinS xss m).length ≤ 1073741824) := fun m hm => Nat.le_trans (joinS_le xss m k hm) hn
  clear hv
  obtain ⟨i0, hi, hz0, hz1, hz2⟩ := infoS
  have hin : Hid (Tryz.prog.info? 9 = some i0 ∧ i0.zero = some (.string ⟨#[]⟩) ∧ i0.size = 1 ∧ i0.bytes = 16) := ⟨hi, hz0, hz1, hz2⟩
  clear hi hz0 hz1 hz2
  go_enter Tryz.func88, Tryz.ntmps88
  go_wp2
  go_loopw [3, 11] (fun s i wr => ∃ m : Nat, m ≤ k ∧ i = .int .i64 (m : Int) ∧ s = .int .i64 ((joinS xss m).length : Int) ∧ w = wr) (fun _ i _ => k - (intOf i).toNat)
  case atStart => exact ⟨0, Nat.zero_le _, rfl, rfl, rfl⟩
  case round =>
    obtain ⟨m, hm, rfl, rfl, rfl⟩ := hrel
    by_cases hmk : m < k
    · obtain ⟨cv, ao, cap, hvm, h1, h2, h3, h4⟩ := HV.out m hmk
      rw [hvm] at cv
      have l0 := HJ.out m hm
      have l1 := HJ.out (m + 1) hmk
      simp only [joinS, List.length_append] at l1
      clear hvm h1 h2 h3 h4
      go_wp2
      go_roundw
      case rel => exact ⟨m + 1, by omega, by go_num, by simp [joinS], by first | rfl | trivial⟩
      case measure => simp [intOf]; omega
    · obtain rfl : m = k := by omega
      go_wp2_with fail
      refine (grow107 _ _ (HJ.out m (Nat.le_refl _))).mono ?_
      rintro e w1 ⟨v, rfl, hown, hb⟩
      go_wp2
      go_loopw [6, 27] (fun s i wr => ∃ j : Nat, j ≤ m ∧ i = .int .i64 (j : Int) ∧ wr.ownsRow w.heap.size 9 1 s (joinS xss j).length ((joinS xss j).map stC) ∧ Below w.heap.size w wr) (fun _ i _ => m - (intOf i).toNat)
      case atStart => exact ⟨0, Nat.zero_le _, rfl, hown, hb⟩
      case round =>
        obtain ⟨j, hj, rfl, hown, hb⟩ := hrel
        by_cases hjk : j < m
        · obtain ⟨cv, hsl⟩ := HV.out j hjk
          have cv := keep_cell hb cv
          have hsl := hsl.keep hb
          obtain ⟨hi, hz0, hz1, hz2⟩ := hin.out
          have l1 := HJ.out (j + 1) hjk
          simp only [joinS, List.length_append] at l1
          have hsz := hb.size
          obtain ⟨ao, cap, hvj, h1, h2, h3, h4⟩ := id hsl
          rw [hvj] at cv hsl
          clear hvj h4
          cases ao with
          | none =>
            obtain rfl := h3 rfl
            have hz : xss j = [] := List.eq_nil_of_length_eq_zero (by omega)
            rw [hz] at cv
            clear hsl h1 h2 h3
            go_wp2_with (at_builtin; refine wpList_append_own_none rfl (.tmp 31) (.tmp 32) 23 rfl w.heap.size 9 i0 1 Tryz.underlying23 hi _ _ _ rfl hown rfl ?_)
            go_roundw
            case rel => exact ⟨j + 1, by omega, by go_num, by simp only [joinS, hz, List.append_nil]; exact hown, hb⟩
            case measure => simp [intOf]; omega
          | some ad =>
            have hcs := (SlS.news hsl).2
            have HC : Hid _ := hcs
            clear hcs hsl h3 h1 h2
            go_wp2_with (at_builtin; refine wpList_append_own _ rfl (.tmp 31) (.tmp 32) 23 rfl w.heap.size 9 i0 _ 1 16 Tryz.underlying23 hi hz0 hz1 hz2 rfl (by decide) _ _ _ rfl hown ad (xss j).length cap ((xss j).map stC) rfl (by simp) HC.out (stC_one _) (by unfold maxLen; omega) (by omega) hsz ?_; intro v' w2 hown' hgrow _)
            have R : w2.ownsRow w.heap.size 9 1 v' (joinS xss (j + 1)).length ((joinS xss (j + 1)).map stC) := by
              simp only [joinS, List.map_append, List.length_append]; exact hown'
            have R2 : Below w.heap.size w w2 := hb.grown hgrow hsz (OwnS.ge (xs := joinS xss j) hown)
            clear hown hown' hgrow HC hb
            go_wp2
            go_roundw
            case rel => exact ⟨j + 1, by omega, by go_num, R, R2⟩
            case measure => simp [intOf]; omega
        · obtain rfl : j = m := by omega
          go_wp2
          go_ret
          exact ⟨_, rfl, hown, hb⟩
end Go.Proofs.YtgdflobcbhnimaaGreat
