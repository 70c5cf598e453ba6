/- What is proved here: blocks of two cells that a statement lays, among rows of one's own. -/
import Derived.Test.YtkpmkgkfpikpfaaGreatCopied
import Derived.Lib.OwnKind
import Derived.OneCell
import Derived.Test.YtkpmkgkfpikpfaaGreatGplain
import Derived.Test.YtkpmkgkfpikpfaaGreatHeld
import Derived.Laws.OwnMore
import Derived.LoopTactic
import Derived.Test.YtkpmkgkfpikpfaaGreatGdoc
import Derived.Test.YtkpmkgkfpikpfaaGreatBackPlain
import Derived.Laws.StructEq
import Derived.Test.YtkpmkgkfpikpfaaGreatGmap2
import Derived.Test.YtkpmkgkfpikpfaaGreatPlain
namespace Go.Proofs.YtkpmkgkfpikpfaaGreat
open Go.RowKit
set_option maxRecDepth 100000
set_option linter.unusedVariables false
def Blk (w : World) (b : Nat) (x y : Value) : Prop := w.heap[b]? = some (.cells #[x, y] 25 (0, 0))
set_option linter.unusedSimpArgs false
theorem by_snoc (Q : Nat → Bool) (xs : List (Nat × Int)) (m : Nat) (h : m < xs.length) : by_ Q (xs.take (m + 1)) = by_ Q (xs.take m) ++ (if Q xs[m].1 = true then [xs[m]] else []) := by
 rw [by_, List.take_add_one, List.getElem?_eq_getElem h, List.filter_append]
 cases c : Q xs[m].1 <;> simp [by_, c]
def FarI (n0 : Nat) (W wr : World) (s t : Value) (A C : List (Nat × Int)) : Prop := Blk wr (n0 + 2) s t ∧ OwnH (n0 + 3) wr s t A C ∧ Below (n0 + 2) W wr ∧ n0 + 3 ≤ wr.heap.size
def sameG (ms cs ps : List (Nat × Int)) (bs : Nat) (ms' cs' ps' : List (Nat × Int)) (bs' : Nat) : Bool := decide (ms = ms' ∧ cs = cs' ∧ bs = bs' ∧ ps = ps')
set_option maxHeartbeats 4000000 in
theorem rsame13 (vm vc vp vm' vc' vp' : Value) (ms cs ps ms' cs' ps' : List (Nat × Int)) (bs bs' : Nat) (w : World) (hsl : SlG w vm vc vp ms cs ps) (hsl' : SlG w vm' vc' vp' ms' cs' ps') :
  Calls Tryz.prog 38 #[.agg #[vm, vc, .int .u64 (bs : Int), vp], .agg #[vm', vc', .int .u64 (bs' : Int), vp']] w fun e w' => e = .returned (.bool (sameG ms cs ps bs ms' cs' ps' bs')) ∧ Below w.heap.size w w' := by
 obtain ⟨X, hX, hx, hxs, c0, c1, c2, c3, _⟩ := box4 w vm vc (.int .u64 (bs : Int)) vp 29
 obtain ⟨W, hW, hb, hsz, a0, a1, a2, a3, _⟩ := box4 X vm' vc' (.int .u64 (bs' : Int)) vp' 29
 rw [hxs] at a0 a1 a2 a3
 have c0 := keep_cell hb c0
 have c1 := keep_cell hb c1
 have c2 := keep_cell hb c2
 have c3 := keep_cell hb c3
 have hb := below_tr hx hb
 have KS : Hid (∀ w', Below W.heap.size W w' → Calls Tryz.prog 65 #[.agg #[vm, vc], .agg #[vm', vc']] w' fun e w'' => e = .returned (.bool (decide (ms = ms' ∧ cs = cs'))) ∧ Below w'.heap.size w' w'') := fun w' hb' => rsame12 vm vc vm' vc' ms cs ms' cs' w' (hsl.1.keep (below_tr hb hb')) (hsl.2.1.keep (below_tr hb hb')) (hsl'.1.keep (below_tr hb hb')) (hsl'.2.1.keep (below_tr hb hb'))
 obtain ⟨am, nm, pm, ac, nc, pc, _, _, _, rfl, rfl, -⟩ := hsl.shape
 obtain ⟨am', nm', pm', ac', nc', pc', _, _, _, rfl, rfl, -⟩ := hsl'.shape
 obtain ⟨ap, cp, rfl, x1, x2, _, x4⟩ := hsl.2.2.keep hb
 obtain ⟨ap', cp', rfl, u1, u2, _, u4⟩ := hsl'.2.2.keep hb
 have HXm : Hid _ := x4
 have HYm : Hid _ := u4
 clear x4 u4 hsl hsl'
 by_cases hh : ms = ms' ∧ cs = cs'
 case neg =>
  have HR : Hid (sameG ms cs ps bs ms' cs' ps' bs' = false) := by
   have h : ¬ (ms = ms' ∧ cs = cs' ∧ bs = bs' ∧ ps = ps') := fun ⟨q1, q2, _⟩ => hh ⟨q1, q2⟩
   exact (decide_eq_false h : sameG _ _ _ _ _ _ _ _ = false)
  rw [decide_eq_false hh] at KS
  go_enter Tryz.func38, Tryz.ntmps38
  go_wp2_with fail
  refine (KS.out W (Below.refl _ _)).mono ?_
  rintro e w1 ⟨rfl, hb1⟩
  go_wp2
  go_ret
  exact ⟨by rw [HR.out]; rfl, below_tr hb hb1⟩
 rw [decide_eq_true hh] at KS
 have HH : Hid (ms = ms' ∧ cs = cs') := hh
 clear hh
 by_cases hbb : bs = bs'
 case neg =>
  have HR : Hid (sameG ms cs ps bs ms' cs' ps' bs' = false) := by
   have h : ¬ (ms = ms' ∧ cs = cs' ∧ bs = bs' ∧ ps = ps') := fun ⟨_, _, q1, _⟩ => hbb q1
   exact (decide_eq_false h : sameG _ _ _ _ _ _ _ _ = false)
  have hbn : ((bs : Int) != (bs' : Int)) = true := by simp; omega
  go_enter Tryz.func38, Tryz.ntmps38
  go_wp2_with fail
  refine (KS.out W (Below.refl _ _)).mono ?_
  rintro e w1 ⟨rfl, hb1⟩
  have c2 := keep_cell hb1 c2
  have a2 := keep_cell hb1 a2
  go_wp2
  go_ret
  exact ⟨by rw [HR.out]; rfl, below_tr hb hb1⟩
 subst hbb
 by_cases hl1 : ps.length = ps'.length
 case neg =>
  have HR : Hid (sameG ms cs ps bs ms' cs' ps' bs = false) := by
   have h : ¬ (ms = ms' ∧ cs = cs' ∧ bs = bs ∧ ps = ps') := fun ⟨_, _, _, e⟩ => by subst e; exact hl1 rfl
   exact (decide_eq_false h : sameG _ _ _ _ _ _ _ _ = false)
  have hl' : ((ps.length : Int) != (ps'.length : Int)) = true := by simp; omega
  go_enter Tryz.func38, Tryz.ntmps38
  go_wp2_with fail
  refine (KS.out W (Below.refl _ _)).mono ?_
  rintro e w1 ⟨rfl, hb1⟩
  have c2 := keep_cell hb1 c2
  have a2 := keep_cell hb1 a2
  have c3 := keep_cell hb1 c3
  have a3 := keep_cell hb1 a3
  go_wp2
  go_ret
  exact ⟨by rw [HR.out]; rfl, below_tr hb hb1⟩
 rw [← hl1] at u1 a3 hW ⊢
 have HLm : Hid (ps.length = ps'.length) := hl1
 clear hl1
 go_enter Tryz.func38, Tryz.ntmps38
 go_wp2_with fail
 refine (KS.out W (Below.refl _ _)).mono ?_
 rintro e w1 ⟨rfl, hb1⟩
 have c2 := keep_cell hb1 c2
 have a2 := keep_cell hb1 a2
 have c3 := keep_cell hb1 c3
 have a3 := keep_cell hb1 a3
 have hb := below_tr hb hb1
 have HXm : Hid (∀ i (h : i < ps.length), ∃ b o, ap = some ⟨b, o, none⟩ ∧ w1.cell? ⟨b, o + i * 2, none⟩ = some (.int .u32 (ps[i].1 : Int)) ∧ w1.cell? ⟨b, o + i * 2 + 1, none⟩ = some (.int .i64 ps[i].2)) := fun i hi => by
  obtain ⟨b, o, e, x, y⟩ := HXm.out i hi
  exact ⟨b, o, e, keep_cell hb1 x, keep_cell hb1 y⟩
 have HYm : Hid (∀ i (h : i < ps'.length), ∃ b o, ap' = some ⟨b, o, none⟩ ∧ w1.cell? ⟨b, o + i * 2, none⟩ = some (.int .u32 (ps'[i].1 : Int)) ∧ w1.cell? ⟨b, o + i * 2 + 1, none⟩ = some (.int .i64 ps'[i].2)) := fun i hi => by
  obtain ⟨b, o, e, x, y⟩ := HYm.out i hi
  exact ⟨b, o, e, keep_cell hb1 x, keep_cell hb1 y⟩
 clear hb1 KS
 go_wp2
 go_loopw [5] (fun i wr => ∃ k : Nat, k ≤ ps.length ∧ i = .int .i64 (k : Int) ∧ ps.take k = ps'.take k ∧ Below w1.heap.size w1 wr) (fun i _ => ps.length - (intOf i).toNat)
 case atStart => exact ⟨0, Nat.zero_le _, rfl, rfl, Below.refl _ _⟩
 case round =>
  obtain ⟨k, hk, rfl, htk, hbr⟩ := hrel
  have HT : Hid (ps.take k = ps'.take k) := htk
  clear htk
  have hbw := below_tr hb hbr
  have z2 := keep_cell hbr c3
  have z3 := keep_cell hbr a3
  by_cases hkl : k < ps.length
  ·have hkl' : k < ps'.length := by rw [← HLm.out]; exact hkl
   obtain ⟨b, o, rfl, d0, d1⟩ := HXm.out k hkl
   obtain ⟨b', o', rfl, d0', d1'⟩ := HYm.out k hkl'
   have e0 := keep_cell hbr d0
   have e1 := keep_cell hbr d1
   have e0' := keep_cell hbr d0'
   have e1' := keep_cell hbr d1'
   clear d0 d1 d0' d1'
   by_cases he : ps[k] = ps'[k]'(by rw [← HLm.out]; exact hkl)
   ·have HR : Hid (ps.take (k + 1) = ps'.take (k + 1)) := by
     rw [List.take_add_one, List.take_add_one, HT.out, List.getElem?_eq_getElem hkl, List.getElem?_eq_getElem (by rw [← HLm.out]; exact hkl), he]; rfl
    rw [← he] at e0' e1'
    obtain ⟨p, hp⟩ : ∃ p, p = ps[k].1 := ⟨_, rfl⟩
    obtain ⟨r, hr⟩ : ∃ r, r = ps[k].2 := ⟨_, rfl⟩
    rw [← hp] at e0 e0'
    rw [← hr] at e1 e1'
    clear he hp hr
    go_wp2
    go_region_held3 (fun w' => Below w.heap.size w w' ∧ w'.cell? ⟨w.heap.size, 3, none⟩ = some (.slice (some ⟨b, o, none⟩) ps.length cp) ∧ w'.cell? ⟨w.heap.size + 1, 3, none⟩ = some (.slice (some ⟨b', o', none⟩) ps.length cp') ∧ w'.cell? ⟨b, o + k * 2, none⟩ = some (.int .u32 (p : Int)) ∧ w'.cell? ⟨b, o + k * 2 + 1, none⟩ = some (.int .i64 r) ∧ w'.cell? ⟨b', o' + k * 2, none⟩ = some (.int .u32 (p : Int)) ∧ w'.cell? ⟨b', o' + k * 2 + 1, none⟩ = some (.int .i64 r)) (refine ⟨?_, ?_, ?_, ?_, ?_, ?_, ?_⟩ <;> first | (with_reducible refine Free.cell ?_; (repeat (first | with_reducible assumption | with_reducible refine Free.drew ?_ | with_reducible refine Free.alloc ?_ _ | with_reducible refine Free.set ?_ _ _ | with_reducible refine Free.keep (by with_reducible assumption) ?_)); done) | (with_reducible refine Free.frozen ?_; (repeat (first | with_reducible assumption | with_reducible refine Free.drew ?_ | with_reducible refine Free.alloc ?_ _ | with_reducible refine Free.set ?_ _ _ | with_reducible refine Free.keep (by with_reducible assumption) ?_)); done) | ((repeat (first | with_reducible assumption | with_reducible exact Below.refl _ _ | with_reducible refine Below.drew ?_ | with_reducible refine below_alloc ?_ _ | (with_reducible refine below_set ?_ ?_ _; rotate_left; focus (first | (simp; done) | (simp; omega))) | with_reducible refine below_tr ?_ (by with_reducible assumption))); done) | ((repeat (first | with_reducible assumption | with_reducible refine cell_drew ?_ | (with_reducible refine cell_newA _ _ _ _ _ _ ?_ rfl; (simp [*]; done)) | with_reducible refine cell_old ?_ _ | (with_reducible refine cell_far ?_ ?_ _; rotate_left; focus (first | (simp; done) | (simp; omega))) | with_reducible refine keep_cell (by with_reducible assumption) ?_)); done)) (fail)
    all_goals go_wp2
    go_roundw
    case rel => exact ⟨k + 1, by omega, by go_num, HR.out, (by (repeat (first | with_reducible assumption | with_reducible exact Below.refl _ _ | with_reducible refine Below.drew ?_ | with_reducible refine below_alloc ?_ _ | (with_reducible refine below_set ?_ ?_ _; rotate_left; focus (first | (simp; done) | (simp; omega))) | with_reducible refine below_tr ?_ (by with_reducible assumption))))⟩
    case measure => simp [intOf]; omega
   ·have HR : Hid (sameG ms cs ps bs ms' cs' ps' bs = false) := by
     have h : ¬ (ms = ms' ∧ cs = cs' ∧ bs = bs ∧ ps = ps') := by rintro ⟨_, _, _, q2⟩; subst q2; exact he rfl
     exact (decide_eq_false h : sameG _ _ _ _ _ _ _ _ = false)
    obtain ⟨p, hp⟩ : ∃ p, p = ps[k].1 := ⟨_, rfl⟩
    obtain ⟨r, hr⟩ : ∃ r, r = ps[k].2 := ⟨_, rfl⟩
    obtain ⟨p', hp'⟩ : ∃ p, p = (ps'[k]'(by rw [← HLm.out]; exact hkl)).1 := ⟨_, rfl⟩
    obtain ⟨r', hr'⟩ : ∃ r, r = (ps'[k]'(by rw [← HLm.out]; exact hkl)).2 := ⟨_, rfl⟩
    have hne : p = p' → ¬ r = r' := by
     rintro h1 h2
     exact he (Prod.ext (by rw [← hp, ← hp', h1]) (by rw [← hr, ← hr', h2]))
    rw [← hp] at e0
    rw [← hr] at e1
    rw [← hp'] at e0'
    rw [← hr'] at e1'
    clear he hp hr hp' hr'
    rcases (show ¬ ((p : Int) = (p' : Int)) ∨ (p = p' ∧ ¬ r = r') by
     by_cases e : p = p'
     ·exact Or.inr ⟨e, hne e⟩
     ·exact Or.inl (by omega)) with hq | ⟨rfl, hq⟩
    ·clear hne
     go_wp2
     go_region_held3 (fun w' => Below w.heap.size w w' ∧ w'.cell? ⟨w.heap.size, 3, none⟩ = some (.slice (some ⟨b, o, none⟩) ps.length cp) ∧ w'.cell? ⟨w.heap.size + 1, 3, none⟩ = some (.slice (some ⟨b', o', none⟩) ps.length cp') ∧ w'.cell? ⟨b, o + k * 2, none⟩ = some (.int .u32 (p : Int)) ∧ w'.cell? ⟨b, o + k * 2 + 1, none⟩ = some (.int .i64 r) ∧ w'.cell? ⟨b', o' + k * 2, none⟩ = some (.int .u32 (p' : Int)) ∧ w'.cell? ⟨b', o' + k * 2 + 1, none⟩ = some (.int .i64 r')) (refine ⟨?_, ?_, ?_, ?_, ?_, ?_, ?_⟩ <;> first | (with_reducible refine Free.cell ?_; (repeat (first | with_reducible assumption | with_reducible refine Free.drew ?_ | with_reducible refine Free.alloc ?_ _ | with_reducible refine Free.set ?_ _ _ | with_reducible refine Free.keep (by with_reducible assumption) ?_)); done) | (with_reducible refine Free.frozen ?_; (repeat (first | with_reducible assumption | with_reducible refine Free.drew ?_ | with_reducible refine Free.alloc ?_ _ | with_reducible refine Free.set ?_ _ _ | with_reducible refine Free.keep (by with_reducible assumption) ?_)); done) | ((repeat (first | with_reducible assumption | with_reducible exact Below.refl _ _ | with_reducible refine Below.drew ?_ | with_reducible refine below_alloc ?_ _ | (with_reducible refine below_set ?_ ?_ _; rotate_left; focus (first | (simp; done) | (simp; omega))) | with_reducible refine below_tr ?_ (by with_reducible assumption))); done) | ((repeat (first | with_reducible assumption | with_reducible refine cell_drew ?_ | (with_reducible refine cell_newA _ _ _ _ _ _ ?_ rfl; (simp [*]; done)) | with_reducible refine cell_old ?_ _ | (with_reducible refine cell_far ?_ ?_ _; rotate_left; focus (first | (simp; done) | (simp; omega))) | with_reducible refine keep_cell (by with_reducible assumption) ?_)); done)) (fail)
     all_goals go_wp2
     all_goals go_ret
     all_goals exact ⟨by rw [HR.out]; rfl, (by (repeat (first | with_reducible assumption | with_reducible exact Below.refl _ _ | with_reducible refine Below.drew ?_ | with_reducible refine below_alloc ?_ _ | (with_reducible refine below_set ?_ ?_ _; rotate_left; focus (first | (simp; done) | (simp; omega))) | with_reducible refine below_tr ?_ (by with_reducible assumption))))⟩
    ·clear hne
     go_wp2
     go_region_held3 (fun w' => Below w.heap.size w w' ∧ w'.cell? ⟨w.heap.size, 3, none⟩ = some (.slice (some ⟨b, o, none⟩) ps.length cp) ∧ w'.cell? ⟨w.heap.size + 1, 3, none⟩ = some (.slice (some ⟨b', o', none⟩) ps.length cp') ∧ w'.cell? ⟨b, o + k * 2, none⟩ = some (.int .u32 (p : Int)) ∧ w'.cell? ⟨b, o + k * 2 + 1, none⟩ = some (.int .i64 r) ∧ w'.cell? ⟨b', o' + k * 2, none⟩ = some (.int .u32 (p : Int)) ∧ w'.cell? ⟨b', o' + k * 2 + 1, none⟩ = some (.int .i64 r')) (refine ⟨?_, ?_, ?_, ?_, ?_, ?_, ?_⟩ <;> first | (with_reducible refine Free.cell ?_; (repeat (first | with_reducible assumption | with_reducible refine Free.drew ?_ | with_reducible refine Free.alloc ?_ _ | with_reducible refine Free.set ?_ _ _ | with_reducible refine Free.keep (by with_reducible assumption) ?_)); done) | (with_reducible refine Free.frozen ?_; (repeat (first | with_reducible assumption | with_reducible refine Free.drew ?_ | with_reducible refine Free.alloc ?_ _ | with_reducible refine Free.set ?_ _ _ | with_reducible refine Free.keep (by with_reducible assumption) ?_)); done) | ((repeat (first | with_reducible assumption | with_reducible exact Below.refl _ _ | with_reducible refine Below.drew ?_ | with_reducible refine below_alloc ?_ _ | (with_reducible refine below_set ?_ ?_ _; rotate_left; focus (first | (simp; done) | (simp; omega))) | with_reducible refine below_tr ?_ (by with_reducible assumption))); done) | ((repeat (first | with_reducible assumption | with_reducible refine cell_drew ?_ | (with_reducible refine cell_newA _ _ _ _ _ _ ?_ rfl; (simp [*]; done)) | with_reducible refine cell_old ?_ _ | (with_reducible refine cell_far ?_ ?_ _; rotate_left; focus (first | (simp; done) | (simp; omega))) | with_reducible refine keep_cell (by with_reducible assumption) ?_)); done)) (fail)
     all_goals go_wp2
     all_goals go_ret
     all_goals exact ⟨by rw [HR.out]; rfl, (by (repeat (first | with_reducible assumption | with_reducible exact Below.refl _ _ | with_reducible refine Below.drew ?_ | with_reducible refine below_alloc ?_ _ | (with_reducible refine below_set ?_ ?_ _; rotate_left; focus (first | (simp; done) | (simp; omega))) | with_reducible refine below_tr ?_ (by with_reducible assumption))))⟩
  ·have HR : Hid (sameG ms cs ps bs ms' cs' ps' bs = true) := by
    have := HT.out
    rw [List.take_of_length_le (by omega), List.take_of_length_le (by rw [← HLm.out]; omega)] at this
    exact (decide_eq_true ⟨HH.out.1, HH.out.2, (rfl : bs = bs), this⟩ : sameG _ _ _ _ _ _ _ _ = true)
   go_wp2
   go_ret
   exact ⟨by rw [HR.out]; rfl, hbw⟩
theorem new_srt {ps : List (Nat × Int)} {first n last : Nat} {prot : Int} (hs : Srt ps) (hla : last = first + n - 1) (hn : n ≠ 0) : Srt (lo ps first ++ added first prot n ++ hi ps last) := by
 refine srt_join (srt_join (lo_srt hs _) (added_srt _ _ _) (fun x hx y hy => ?_)) (hi_srt hs _) (fun x hx y hy => ?_)
 ·obtain ⟨i, _, rfl⟩ := added_mem.1 hy
  have := (lo_mem.1 hx).2
  simp; omega
 ·have h2 := (hi_mem.1 hy).2
  rcases List.mem_append.1 hx with g | g
  ·have := (lo_mem.1 g).2
   omega
  ·obtain ⟨i, _, rfl⟩ := added_mem.1 g
   simp; omega
theorem new_len {ps : List (Nat × Int)} {first n last : Nat} {prot : Int} (hs : Srt ps) (hab : first ≤ last) : (lo ps first ++ added first prot n ++ hi ps last).length = ps.length - (mid ps first last).length + n := by
 have l := parts_len ps hs first last hab
 simp only [List.length_append, added_len]
 omega
theorem cut_sub {xs : List (Nat × Int)} (hs : Srt xs) {a b : Nat} (hab : a ≤ b) : (lo xs a ++ hi xs b).Sublist xs := by
 conv => rhs; rw [parts xs hs a b hab]
 exact List.Sublist.append (List.sublist_append_left _ _) (List.Sublist.refl _)
theorem rF_sub {ps : List (Nat × Int)} {bs : Nat} : ∀ (ks : List K4) (h : List (Nat × Int) × List (Nat × Int)), Srt h.1 → Srt h.2 → (rF ps bs h ks).1.Sublist h.1 ∧ (rF ps bs h ks).2.Sublist h.2
 | [], h, _, _ => ⟨List.Sublist.refl _, List.Sublist.refl _⟩
 | k :: ks, h, h1, h2 => by
  have ih := rF_sub (ps := ps) (bs := bs) ks (stepR ps bs h k) (stepR_srt k h1 h2).1 (stepR_srt k h1 h2).2
  have st : (stepR ps bs h k).1.Sublist h.1 ∧ (stepR ps bs h k).2.Sublist h.2 := by
   unfold stepR
   split
   ·exact ⟨List.Sublist.refl _, List.Sublist.refl _⟩
   ·exact ⟨cut_sub h1 (by omega), cut_sub h2 (by omega)⟩
  exact ⟨ih.1.trans st.1, ih.2.trans st.2⟩
theorem clearN_key {cs : List (Nat × Int)} {a n : Nat} {y : Nat × Int} (h : y ∈ clearN cs a n) : ∃ x ∈ cs, y.1 = x.1 := by
 unfold clearN at h
 split at h
 ·exact ⟨y, h, rfl⟩
 ·rcases List.mem_append.1 h with g | g
  ·rcases List.mem_append.1 g with g | g
   ·exact ⟨y, (lo_mem.1 g).1, rfl⟩
   ·obtain ⟨x, hx, e, _⟩ := clears_mem g
    exact ⟨x, (mid_mem.1 hx).1, by rw [e]⟩
  ·exact ⟨y, (hi_mem.1 g).1, rfl⟩
theorem protN_none' {ps : List (Nat × Int)} {q : Nat} (h : ∀ x ∈ ps, x.1 ≠ q) : protN ps q = -1 := by rw [protN, find_none h]
theorem protN_ge {ps : List (Nat × Int)} {q : Nat} (h : 0 ≤ protN ps q) : ∃ x ∈ ps, x.1 = q := by
 rcases Classical.em (∃ x ∈ ps, x.1 = q) with g | g
 ·exact g
 ·rw [protN_none' (fun x hx e => g ⟨x, hx, e⟩)] at h
  omega
theorem protN_eq {A B : List (Nat × Int)} (hA : Srt A) (hB : Srt B) {q : Nat} (h : ∀ x, x.1 = q → (x ∈ A ↔ x ∈ B)) : protN A q = protN B q := by
 rcases Classical.em (∃ x ∈ A, x.1 = q) with ⟨x, hx, e⟩ | g
 ·have h1 := protN_in hA hx
  have h2 := protN_in hB ((h x e).1 hx)
  rw [e] at h1 h2
  rw [h1, h2]
 ·rw [protN_none' (fun x hx e => g ⟨x, hx, e⟩), protN_none' (fun x hx e => g ⟨x, (h x e).2 hx, e⟩)]
theorem mem_new {ps : List (Nat × Int)} {first n last : Nat} {prot : Int} {x : Nat × Int} : x ∈ lo ps first ++ added first prot n ++ hi ps last ↔ (x ∈ ps ∧ (x.1 < first ∨ last < x.1)) ∨ ∃ i, i < n ∧ x = (first + i, prot) := by
 simp only [List.mem_append, lo_mem, hi_mem, added_mem]
 constructor
 ·rintro ((h | h) | h)
  ·exact Or.inl ⟨h.1, Or.inl h.2⟩
  ·exact Or.inr h
  ·exact Or.inl ⟨h.1, Or.inr h.2⟩
 ·rintro (⟨h, g | g⟩ | h)
  ·exact Or.inl (Or.inl ⟨h, g⟩)
  ·exact Or.inr ⟨h, g⟩
  ·exact Or.inl (Or.inr h)
theorem mem_cut {ps : List (Nat × Int)} {first last : Nat} {x : Nat × Int} : x ∈ lo ps first ++ hi ps last ↔ x ∈ ps ∧ (x.1 < first ∨ last < x.1) := by
 simp only [List.mem_append, lo_mem, hi_mem]
 constructor
 ·rintro (h | h)
  ·exact ⟨h.1, Or.inl h.2⟩
  ·exact ⟨h.1, Or.inr h.2⟩
 ·rintro ⟨h, g | g⟩
  ·exact Or.inl ⟨h, g⟩
  ·exact Or.inr ⟨h, g⟩
theorem prot_map_in {ps : List (Nat × Int)} {first n last q : Nat} {prot : Int} (hs : Srt ps) (hla : last = first + n - 1) (hn : n ≠ 0) (h1 : first ≤ q) (h2 : q < first + n) : protN (lo ps first ++ added first prot n ++ hi ps last) q = prot :=
 protN_in (x := (q, prot)) (new_srt hs hla hn) (mem_new.2 (Or.inr ⟨q - first, by omega, by rw [show first + (q - first) = q by omega]⟩))
theorem prot_map_out {ps : List (Nat × Int)} {first n last q : Nat} {prot : Int} (hs : Srt ps) (hla : last = first + n - 1) (hn : n ≠ 0) (h : q < first ∨ first + n ≤ q) : protN (lo ps first ++ added first prot n ++ hi ps last) q = protN ps q := by
 refine protN_eq (new_srt hs hla hn) hs (fun x e => ?_)
 rw [mem_new]
 constructor
 ·rintro (h | ⟨i, hi, h⟩)
  ·exact h.1
  ·rw [h] at e; simp only at e; omega
 ·intro h
  exact Or.inl ⟨h, by omega⟩
theorem prot_cut_out {ps : List (Nat × Int)} {first n last q : Nat} (hs : Srt ps) (hla : last = first + n - 1) (hn : n ≠ 0) (h : q < first ∨ first + n ≤ q) : protN (lo ps first ++ hi ps last) q = protN ps q := by
 refine protN_eq (cut_srt hs _ _ (by omega)) hs (fun x e => ?_)
 rw [mem_cut]
 exact ⟨fun h => h.1, fun h => ⟨h, by omega⟩⟩
theorem words_sub {A B : List (Nat × Int)} (hB : Words B) (h : A.Sublist B) : Words A := fun x hx => hB x (h.subset hx)
theorem stepB_mem {ps ms : List (Nat × Int)} {bs : Nat} {k : K4} {x : Nat × Int} (h : x ∈ stepB ps bs ms k) : x ∈ ms ∨ (usedN ps k.val = false ∧ x = (hp bs k.val, 3)) := by
 unfold stepB at h
 cases c : usedN ps k.val with
 | true => rw [c] at h; exact Or.inl h
 | false =>
  rw [c] at h
  simp only [Bool.false_eq_true, if_false, List.mem_append, lo_mem, hi_mem, added_mem] at h
  rcases h with (h | ⟨i, hi, h⟩) | h
  ·exact Or.inl h.1
  ·obtain rfl : i = 0 := by omega
   exact Or.inr ⟨rfl, h⟩
  ·exact Or.inl h.1
theorem msF_mem {ps : List (Nat × Int)} {bs : Nat} {x : Nat × Int} : ∀ (ks : List K4) (ms : List (Nat × Int)), x ∈ msF ps bs ms ks → x ∈ ms ∨ ∃ k ∈ ks, usedN ps k.val = false ∧ x = (hp bs k.val, 3)
 | [], ms, h => Or.inl h
 | k :: ks, ms, h => by
  rcases msF_mem ks (stepB ps bs ms k) h with g | ⟨k', hk', g⟩
  ·rcases stepB_mem g with g | g
   ·exact Or.inl g
   ·exact Or.inr ⟨k, List.mem_cons_self, g⟩
  ·exact Or.inr ⟨k', List.mem_cons_of_mem _ hk', g⟩
theorem stepB_has {ps ms : List (Nat × Int)} {bs : Nat} {p : Nat} (k : K4) (h : (p, (3 : Int)) ∈ ms) : (p, (3 : Int)) ∈ stepB ps bs ms k := by
 unfold stepB
 split
 ·exact h
 ·simp only [List.mem_append, lo_mem, hi_mem, added_mem]
  rcases Nat.lt_trichotomy p (hp bs k.val) with c | c | c
  ·exact Or.inl (Or.inl ⟨h, c⟩)
  ·exact Or.inl (Or.inr ⟨0, by omega, by rw [c]; rfl⟩)
  ·exact Or.inr ⟨h, by omega⟩
theorem msF_has {ps : List (Nat × Int)} {bs p : Nat} : ∀ (ks : List K4) (ms : List (Nat × Int)), (p, (3 : Int)) ∈ ms → (p, (3 : Int)) ∈ msF ps bs ms ks
 | [], _, h => h
 | k :: ks, ms, h => msF_has ks (stepB ps bs ms k) (stepB_has k h)
theorem msF_new {ps : List (Nat × Int)} {bs : Nat} : ∀ (ks : List K4) (ms : List (Nat × Int)) (k : K4), k ∈ ks → usedN ps k.val = false → (hp bs k.val, (3 : Int)) ∈ msF ps bs ms ks
 | k' :: ks, ms, k, hk, hu => by
  rcases List.mem_cons.1 hk with e | e
  ·subst e
   refine msF_has ks _ ?_
   unfold stepB
   rw [hu]
   simp only [Bool.false_eq_true, if_false, List.mem_append, added_mem]
   exact Or.inl (Or.inr ⟨0, by omega, rfl⟩)
  ·exact msF_new ks (stepB ps bs ms k') k e hu
theorem ksM_has (ps : List (Nat × Int)) : ∀ m j, j < m → toK ((ps.getD j (0, 0)).1 / 4) ∈ ksM ps m
 | m + 1, j, h => by
  unfold ksM
  by_cases e : j < m
  ·exact List.mem_append_left _ (ksM_has ps m j e)
  ·obtain rfl : j = m := by omega
   split
   ·rename_i c
    rw [← c.2]
    exact List.mem_append_left _ (ksM_has ps j (j - 1) (by omega))
   ·exact List.mem_append_right _ (by simp)
theorem ksM_of {ps : List (Nat × Int)} {x : Nat × Int} (h : x ∈ ps) : toK (x.1 / 4) ∈ ksM ps ps.length := by
 obtain ⟨j, hj, e⟩ := List.getElem_of_mem h
 have := ksM_has ps ps.length j hj
 rwa [getD_at hj, e] at this
theorem used_of {ps : List (Nat × Int)} {x : Nat × Int} (h : x ∈ ps) : usedN ps (x.1 / 4) = true := List.any_eq_true.2 ⟨x, h, by simp⟩
theorem of_used {ps : List (Nat × Int)} {k : Nat} (h : usedN ps k = true) : ∃ x ∈ ps, x.1 / 4 = k := by
 obtain ⟨x, hx, e⟩ := List.any_eq_true.1 h
 exact ⟨x, hx, by simpa using e⟩
theorem by_in {Q : Nat → Bool} {A B : List (Nat × Int)} (h : by_ Q A = by_ Q B) {y : Nat × Int} (hy : y ∈ B) (hq : Q y.1 = true) : y ∈ A := by
 have : y ∈ by_ Q A := by rw [h]; exact List.mem_filter.2 ⟨hy, hq⟩
 exact (List.mem_filter.1 this).1
theorem hp_inj {bs k k' : Nat} (h : hp bs k = hp bs k') : k = k' := by unfold hp at h; omega
theorem fitG_map {ms cs ps : List (Nat × Int)} {bs first n : Nat} {prot : Int} (h : FitG ms cs ps bs) (hw : Words cs) (hrc : ∀ y ∈ cs, y.1 < 18446744073709551616) (hn : n ≠ 0) (hb : first + n ≤ 1048576) (hp1 : protOk prot = true) (hroom : ps.length - (mid ps first (first + n - 1)).length + n ≤ 256) (hl : (msF ps bs ms (ksM (added first prot n) n)).length ≤ 64) :
  FitG (msF ps bs ms (ksM (added first prot n) n)) (clearN cs (bs + first * 4096) (n * 4096)) (lo ps first ++ added first prot n ++ hi ps (first + n - 1)) bs := by
 have hle := h.le
 have hal := h.al
 have hF := fit_maps (prot := prot) h.reach h.le h.fq hb hl
 have hpr : 0 ≤ prot ∧ prot ≤ 7 := by simpa [protOk] using hp1
 have hlen : (added first prot n).length = n := by simp [added]
 have hkey : ∀ x ∈ lo ps first ++ added first prot n ++ hi ps (first + n - 1), x.1 < 1048576 := fun x hx => by
  rcases mem_new.1 hx with g | ⟨i, hi, rfl⟩
  ·exact (h.pg x g.1).1
  ·simp only; omega
 have hsup : ∀ x ∈ ps, ∃ x' ∈ lo ps first ++ added first prot n ++ hi ps (first + n - 1), x'.1 = x.1 := fun x hx => by
  by_cases c : x.1 < first ∨ first + n - 1 < x.1
  ·exact ⟨x, mem_new.2 (Or.inl ⟨hx, c⟩), rfl⟩
  ·exact ⟨(x.1, prot), mem_new.2 (Or.inr ⟨x.1 - first, by omega, by rw [show first + (x.1 - first) = x.1 by omega]⟩), rfl⟩
 have hkeep : ∀ x ∈ ps, ∃ y ∈ msF ps bs ms (ksM (added first prot n) n), y.1 = hp bs (x.1 / 4) := fun x hx => by
  obtain ⟨y, hy, e⟩ := (h.pg x hx).2.2.2
  have hby := msF_by (Q := fun p => p == y.1) (ps := ps) (bs := bs) (ksM (added first prot n) n) ms h.fq.2.2.1 (fun k _ hu => by
   simp only [beq_eq_false_iff_ne]
   intro e2
   rw [e] at e2
   rw [hp_inj e2, used_of hx] at hu
   cases hu)
  exact ⟨y, by_in hby hy (by simp), e⟩
 refine ⟨(fit_clear hF hw hrc _ _ (by omega)).1, hal, hle, ?_, new_srt h.sp rfl hn, fun x hx => ?_, fun y hy hin => ?_, fun c hc hin => ?_⟩
 ·rw [new_len h.sp (by omega)]; exact hroom
 ·refine ⟨hkey x hx, ?_⟩
  rcases mem_new.1 hx with g | ⟨i, hi, rfl⟩
  ·exact ⟨(h.pg x g.1).2.1, (h.pg x g.1).2.2.1, hkeep x g.1⟩
  ·refine ⟨hpr.1, hpr.2, ?_⟩
   simp only
   cases hu : usedN ps ((first + i) / 4) with
   | true =>
    obtain ⟨x', hx', e⟩ := of_used hu
    obtain ⟨y, hy, e2⟩ := hkeep x' hx'
    exact ⟨y, hy, by rw [e2, e]⟩
   | false =>
    have hk : toK ((first + i) / 4) ∈ ksM (added first prot n) n := by
     have := ksM_of (ps := added first prot n) (x := (first + i, prot)) (added_mem.2 ⟨i, hi, rfl⟩)
     rwa [hlen] at this
    have hv : (toK ((first + i) / 4)).val = (first + i) / 4 := toK_val (by omega)
    have := msF_new (ps := ps) (bs := bs) (ksM (added first prot n) n) ms _ hk (by rw [hv]; exact hu)
    rw [hv] at this
    exact ⟨_, this, rfl⟩
 ·rcases msF_mem _ _ hy with g | ⟨k, hk, hu, rfl⟩
  ·obtain ⟨h1, h2⟩ := h.rm y g hin
   refine ⟨h1, ?_⟩
   obtain ⟨x, hx, e⟩ := List.any_eq_true.1 h2
   obtain ⟨x', hx', e'⟩ := hsup x hx
   exact List.any_eq_true.2 ⟨x', hx', by rw [e']; exact e⟩
  ·refine ⟨rfl, ?_⟩
   obtain ⟨j, hj, e⟩ := (ksM_rise (added_srt first n prot) (added_bound hb) n (by rw [hlen]; exact Nat.le_refl _)).2 k hk
   have hj' : j < (added first prot n).length := by omega
   have hm : (added first prot n)[j] ∈ lo ps first ++ added first prot n ++ hi ps (first + n - 1) := List.mem_append_left _ (List.mem_append_right _ (List.getElem_mem hj'))
   refine List.any_eq_true.2 ⟨_, hm, ?_⟩
   rw [getD_at hj'] at e
   simp only [beq_iff_eq]
   rw [e]
 ·obtain ⟨x, hx, e⟩ := clearN_key hc
  rw [e] at hin ⊢
  obtain ⟨z, hz, e2⟩ := protN_ge (h.rc x hx hin)
  by_cases cc : first ≤ (x.1 - bs) / 4096 ∧ (x.1 - bs) / 4096 < first + n
  ·rw [prot_map_in h.sp rfl hn cc.1 cc.2]; exact hpr.1
  ·rw [prot_map_out h.sp rfl hn (by omega)]; exact h.rc x hx hin
theorem stepR_fit {ps ms cs : List (Nat × Int)} {bs : Nat} (k : K4) (h : FitQ ms cs) : FitQ (stepR ps bs (ms, cs) k).1 (stepR ps bs (ms, cs) k).2 := by
 unfold stepR
 split
 ·exact h
 ·exact fit_unmap h (hp bs k.val) 1 (by decide)
theorem rF_fit {ps : List (Nat × Int)} {bs : Nat} : ∀ (ks : List K4) (h : List (Nat × Int) × List (Nat × Int)), FitQ h.1 h.2 → FitQ (rF ps bs h ks).1 (rF ps bs h ks).2
 | [], _, h => h
 | k :: ks, h, g => rF_fit ks (stepR ps bs h k) (stepR_fit k g)
theorem clear_gone {ms cs : List (Nat × Int)} (h : FitQ ms cs) (hw : Words cs) (hrc : ∀ y ∈ cs, y.1 < 18446744073709551616) {a n : Nat} (ha : a < 18446744073709551616) (hs : a + n < 18446744073709551616) {c : Nat × Int} (hc : c ∈ clearN cs a n) : c.1 < a ∨ a + n < c.1 + 8 := by
 rcases Classical.em (c.1 < a ∨ a + n < c.1 + 8) with g | g
 ·exact g
 ·exfalso
  obtain ⟨hf, hww, hr⟩ := fit_clear h hw hrc a n ha
  have hcell := hf.2.2.2.2.2 c hc
  have h8 : c.1 % 8 = 0 := hcell.1
  have h0 : wordN (clearN cs a n) c.1 = 0 := by
   refine Nat.eq_of_testBit_eq (fun i => ?_)
   rw [Nat.zero_testBit]
   by_cases hi64 : i < 64
   ·rw [clearN_bit cs h.2.2.2.1 hw a n c.1 i ha h8 hi64 (by omega), if_pos (by omega)]
   ·exact Nat.testBit_lt_two_pow (Nat.lt_of_lt_of_le (wordN_lt _ hww _) (Nat.le_trans (by decide : 18446744073709551616 ≤ 2 ^ 64) (Nat.pow_le_pow_right (by decide) (by omega))))
  have hz := wordOf_mem hf.2.2.2.1 hc
  have := hww c hc
  unfold wordN at h0
  rw [hz] at h0
  have : c.2 = 0 := by omega
  exact hcell.2.1 this
theorem fitG_unmap {ms cs ps : List (Nat × Int)} {bs first n : Nat} (h : FitG ms cs ps bs) (hw : Words cs) (hrc : ∀ y ∈ cs, y.1 < 18446744073709551616) (hn : n ≠ 0) (hb : first + n ≤ 1048576) (ks : List K4) (hks : ∀ x ∈ mid ps first (first + n - 1), toK (x.1 / 4) ∈ ks) :
  FitG (rF (lo ps first ++ hi ps (first + n - 1)) bs (ms, clearN cs (bs + first * 4096) (n * 4096)) ks).1 (rF (lo ps first ++ hi ps (first + n - 1)) bs (ms, clearN cs (bs + first * 4096) (n * 4096)) ks).2 (lo ps first ++ hi ps (first + n - 1)) bs := by
 have hle := h.le
 have hal := h.al
 have hC := fit_clear h.fq hw hrc (bs + first * 4096) (n * 4096) (by omega)
 have hm := rF_mem (ps := lo ps first ++ hi ps (first + n - 1)) (bs := bs) ks (ms, clearN cs (bs + first * 4096) (n * 4096))
 refine ⟨rF_fit ks _ hC.1, hal, hle, ?_, cut_srt h.sp _ _ (by omega), fun x hx => ?_, fun y hy hin => ?_, fun c hc hin => ?_⟩
 ·have hs := (cut_sub h.sp (a := first) (b := first + n - 1) (by omega)).length_le
  exact Nat.le_trans hs h.lp
 ·have hx' := mem_cut.1 hx
  obtain ⟨p1, p2, p3, y, hy, e⟩ := h.pg x hx'.1
  refine ⟨p1, p2, p3, y, ?_, e⟩
  obtain ⟨r1, _⟩ := rF_by (ps := lo ps first ++ hi ps (first + n - 1)) (bs := bs) (Q := fun p => p == y.1) (Q' := fun _ => false) ks (ms, clearN cs (bs + first * 4096) (n * 4096)) h.fq.2.2.1 hC.1.2.2.2.1 (fun k _ hu => by
   simp only [beq_eq_false_iff_ne]
   intro e2
   rw [e] at e2
   rw [hp_inj e2, used_of hx] at hu
   cases hu) (fun _ _ _ _ _ => rfl)
  exact by_in r1 hy (by simp)
 ·obtain ⟨g1, g2⟩ := hm.1 y hy
  obtain ⟨q1, q2⟩ := h.rm y g1 hin
  refine ⟨q1, ?_⟩
  obtain ⟨x, hx, e⟩ := List.any_eq_true.1 q2
  have e : hp bs (x.1 / 4) = y.1 := by simpa using e
  have hx4 := (h.pg x hx).1
  have hv : (toK (x.1 / 4)).val = x.1 / 4 := toK_val (by omega)
  cases hu : usedN (lo ps first ++ hi ps (first + n - 1)) (x.1 / 4) with
  | true =>
   obtain ⟨x', hx', e'⟩ := of_used hu
   exact List.any_eq_true.2 ⟨x', hx', by rw [e']; simpa using e⟩
  | false =>
   exfalso
   by_cases c : x.1 < first ∨ first + n - 1 < x.1
   ·rw [used_of (mem_cut.2 ⟨hx, c⟩)] at hu
    cases hu
   ·refine g2 (toK (x.1 / 4)) (hks x (mid_mem.2 ⟨hx, by omega, by omega⟩)) (by rw [hv]; exact hu) ?_
    rw [hv, e]
 ·have hc' := hm.2 c hc
  obtain ⟨x, hx, e⟩ := clearN_key hc'
  have hb2 : bs ≤ c.1 ∧ c.1 - bs < 4294967296 := by simpa [inB] using hin
  have hg := clear_gone h.fq hw hrc (by omega) (by omega) hc'
  have h8 : x.1 % 8 = 0 := (h.fq.2.2.2.2.2 x hx).1
  rw [prot_cut_out h.sp rfl hn (by omega), e]
  exact h.rc x hx (by rw [← e]; exact hin)
theorem fitG_prot {ms cs ps : List (Nat × Int)} {bs first last : Nat} {prot : Int} (h : FitG ms cs ps bs) (hp1 : protOk prot = true) : FitG ms cs (protL first last prot ps) bs := by
 have hpr : 0 ≤ prot ∧ prot ≤ 7 := by simpa [protOk] using hp1
 have key : ∀ x, (protX first last prot x).1 = x.1 := fun x => by unfold protX; split <;> rfl
 have srt : Srt (protL first last prot ps) := by
  unfold Srt protL
  rw [List.pairwise_map]
  exact List.Pairwise.imp (fun {a b} hab => by rw [key, key]; exact hab) h.sp
 refine ⟨h.fq, h.al, h.le, by simpa [protL] using h.lp, srt, fun x hx => ?_, fun y hy hin => ?_, fun c hc hin => ?_⟩
 ·obtain ⟨z, hz, rfl⟩ := List.mem_map.1 hx
  rw [key]
  obtain ⟨p1, p2, p3, p4⟩ := h.pg z hz
  refine ⟨p1, ?_, ?_, p4⟩
  ·unfold protX; split
   ·exact hpr.1
   ·exact p2
  ·unfold protX; split
   ·exact hpr.2
   ·exact p3
 ·obtain ⟨q1, q2⟩ := h.rm y hy hin
  refine ⟨q1, ?_⟩
  obtain ⟨x, hx, e⟩ := List.any_eq_true.1 q2
  exact List.any_eq_true.2 ⟨_, List.mem_map_of_mem hx, by rw [key]; exact e⟩
 ·obtain ⟨x, hx, e⟩ := protN_ge (h.rc c hc hin)
  have hx2 := (h.pg x hx).2.1
  have := protN_in srt (List.mem_map_of_mem (f := protX first last prot) hx)
  rw [key, e] at this
  rw [this]
  unfold protX; split
  ·exact hpr.1
  ·exact hx2
theorem getD_at' {xs : List (Nat × Int)} {i : Nat} (h : i < xs.length) : xs.getD i (0, 0) = xs[i] := by simp [List.getD, h]
open Classical in
noncomputable def srtB (xs : List (Nat × Int)) : Bool := decide (∀ i, i < xs.length → 0 < i → (xs.getD (i - 1) (0, 0)).1 < (xs.getD i (0, 0)).1)
set_option maxHeartbeats 2000000 in
theorem rise27 (v : Value) (xs : List (Nat × Int)) (w : World) (hx : Sl .i64 w v xs) :
  Calls Tryz.prog 66 #[v, .func (.func 67) #[] #[]] w fun e w' => e = .returned (.bool (srtB xs)) ∧ Below w.heap.size w w' := by
 obtain ⟨ao, cap, rfl, x1, x2, _, x4⟩ := hx
 have HX : Hid (∀ i (h : i < xs.length), ∃ b o, ao = some ⟨b, o, none⟩ ∧ w.cell? ⟨b, o + i * 2, none⟩ = some (.int .u64 (xs[i].1 : Int)) ∧ w.cell? ⟨b, o + i * 2 + 1, none⟩ = some (.int .i64 xs[i].2)) := x4
 clear x4
 go_enter Tryz.func66, Tryz.ntmps66
 go_wp2
 go_loopw [5] (fun i wr => ∃ k m : Nat, m = k + 1 ∧ i = .int .i64 (m : Int) ∧ (k = 0 ∨ k < xs.length) ∧ (∀ j, j < k → (xs.getD j (0, 0)).1 < (xs.getD (j + 1) (0, 0)).1) ∧ Below w.heap.size w wr) (fun i _ => xs.length - (intOf i).toNat)
 case atStart => exact ⟨0, 1, rfl, rfl, Or.inl rfl, fun j hj => by omega, Below.refl _ _⟩
 case round =>
  obtain ⟨k, m, hmk, rfl, hkl, hno, hbr⟩ := hrel
  have HN : Hid (∀ j, j < k → (xs.getD j (0, 0)).1 < (xs.getD (j + 1) (0, 0)).1) := hno
  clear hno
  by_cases hk1 : k + 1 < xs.length
  ·obtain ⟨b, o, rfl, d0, d1⟩ := HX.out k (by omega)
   obtain ⟨b', o', eb, d2, d3⟩ := HX.out (k + 1) hk1
   simp only [Option.some.injEq, Addr.mk.injEq, and_true] at eb
   obtain ⟨rfl, rfl⟩ := eb
   have d0 := keep_cell hbr d0
   have d1 := keep_cell hbr d1
   have d2 := keep_cell hbr d2
   have d3 := keep_cell hbr d3
   have HP : Hid (xs.getD k (0, 0) = xs[k] ∧ xs.getD (k + 1) (0, 0) = xs[k + 1]) := ⟨getD_at' (by omega), getD_at' hk1⟩
   obtain ⟨p0, hp0⟩ : ∃ t, t = xs[k].1 := ⟨_, rfl⟩
   obtain ⟨p1, hp1⟩ : ∃ t, t = xs[k + 1].1 := ⟨_, rfl⟩
   have HPP : Hid (p0 = xs[k].1 ∧ p1 = xs[k + 1].1) := ⟨hp0, hp1⟩
   rw [← hp0] at d0
   rw [← hp1] at d2
   generalize xs[k].2 = r0 at d1
   generalize xs[k + 1].2 = r1 at d3
   clear hp0 hp1 hkl
   have KA : Hid (∀ w', Calls Tryz.prog 67 #[.agg #[.int .u64 (p0 : Int), .int .i64 r0]] w' fun e w'' => e = .returned (.int .u64 (p0 : Int)) ∧ Below w'.heap.size w' w'') := fun w' => pageOf_any p0 r0 w'
   have KB : Hid (∀ w', Calls Tryz.prog 67 #[.agg #[.int .u64 (p1 : Int), .int .i64 r1]] w' fun e w'' => e = .returned (.int .u64 (p1 : Int)) ∧ Below w'.heap.size w' w'') := fun w' => pageOf_any p1 r1 w'
   rw [← hmk] at d2 d3
   have y2 : IntKind.i64.wrap ((m : Int) - 1) = (k : Int) := by rw [IntKind.wrap_i64]; omega
   have y1 : (m : Int) - 1 = (k : Int) := by omega
   have y6 : IntKind.i64.wrap (k : Int) = (k : Int) := by rw [IntKind.wrap_i64]; omega
   have y3 : (0 : Int) ≤ (k : Int) := by omega
   have y4 : (k : Int) < (xs.length : Int) := by omega
   have y4' : k < xs.length := by omega
   have y5 : (m : Int) < (xs.length : Int) := by omega
   have HMK : Hid (m = k + 1) := hmk
   clear hmk
   by_cases hlt : p0 < p1
   ·have HR : Hid (∀ j, j < k + 1 → (xs.getD j (0, 0)).1 < (xs.getD (j + 1) (0, 0)).1) := fun j hj => by
     by_cases e : j = k
     ·subst e; rw [HP.out.1, HP.out.2, ← HPP.out.1, ← HPP.out.2]; exact hlt
     ·exact HN.out j (by omega)
    have hge : ¬ (p1 : Int) ≤ (p0 : Int) := by omega
    clear hlt
    go_wp2
    go_region_held3 (fun w' => Below w.heap.size w w' ∧ w'.cell? ⟨b, o + k * 2, none⟩ = some (.int .u64 (p0 : Int)) ∧ w'.cell? ⟨b, o + k * 2 + 1, none⟩ = some (.int .i64 r0) ∧ w'.cell? ⟨b, o + m * 2, none⟩ = some (.int .u64 (p1 : Int)) ∧ w'.cell? ⟨b, o + m * 2 + 1, none⟩ = some (.int .i64 r1)) (refine ⟨?_, ?_, ?_, ?_, ?_⟩ <;> first | (with_reducible refine Free.cell ?_; (repeat (first | with_reducible assumption | with_reducible refine Free.drew ?_ | with_reducible refine Free.alloc ?_ _ | with_reducible refine Free.set ?_ _ _ | with_reducible refine Free.keep (by with_reducible assumption) ?_)); done) | (with_reducible refine Free.frozen ?_; (repeat (first | with_reducible assumption | with_reducible refine Free.drew ?_ | with_reducible refine Free.alloc ?_ _ | with_reducible refine Free.set ?_ _ _ | with_reducible refine Free.keep (by with_reducible assumption) ?_)); done) | ((repeat (first | with_reducible assumption | with_reducible exact Below.refl _ _ | with_reducible refine Below.drew ?_ | with_reducible refine below_alloc ?_ _ | (with_reducible refine below_set ?_ ?_ _; rotate_left; focus (first | (simp; done) | (simp; omega))) | with_reducible refine below_tr ?_ (by with_reducible assumption))); done) | ((repeat (first | with_reducible assumption | with_reducible refine cell_drew ?_ | (with_reducible refine cell_newA _ _ _ _ _ _ ?_ rfl; (simp [*]; done)) | with_reducible refine cell_old ?_ _ | (with_reducible refine cell_far ?_ ?_ _; rotate_left; focus (first | (simp; done) | (simp; omega))) | with_reducible refine keep_cell (by with_reducible assumption) ?_)); done))
  (first | (go_at_call 67; first | (refine (KA.out _).mono ?_; rintro e w' ⟨rfl, hA⟩) | (refine (KB.out _).mono ?_; rintro e w' ⟨rfl, hB⟩)))
    all_goals go_wp2
    go_roundw
    case rel => exact ⟨k + 1, k + 1 + 1, rfl, by have := HMK.out; go_num, Or.inr hk1, HR.out, (by (repeat (first | with_reducible assumption | with_reducible exact Below.refl _ _ | with_reducible refine Below.drew ?_ | with_reducible refine below_alloc ?_ _ | (with_reducible refine below_set ?_ ?_ _; rotate_left; focus (first | (simp; done) | (simp; omega))) | with_reducible refine below_tr ?_ (by with_reducible assumption))))⟩
    case measure => have := HMK.out; simp [intOf]; omega
   ·have HR : Hid (srtB xs = false) := by
     show _ = _
     rw [srtB, decide_eq_false]
     intro h
     have := h (k + 1) hk1 (by omega)
     rw [Nat.add_sub_cancel, HP.out.1, HP.out.2, ← HPP.out.1, ← HPP.out.2] at this
     exact hlt this
    have hge : (p1 : Int) ≤ (p0 : Int) := by omega
    clear hlt
    go_wp2
    go_region_held3 (fun w' => Below w.heap.size w w' ∧ w'.cell? ⟨b, o + k * 2, none⟩ = some (.int .u64 (p0 : Int)) ∧ w'.cell? ⟨b, o + k * 2 + 1, none⟩ = some (.int .i64 r0) ∧ w'.cell? ⟨b, o + m * 2, none⟩ = some (.int .u64 (p1 : Int)) ∧ w'.cell? ⟨b, o + m * 2 + 1, none⟩ = some (.int .i64 r1)) (refine ⟨?_, ?_, ?_, ?_, ?_⟩ <;> first | (with_reducible refine Free.cell ?_; (repeat (first | with_reducible assumption | with_reducible refine Free.drew ?_ | with_reducible refine Free.alloc ?_ _ | with_reducible refine Free.set ?_ _ _ | with_reducible refine Free.keep (by with_reducible assumption) ?_)); done) | (with_reducible refine Free.frozen ?_; (repeat (first | with_reducible assumption | with_reducible refine Free.drew ?_ | with_reducible refine Free.alloc ?_ _ | with_reducible refine Free.set ?_ _ _ | with_reducible refine Free.keep (by with_reducible assumption) ?_)); done) | ((repeat (first | with_reducible assumption | with_reducible exact Below.refl _ _ | with_reducible refine Below.drew ?_ | with_reducible refine below_alloc ?_ _ | (with_reducible refine below_set ?_ ?_ _; rotate_left; focus (first | (simp; done) | (simp; omega))) | with_reducible refine below_tr ?_ (by with_reducible assumption))); done) | ((repeat (first | with_reducible assumption | with_reducible refine cell_drew ?_ | (with_reducible refine cell_newA _ _ _ _ _ _ ?_ rfl; (simp [*]; done)) | with_reducible refine cell_old ?_ _ | (with_reducible refine cell_far ?_ ?_ _; rotate_left; focus (first | (simp; done) | (simp; omega))) | with_reducible refine keep_cell (by with_reducible assumption) ?_)); done))
  (first | (go_at_call 67; first | (refine (KA.out _).mono ?_; rintro e w' ⟨rfl, hA⟩) | (refine (KB.out _).mono ?_; rintro e w' ⟨rfl, hB⟩)))
    all_goals go_wp2
    all_goals go_ret
    all_goals exact ⟨by rw [HR.out]; rfl, (by (repeat (first | with_reducible assumption | with_reducible exact Below.refl _ _ | with_reducible refine Below.drew ?_ | with_reducible refine below_alloc ?_ _ | (with_reducible refine below_set ?_ ?_ _; rotate_left; focus (first | (simp; done) | (simp; omega))) | with_reducible refine below_tr ?_ (by with_reducible assumption))))⟩
  ·have HR : Hid (srtB xs = true) := by
    show _ = _
    rw [srtB, decide_eq_true_iff]
    intro i hi h0
    have := HN.out (i - 1) (by omega)
    rw [Nat.sub_add_cancel h0] at this
    exact this
   clear hkl
   go_wp2
   go_ret
   exact ⟨by rw [HR.out]; rfl, hbr⟩
set_option maxHeartbeats 2000000 in
theorem rise29 (v : Value) (xs : List (Nat × Int)) (w : World) (hx : Sl .u64 w v xs) :
  Calls Tryz.prog 68 #[v, .func (.func 69) #[] #[]] w fun e w' => e = .returned (.bool (srtB xs)) ∧ Below w.heap.size w w' := by
 obtain ⟨ao, cap, rfl, x1, x2, _, x4⟩ := hx
 have HX : Hid (∀ i (h : i < xs.length), ∃ b o, ao = some ⟨b, o, none⟩ ∧ w.cell? ⟨b, o + i * 2, none⟩ = some (.int .u64 (xs[i].1 : Int)) ∧ w.cell? ⟨b, o + i * 2 + 1, none⟩ = some (.int .u64 xs[i].2)) := x4
 clear x4
 go_enter Tryz.func68, Tryz.ntmps68
 go_wp2
 go_loopw [5] (fun i wr => ∃ k m : Nat, m = k + 1 ∧ i = .int .i64 (m : Int) ∧ (k = 0 ∨ k < xs.length) ∧ (∀ j, j < k → (xs.getD j (0, 0)).1 < (xs.getD (j + 1) (0, 0)).1) ∧ Below w.heap.size w wr) (fun i _ => xs.length - (intOf i).toNat)
 case atStart => exact ⟨0, 1, rfl, rfl, Or.inl rfl, fun j hj => by omega, Below.refl _ _⟩
 case round =>
  obtain ⟨k, m, hmk, rfl, hkl, hno, hbr⟩ := hrel
  have HN : Hid (∀ j, j < k → (xs.getD j (0, 0)).1 < (xs.getD (j + 1) (0, 0)).1) := hno
  clear hno
  by_cases hk1 : k + 1 < xs.length
  ·obtain ⟨b, o, rfl, d0, d1⟩ := HX.out k (by omega)
   obtain ⟨b', o', eb, d2, d3⟩ := HX.out (k + 1) hk1
   simp only [Option.some.injEq, Addr.mk.injEq, and_true] at eb
   obtain ⟨rfl, rfl⟩ := eb
   have d0 := keep_cell hbr d0
   have d1 := keep_cell hbr d1
   have d2 := keep_cell hbr d2
   have d3 := keep_cell hbr d3
   have HP : Hid (xs.getD k (0, 0) = xs[k] ∧ xs.getD (k + 1) (0, 0) = xs[k + 1]) := ⟨getD_at' (by omega), getD_at' hk1⟩
   obtain ⟨p0, hp0⟩ : ∃ t, t = xs[k].1 := ⟨_, rfl⟩
   obtain ⟨p1, hp1⟩ : ∃ t, t = xs[k + 1].1 := ⟨_, rfl⟩
   have HPP : Hid (p0 = xs[k].1 ∧ p1 = xs[k + 1].1) := ⟨hp0, hp1⟩
   rw [← hp0] at d0
   rw [← hp1] at d2
   generalize xs[k].2 = r0 at d1
   generalize xs[k + 1].2 = r1 at d3
   clear hp0 hp1 hkl
   have KA : Hid (∀ w', Calls Tryz.prog 69 #[.agg #[.int .u64 (p0 : Int), .int .u64 r0]] w' fun e w'' => e = .returned (.int .u64 (p0 : Int)) ∧ Below w'.heap.size w' w'') := fun w' => atOf_any p0 r0 w'
   have KB : Hid (∀ w', Calls Tryz.prog 69 #[.agg #[.int .u64 (p1 : Int), .int .u64 r1]] w' fun e w'' => e = .returned (.int .u64 (p1 : Int)) ∧ Below w'.heap.size w' w'') := fun w' => atOf_any p1 r1 w'
   rw [← hmk] at d2 d3
   have y2 : IntKind.i64.wrap ((m : Int) - 1) = (k : Int) := by rw [IntKind.wrap_i64]; omega
   have y1 : (m : Int) - 1 = (k : Int) := by omega
   have y6 : IntKind.i64.wrap (k : Int) = (k : Int) := by rw [IntKind.wrap_i64]; omega
   have y3 : (0 : Int) ≤ (k : Int) := by omega
   have y4 : (k : Int) < (xs.length : Int) := by omega
   have y4' : k < xs.length := by omega
   have y5 : (m : Int) < (xs.length : Int) := by omega
   have HMK : Hid (m = k + 1) := hmk
   clear hmk
   by_cases hlt : p0 < p1
   ·have HR : Hid (∀ j, j < k + 1 → (xs.getD j (0, 0)).1 < (xs.getD (j + 1) (0, 0)).1) := fun j hj => by
     by_cases e : j = k
     ·subst e; rw [HP.out.1, HP.out.2, ← HPP.out.1, ← HPP.out.2]; exact hlt
     ·exact HN.out j (by omega)
    have hge : ¬ (p1 : Int) ≤ (p0 : Int) := by omega
    clear hlt
    go_wp2
    go_region_held3 (fun w' => Below w.heap.size w w' ∧ w'.cell? ⟨b, o + k * 2, none⟩ = some (.int .u64 (p0 : Int)) ∧ w'.cell? ⟨b, o + k * 2 + 1, none⟩ = some (.int .u64 r0) ∧ w'.cell? ⟨b, o + m * 2, none⟩ = some (.int .u64 (p1 : Int)) ∧ w'.cell? ⟨b, o + m * 2 + 1, none⟩ = some (.int .u64 r1)) (refine ⟨?_, ?_, ?_, ?_, ?_⟩ <;> first | (with_reducible refine Free.cell ?_; (repeat (first | with_reducible assumption | with_reducible refine Free.drew ?_ | with_reducible refine Free.alloc ?_ _ | with_reducible refine Free.set ?_ _ _ | with_reducible refine Free.keep (by with_reducible assumption) ?_)); done) | (with_reducible refine Free.frozen ?_; (repeat (first | with_reducible assumption | with_reducible refine Free.drew ?_ | with_reducible refine Free.alloc ?_ _ | with_reducible refine Free.set ?_ _ _ | with_reducible refine Free.keep (by with_reducible assumption) ?_)); done) | ((repeat (first | with_reducible assumption | with_reducible exact Below.refl _ _ | with_reducible refine Below.drew ?_ | with_reducible refine below_alloc ?_ _ | (with_reducible refine below_set ?_ ?_ _; rotate_left; focus (first | (simp; done) | (simp; omega))) | with_reducible refine below_tr ?_ (by with_reducible assumption))); done) | ((repeat (first | with_reducible assumption | with_reducible refine cell_drew ?_ | (with_reducible refine cell_newA _ _ _ _ _ _ ?_ rfl; (simp [*]; done)) | with_reducible refine cell_old ?_ _ | (with_reducible refine cell_far ?_ ?_ _; rotate_left; focus (first | (simp; done) | (simp; omega))) | with_reducible refine keep_cell (by with_reducible assumption) ?_)); done))
  (first | (go_at_call 69; first | (refine (KA.out _).mono ?_; rintro e w' ⟨rfl, hA⟩) | (refine (KB.out _).mono ?_; rintro e w' ⟨rfl, hB⟩)))
    all_goals go_wp2
    go_roundw
    case rel => exact ⟨k + 1, k + 1 + 1, rfl, by have := HMK.out; go_num, Or.inr hk1, HR.out, (by (repeat (first | with_reducible assumption | with_reducible exact Below.refl _ _ | with_reducible refine Below.drew ?_ | with_reducible refine below_alloc ?_ _ | (with_reducible refine below_set ?_ ?_ _; rotate_left; focus (first | (simp; done) | (simp; omega))) | with_reducible refine below_tr ?_ (by with_reducible assumption))))⟩
    case measure => have := HMK.out; simp [intOf]; omega
   ·have HR : Hid (srtB xs = false) := by
     show _ = _
     rw [srtB, decide_eq_false]
     intro h
     have := h (k + 1) hk1 (by omega)
     rw [Nat.add_sub_cancel, HP.out.1, HP.out.2, ← HPP.out.1, ← HPP.out.2] at this
     exact hlt this
    have hge : (p1 : Int) ≤ (p0 : Int) := by omega
    clear hlt
    go_wp2
    go_region_held3 (fun w' => Below w.heap.size w w' ∧ w'.cell? ⟨b, o + k * 2, none⟩ = some (.int .u64 (p0 : Int)) ∧ w'.cell? ⟨b, o + k * 2 + 1, none⟩ = some (.int .u64 r0) ∧ w'.cell? ⟨b, o + m * 2, none⟩ = some (.int .u64 (p1 : Int)) ∧ w'.cell? ⟨b, o + m * 2 + 1, none⟩ = some (.int .u64 r1)) (refine ⟨?_, ?_, ?_, ?_, ?_⟩ <;> first | (with_reducible refine Free.cell ?_; (repeat (first | with_reducible assumption | with_reducible refine Free.drew ?_ | with_reducible refine Free.alloc ?_ _ | with_reducible refine Free.set ?_ _ _ | with_reducible refine Free.keep (by with_reducible assumption) ?_)); done) | (with_reducible refine Free.frozen ?_; (repeat (first | with_reducible assumption | with_reducible refine Free.drew ?_ | with_reducible refine Free.alloc ?_ _ | with_reducible refine Free.set ?_ _ _ | with_reducible refine Free.keep (by with_reducible assumption) ?_)); done) | ((repeat (first | with_reducible assumption | with_reducible exact Below.refl _ _ | with_reducible refine Below.drew ?_ | with_reducible refine below_alloc ?_ _ | (with_reducible refine below_set ?_ ?_ _; rotate_left; focus (first | (simp; done) | (simp; omega))) | with_reducible refine below_tr ?_ (by with_reducible assumption))); done) | ((repeat (first | with_reducible assumption | with_reducible refine cell_drew ?_ | (with_reducible refine cell_newA _ _ _ _ _ _ ?_ rfl; (simp [*]; done)) | with_reducible refine cell_old ?_ _ | (with_reducible refine cell_far ?_ ?_ _; rotate_left; focus (first | (simp; done) | (simp; omega))) | with_reducible refine keep_cell (by with_reducible assumption) ?_)); done))
  (first | (go_at_call 69; first | (refine (KA.out _).mono ?_; rintro e w' ⟨rfl, hA⟩) | (refine (KB.out _).mono ?_; rintro e w' ⟨rfl, hB⟩)))
    all_goals go_wp2
    all_goals go_ret
    all_goals exact ⟨by rw [HR.out]; rfl, (by (repeat (first | with_reducible assumption | with_reducible exact Below.refl _ _ | with_reducible refine Below.drew ?_ | with_reducible refine below_alloc ?_ _ | (with_reducible refine below_set ?_ ?_ _; rotate_left; focus (first | (simp; done) | (simp; omega))) | with_reducible refine below_tr ?_ (by with_reducible assumption))))⟩
  ·have HR : Hid (srtB xs = true) := by
    show _ = _
    rw [srtB, decide_eq_true_iff]
    intro i hi h0
    have := HN.out (i - 1) (by omega)
    rw [Nat.sub_add_cancel h0] at this
    exact this
   clear hkl
   go_wp2
   go_ret
   exact ⟨by rw [HR.out]; rfl, hbr⟩
theorem srtB_yes {xs : List (Nat × Int)} (h : srtB xs = true) : Srt xs := by
 rw [srtB, decide_eq_true_iff] at h
 exact srt_of (fun i hi h0 => h i hi h0)
theorem srtB_no {xs : List (Nat × Int)} (h : srtB xs = false) : ¬ Srt xs := by
 intro hs
 rw [srtB, decide_eq_false_iff_not] at h
 exact h (fun i hi h0 => srt_get hs i hi h0)
theorem fitB_nq {ms cs : List (Nat × Int)} (h : ¬ FitQ ms cs) : fitB ms cs = false := fitB_no (fun c => h (fitP_iff.1 c))
theorem mid_ne {ms : List (Nat × Int)} {p : Nat} : (!(mid ms p p).isEmpty) = true ↔ ∃ x ∈ ms, x.1 = p := by
 constructor
 ·intro h
  cases hm : mid ms p p with
  | nil => rw [hm] at h; simp at h
  | cons x l =>
   have : x ∈ mid ms p p := by rw [hm]; simp
   obtain ⟨h1, h2, h3⟩ := mid_mem.1 this
   exact ⟨x, h1, by omega⟩
 ·rintro ⟨x, hx, e⟩
  have : x ∈ mid ms p p := mid_mem.2 ⟨hx, by omega, by omega⟩
  cases hm : mid ms p p with
  | nil => rw [hm] at this; simp at this
  | cons y l => simp
set_option maxHeartbeats 4000000 in
set_option maxRecDepth 100000 in
theorem fit9 (vm vc : Value) (ms cs : List (Nat × Int)) (w : World) (hm : Sl .i64 w vm ms) (hc : Sl .u64 w vc cs) (hrc : ∀ y ∈ cs, y.1 < 18446744073709551616) :
  Calls Tryz.prog 39 #[.agg #[vm, vc]] w fun e w' => e = .returned (.bool (fitB ms cs)) ∧ Below w.heap.size w w' := by
 obtain ⟨W, hW, hb, hsz, c0, c1, _, _⟩ := box2 w vm vc 25
 obtain ⟨am, pm, rfl, x1, x2, x4⟩ : ∃ ao cap, vm = .slice ao ms.length cap ∧ ms.length ≤ cap ∧ cap ≤ 9223372036854775807 ∧ ∀ i (h : i < ms.length), ∃ b o, ao = some ⟨b, o, none⟩ ∧ W.cell? ⟨b, o + i * 2, none⟩ = some (.int .u64 (ms[i].1 : Int)) ∧ W.cell? ⟨b, o + i * 2 + 1, none⟩ = some (.int .i64 ms[i].2) := by
  obtain ⟨ao, cap, e, q1, q2, _, q4⟩ := hm.keep hb
  exact ⟨ao, cap, e, q1, q2, q4⟩
 obtain ⟨ac, pc, rfl, z1, z2, z4⟩ : ∃ ao cap, vc = .slice ao cs.length cap ∧ cs.length ≤ cap ∧ cap ≤ 9223372036854775807 ∧ ∀ i (h : i < cs.length), ∃ b o, ao = some ⟨b, o, none⟩ ∧ W.cell? ⟨b, o + i * 2, none⟩ = some (.int .u64 (cs[i].1 : Int)) ∧ W.cell? ⟨b, o + i * 2 + 1, none⟩ = some (.int .u64 cs[i].2) := by
  obtain ⟨ao, cap, e, q1, q2, _, q4⟩ := hc.keep hb
  exact ⟨ao, cap, e, q1, q2, q4⟩
 have HXM : Hid (∀ i (h : i < ms.length), ∃ b o, am = some ⟨b, o, none⟩ ∧ W.cell? ⟨b, o + i * 2, none⟩ = some (.int .u64 (ms[i].1 : Int)) ∧ W.cell? ⟨b, o + i * 2 + 1, none⟩ = some (.int .i64 ms[i].2)) := x4
 have HXC : Hid (∀ i (h : i < cs.length), ∃ b o, ac = some ⟨b, o, none⟩ ∧ W.cell? ⟨b, o + i * 2, none⟩ = some (.int .u64 (cs[i].1 : Int)) ∧ W.cell? ⟨b, o + i * 2 + 1, none⟩ = some (.int .u64 cs[i].2)) := z4
 have K27 : Hid (∀ w', Below W.heap.size W w' → Calls Tryz.prog 66 #[.slice am ms.length pm, .func (.func 67) #[] #[]] w' fun e w'' => e = .returned (.bool (srtB ms)) ∧ Below w'.heap.size w' w'') := fun w' h => rise27 _ ms w' (hm.keep (below_tr hb h))
 have K29 : Hid (∀ w', Below W.heap.size W w' → Calls Tryz.prog 68 #[.slice ac cs.length pc, .func (.func 69) #[] #[]] w' fun e w'' => e = .returned (.bool (srtB cs)) ∧ Below w'.heap.size w' w'') := fun w' h => rise29 _ cs w' (hc.keep (below_tr hb h))
 have HRC : Hid (∀ y ∈ cs, y.1 < 18446744073709551616) := hrc
 have HSM : Hid (Sl .i64 w (.slice am ms.length pm) ms) := hm
 obtain ⟨F, hF⟩ : ∃ F, F = fitB ms cs := ⟨_, rfl⟩
 rw [← hF]
 have HF : Hid (F = fitB ms cs) := hF
 clear x4 z4 hm hc hrc hF
 by_cases h64 : 64 < ms.length
 ·have HR : Hid (F = false) := by show _ = _; rw [HF.out]; exact fitB_nq (fun q => by have := q.1; omega)
  go_enter Tryz.func39, Tryz.ntmps39
  go_wp2
  go_ret
  exact ⟨by rw [HR.out]; rfl, hb⟩
 by_cases h65 : 65536 < cs.length
 ·have HR : Hid (F = false) := by show _ = _; rw [HF.out]; exact fitB_nq (fun q => by have := q.2.1; omega)
  go_enter Tryz.func39, Tryz.ntmps39
  go_wp2
  go_ret
  exact ⟨by rw [HR.out]; rfl, hb⟩
 cases hsm : srtB ms with
 | false =>
  have HR : Hid (F = false) := by show _ = _; rw [HF.out]; exact fitB_nq (fun q => srtB_no hsm q.2.2.1)
  rw [hsm] at K27
  clear hsm
  go_enter Tryz.func39, Tryz.ntmps39
  go_wp2_with fail
  refine (K27.out W (Below.refl _ _)).mono ?_
  rintro e w1 ⟨rfl, hb1⟩
  go_wp2
  go_ret
  exact ⟨by rw [HR.out]; rfl, below_tr hb hb1⟩
 | true =>
 cases hsc : srtB cs with
 | false =>
  have HR : Hid (F = false) := by show _ = _; rw [HF.out]; exact fitB_nq (fun q => srtB_no hsc q.2.2.2.1)
  rw [hsm] at K27
  rw [hsc] at K29
  clear hsm hsc
  go_enter Tryz.func39, Tryz.ntmps39
  go_wp2_with fail
  refine (K27.out W (Below.refl _ _)).mono ?_
  rintro e w1 ⟨rfl, hb1⟩
  have e1 := keep_cell hb1 c1
  go_wp2_with fail
  refine (K29.out w1 hb1).mono ?_
  rintro e w2 ⟨rfl, hb2⟩
  go_wp2
  go_ret
  exact ⟨by rw [HR.out]; rfl, below_tr (below_tr hb hb1) hb2⟩
 | true =>
 have HSS : Hid (Srt ms ∧ Srt cs ∧ ms.length ≤ 64 ∧ cs.length ≤ 65536) := ⟨srtB_yes hsm, srtB_yes hsc, by omega, by omega⟩
 rw [hsm] at K27
 rw [hsc] at K29
 have K32 : Hid (∀ (pg : Nat) w', Below W.heap.size W w' → Calls Tryz.prog 71 #[.slice am ms.length pm, .func (.func 67) #[] #[], .int .u64 (pg : Int)] w' fun e w'' => e = .returned (.tuple #[.agg #[.int .u64 (((mid ms pg pg).headD (0, 0)).1 : Int), .int .i64 ((mid ms pg pg).headD (0, 0)).2], .bool (!(mid ms pg pg).isEmpty)]) ∧ Below w'.heap.size w' w'') := fun pg w' h => found32s _ ms pg w' (HSM.out.keep (below_tr hb h)) HSS.out.1 (by have := HSS.out.2.2.1; omega)
 clear hsm hsc
 go_enter Tryz.func39, Tryz.ntmps39
 go_wp2_with fail
 refine (K27.out W (Below.refl _ _)).mono ?_
 rintro e w1 ⟨rfl, hb1⟩
 have e0 := keep_cell hb1 c0
 have e1 := keep_cell hb1 c1
 go_wp2_with fail
 refine (K29.out w1 hb1).mono ?_
 rintro e w2 ⟨rfl, hb2⟩
 have hbW := below_tr hb1 hb2
 have e0 := keep_cell hb2 e0
 have e1 := keep_cell hb2 e1
 clear hb1 hb2 K27 K29
 go_wp2
 go_loopw [34] (fun i wr => ∃ k : Nat, k ≤ ms.length ∧ i = .int .i64 (k : Int) ∧ (∀ j (h : j < ms.length), j < k → ms[j].1 < 1125899906842624 ∧ 0 ≤ ms[j].2 ∧ ms[j].2 ≤ 7) ∧ Below W.heap.size W wr) (fun i _ => ms.length - (intOf i).toNat)
 case atStart => exact ⟨0, Nat.zero_le _, rfl, fun j h h0 => by omega, hbW⟩
 case round =>
  clear hbW e0 e1
  obtain ⟨k, hk, rfl, hno, hbr⟩ := hrel
  have HN : Hid (∀ j (h : j < ms.length), j < k → ms[j].1 < 1125899906842624 ∧ 0 ≤ ms[j].2 ∧ ms[j].2 ≤ 7) := hno
  clear hno
  have e0 := keep_cell hbr c0
  have e1 := keep_cell hbr c1
  by_cases hkl : k < ms.length
  ·obtain ⟨b, o, rfl, d0, d1⟩ := HXM.out k hkl
   have d0 := keep_cell hbr d0
   have d1 := keep_cell hbr d1
   obtain ⟨p, hp⟩ : ∃ p, p = ms[k].1 := ⟨_, rfl⟩
   obtain ⟨r, hr⟩ : ∃ r, r = ms[k].2 := ⟨_, rfl⟩
   have HX : Hid (p = ms[k].1 ∧ r = ms[k].2) := ⟨hp, hr⟩
   rw [← hp] at d0
   rw [← hr] at d1
   clear hp hr
   obtain ⟨W2, hW2, hb2, _, q0, q1, _, _⟩ := box2 wr (.int .u64 (p : Int)) (.int .i64 r) 77
   have hbr2 := below_tr hbr hb2
   by_cases a1 : 1125899906842624 ≤ (p : Int)
   ·have HR : Hid (F = false) := by
     show _ = _; rw [HF.out]
     exact fitB_nq (fun q => by have := (q.2.2.2.2.1 _ (List.getElem_mem hkl)).1; rw [← HX.out.1] at this; omega)
    go_wp2
    go_ret
    exact ⟨by rw [HR.out]; rfl, below_tr hb hbr2⟩
   ·have K31 := isProt31 r W2
    have HA : Hid (¬ 1125899906842624 ≤ (p : Int)) := a1
    cases hpr : protOk r with
    | false =>
     have HR : Hid (F = false) := by
      show _ = _; rw [HF.out]
      refine fitB_nq (fun q => ?_)
      have := (q.2.2.2.2.1 _ (List.getElem_mem hkl)).2
      rw [← HX.out.2] at this
      rw [protOk, decide_eq_true this] at hpr
      cases hpr
     rw [hpr] at K31
     clear hpr
     go_wp2_with fail
     refine K31.mono ?_
     rintro e w3 ⟨rfl, h3⟩
     subst h3
     go_wp2
     go_ret
     exact ⟨by rw [HR.out]; rfl, below_tr hb hbr2⟩
    | true =>
     rw [hpr] at K31
     have HK : Hid (∀ j (h : j < ms.length), j < k + 1 → ms[j].1 < 1125899906842624 ∧ 0 ≤ ms[j].2 ∧ ms[j].2 ≤ 7) := fun j h hj => by
      by_cases e : j = k
      ·subst e
       rw [← HX.out.1, ← HX.out.2]
       have := HA.out
       have h2 : 0 ≤ r ∧ r ≤ 7 := by simpa [protOk] using hpr
       exact ⟨by omega, h2⟩
      ·exact HN.out j h (by omega)
     clear hpr
     go_wp2_with fail
     refine K31.mono ?_
     rintro e w3 ⟨rfl, h3⟩
     subst h3
     go_wp2
     go_roundw
     case rel => exact ⟨k + 1, by omega, by go_num, HK.out, hbr2⟩
     case measure => simp [intOf]; omega
  ·obtain rfl : k = ms.length := by omega
   have HMS : Hid (∀ x ∈ ms, x.1 < 1125899906842624 ∧ 0 ≤ x.2 ∧ x.2 ≤ 7) := fun x hx => by
    obtain ⟨i, hi, rfl⟩ := List.getElem_of_mem hx
    exact HN.out i hi hi
   clear HN
   go_wp2
   go_loopw [51] (fun i wr => ∃ k : Nat, k ≤ cs.length ∧ i = .int .i64 (k : Int) ∧ (∀ j (h : j < cs.length), j < k → cs[j].1 % 8 = 0 ∧ cs[j].2 ≠ 0 ∧ ∃ x ∈ ms, x.1 = cs[j].1 / 16384) ∧ Below W.heap.size W wr) (fun i _ => cs.length - (intOf i).toNat)
   case atStart => exact ⟨0, Nat.zero_le _, rfl, fun j h h0 => by omega, hbr⟩
   case round =>
    clear e0 e1 hbr hk
    obtain ⟨k, hk, rfl, hno, hbr⟩ := hrel
    have HN : Hid (∀ j (h : j < cs.length), j < k → cs[j].1 % 8 = 0 ∧ cs[j].2 ≠ 0 ∧ ∃ x ∈ ms, x.1 = cs[j].1 / 16384) := hno
    clear hno
    have e0 := keep_cell hbr c0
    have e1 := keep_cell hbr c1
    by_cases hkl2 : k < cs.length
    ·obtain ⟨b, o, rfl, d0, d1⟩ := HXC.out k hkl2
     have d0 := keep_cell hbr d0
     have d1 := keep_cell hbr d1
     have hpl := HRC.out _ (List.getElem_mem hkl2)
     obtain ⟨p, hp⟩ : ∃ p, p = cs[k].1 := ⟨_, rfl⟩
     obtain ⟨r, hr⟩ : ∃ r, r = cs[k].2 := ⟨_, rfl⟩
     have HX : Hid (p = cs[k].1 ∧ r = cs[k].2) := ⟨hp, hr⟩
     rw [← hp] at d0 hpl
     rw [← hr] at d1
     clear hp hr
     obtain ⟨W2, hW2, hb2, _, q0, q1, _, _⟩ := box2 wr (.int .u64 (p : Int)) (.int .u64 r) 82
     have hbr2 := below_tr hbr hb2
     have e0 := keep_cell hb2 e0
     obtain ⟨pg, hpg⟩ : ∃ t, t = p / 16384 := ⟨_, rfl⟩
     obtain ⟨m8, hm8⟩ : ∃ t, t = p % 8 := ⟨_, rfl⟩
     have y1 : IntKind.u64.wrap ((p : Int) / 16384) = (pg : Int) := by rw [IntKind.wrap_u64]; omega
     have y2 : ((p : Int)).tmod 8 = (m8 : Int) := by rw [Int.tmod_eq_emod_of_nonneg (by omega)]; omega
     have K := K32.out pg W2 hbr2
     have HME := mid_ne (ms := ms) (p := pg)
     have HME : Hid ((!(mid ms pg pg).isEmpty) = true ↔ ∃ x ∈ ms, x.1 = pg) := HME
     generalize (!(mid ms pg pg).isEmpty) = bb at K HME
     generalize ((mid ms pg pg).headD (0, 0)).1 = f1 at K
     generalize ((mid ms pg pg).headD (0, 0)).2 = f2 at K
     have HPM : Hid (pg = p / 16384 ∧ m8 = p % 8) := ⟨hpg, hm8⟩
     clear hpg hm8 hpl
     cases bb with
     | false =>
      have HR : Hid (F = false) := by
       show _ = _; rw [HF.out]
       refine fitB_nq (fun q => ?_)
       obtain ⟨_, _, x, hx, ex⟩ := q.2.2.2.2.2 _ (List.getElem_mem hkl2)
       rw [← HX.out.1, ← HPM.out.1] at ex
       have := HME.out.2 ⟨x, hx, ex⟩
       cases this
      go_wp2_with fail
      refine K.mono ?_
      rintro e w3 ⟨rfl, hb3⟩
      have q0 := keep_cell hb3 q0
      have q1 := keep_cell hb3 q1
      go_wp2
      go_ret
      exact ⟨by rw [HR.out]; rfl, below_alloc (below_tr (below_tr hb hbr2) hb3) _⟩
     | true =>
      by_cases a1 : m8 = 0
      case neg =>
       have HR : Hid (F = false) := by
        show _ = _; rw [HF.out]
        refine fitB_nq (fun q => ?_)
        have := (q.2.2.2.2.2 _ (List.getElem_mem hkl2)).1
        rw [← HX.out.1] at this
        have := HPM.out.2
        omega
       have a1' : ((m8 : Int) != 0) = true := by simp; omega
       clear a1
       go_wp2_with fail
       refine K.mono ?_
       rintro e w3 ⟨rfl, hb3⟩
       obtain ⟨W4, hW4, hb4, _, _, _, _, _⟩ := box2 w3 (.int .u64 (f1 : Int)) (.int .i64 f2) 77
       have q0 := keep_cell hb4 (keep_cell hb3 q0)
       have q1 := keep_cell hb4 (keep_cell hb3 q1)
       go_wp2
       go_ret
       exact ⟨by rw [HR.out]; rfl, below_tr (below_tr (below_tr hb hbr2) hb3) hb4⟩
      subst a1
      by_cases a2 : r = 0
      ·have HR : Hid (F = false) := by
        show _ = _; rw [HF.out]
        refine fitB_nq (fun q => ?_)
        have := (q.2.2.2.2.2 _ (List.getElem_mem hkl2)).2.1
        rw [← HX.out.2] at this
        exact this a2
       have a2' : (r == 0) = true := by simpa using a2
       clear a2
       go_wp2_with fail
       refine K.mono ?_
       rintro e w3 ⟨rfl, hb3⟩
       obtain ⟨W4, hW4, hb4, _, _, _, _, _⟩ := box2 w3 (.int .u64 (f1 : Int)) (.int .i64 f2) 77
       have q0 := keep_cell hb4 (keep_cell hb3 q0)
       have q1 := keep_cell hb4 (keep_cell hb3 q1)
       go_wp2
       go_ret
       exact ⟨by rw [HR.out]; rfl, below_tr (below_tr (below_tr hb hbr2) hb3) hb4⟩
      ·have HK : Hid (∀ j (h : j < cs.length), j < k + 1 → cs[j].1 % 8 = 0 ∧ cs[j].2 ≠ 0 ∧ ∃ x ∈ ms, x.1 = cs[j].1 / 16384) := fun j h hj => by
        by_cases e : j = k
        ·subst e
         rw [← HX.out.1, ← HX.out.2, ← HPM.out.1]
         exact ⟨HPM.out.2.symm, a2, HME.out.1 rfl⟩
        ·exact HN.out j h (by omega)
       have a2' : (r == 0) = false := by simpa using a2
       clear a2
       go_wp2_with fail
       refine K.mono ?_
       rintro e w3 ⟨rfl, hb3⟩
       obtain ⟨W4, hW4, hb4, _, _, _, _, _⟩ := box2 w3 (.int .u64 (f1 : Int)) (.int .i64 f2) 77
       have q0 := keep_cell hb4 (keep_cell hb3 q0)
       have q1 := keep_cell hb4 (keep_cell hb3 q1)
       have hbx := below_tr (below_tr hbr2 hb3) hb4
       go_wp2
       go_roundw
       case rel => exact ⟨k + 1, by omega, by go_num, HK.out, hbx⟩
       case measure => simp [intOf]; omega
    ·obtain rfl : k = cs.length := by omega
     have HR : Hid (F = true) := by
      show _ = _; rw [HF.out]
      refine fitB_q ⟨HSS.out.2.2.1, HSS.out.2.2.2, HSS.out.1, HSS.out.2.1, HMS.out, fun c hc => ?_⟩
      obtain ⟨i, hi, rfl⟩ := List.getElem_of_mem hc
      exact HN.out i hi hi
     go_wp2
     go_ret
     exact ⟨by rw [HR.out]; rfl, below_tr hb hbr⟩
end Go.Proofs.YtkpmkgkfpikpfaaGreat
