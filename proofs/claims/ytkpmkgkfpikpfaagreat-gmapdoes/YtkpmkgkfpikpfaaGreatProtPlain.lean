/- What is proved here: Protect. -/
import Derived.Test.YtkpmkgkfpikpfaaGreatBackPlain
import Derived.Test.YtkpmkgkfpikpfaaGreatCopied
import Derived.Lib.OwnKind
import Derived.Laws.OwnMore
import Derived.OneCell
import Derived.Test.YtkpmkgkfpikpfaaGreatGw
import Derived.Test.YtkpmkgkfpikpfaaGreatGp
namespace Go.Proofs.YtkpmkgkfpikpfaaGreat
open Go.RowKit
set_option maxRecDepth 100000
set_option linter.unusedVariables false
theorem rowOf_set1 (k : IntKind) : ∀ (xs : List (Nat × Int)) (i : Nat) (h : i < xs.length) (r : Int), (rowOf k xs).set (i * 2 + 1) (.int k r) = rowOf k (xs.set i (xs[i].1, r))
 | x :: xs, 0, h, r => by simp [rowOf]
 | x :: xs, i + 1, h, r => by
  have := rowOf_set1 k xs i (by simpa using h) r
  rw [show (i + 1) * 2 = i * 2 + 1 + 1 by omega]
  simp only [rowOf, List.set_cons_succ, List.getElem_cons_succ]
  rw [this]
def protS (ms : List (Nat × Int)) (f : Nat) (prot : Int) : Nat → List (Nat × Int)
 | 0 => ms
 | k + 1 => (protS ms f prot k).set (f + k) ((ms.getD (f + k) (0, 0)).1, prot)
theorem protS_len (ms : List (Nat × Int)) (f : Nat) (prot : Int) : ∀ k, (protS ms f prot k).length = ms.length
 | 0 => rfl
 | k + 1 => by rw [protS, List.length_set, protS_len ms f prot k]
theorem protS_get (ms : List (Nat × Int)) (f : Nat) (prot : Int) (i : Nat) (h : i < ms.length) : ∀ k, (protS ms f prot k)[i]? = some (if f ≤ i ∧ i < f + k then (ms[i].1, prot) else ms[i])
 | 0 => by rw [protS, if_neg (by omega), List.getElem?_eq_getElem h]
 | k + 1 => by
  rw [protS, List.getElem?_set, protS_len]
  by_cases e : f + k = i
  ·subst e
   rw [if_pos rfl, if_pos h, if_pos (by omega), getD_at h]
  ·rw [if_neg e, protS_get ms f prot i h k]
   by_cases c : f ≤ i ∧ i < f + k
   ·rw [if_pos c, if_pos (by omega)]
   ·rw [if_neg c, if_neg (by omega)]
theorem range_iff {ms : List (Nat × Int)} (hs : Srt ms) {page last : Nat} (hl : page ≤ last) (i : Nat) (h : i < ms.length) : ((lo ms page).length ≤ i ∧ i < (lo ms page).length + (mid ms page last).length) ↔ (page ≤ ms[i].1 ∧ ms[i].1 ≤ last) := by
 have e := parts ms hs page last hl
 have hg : ms[i]? = (lo ms page ++ mid ms page last ++ hi ms last)[i]? := congrArg (fun l => l[i]?) e
 rw [List.getElem?_eq_getElem h] at hg
 by_cases c1 : i < (lo ms page).length
 ·rw [List.append_assoc, List.getElem?_append_left c1, List.getElem?_eq_getElem c1] at hg
  have hm : (lo ms page)[i] ∈ lo ms page := List.getElem_mem c1
  have := (lo_mem.1 hm).2
  simp only [Option.some.injEq] at hg
  rw [← hg] at this
  constructor
  iterate 2
   ·intro q; omega
 ·by_cases c2 : i < (lo ms page).length + (mid ms page last).length
  ·rw [List.getElem?_append_left (by rw [List.length_append]; exact c2), List.getElem?_append_right (by omega), List.getElem?_eq_getElem (by omega)] at hg
   have hm : (mid ms page last)[i - (lo ms page).length]'(by omega) ∈ mid ms page last := List.getElem_mem _
   have := (mid_mem.1 hm).2
   simp only [Option.some.injEq] at hg
   rw [← hg] at this
   constructor
   ·intro q; exact this
   ·intro q; omega
  ·have hl3 := parts_len ms hs page last hl
   rw [List.getElem?_append_right (by rw [List.length_append]; omega), List.getElem?_eq_getElem (by rw [List.length_append]; omega)] at hg
   have hm : (hi ms last)[i - (lo ms page ++ mid ms page last).length]'(by rw [List.length_append]; omega) ∈ hi ms last := List.getElem_mem _
   have := (hi_mem.1 hm).2
   simp only [Option.some.injEq] at hg
   rw [← hg] at this
   constructor
   iterate 2
    ·intro q; omega
theorem protS_eq {ms : List (Nat × Int)} (hs : Srt ms) {page last : Nat} (prot : Int) (hl : page ≤ last) : protS ms (lo ms page).length prot (mid ms page last).length = protL page last prot ms := by
 apply List.ext_getElem?
 intro i
 by_cases h : i < ms.length
 ·rw [protS_get ms _ prot i h, protL, List.getElem?_map, List.getElem?_eq_getElem h]
  simp only [Option.map_some, protX]
  have := range_iff hs hl i h
  by_cases c : page ≤ ms[i].1 ∧ ms[i].1 ≤ last
  ·rw [if_pos c, if_pos (this.2 c)]
  ·rw [if_neg c, if_neg (fun q => c (this.1 q))]
 ·rw [List.getElem?_eq_none (by rw [protS_len]; omega), List.getElem?_eq_none (by rw [protL, List.length_map]; omega)]
theorem Pg.rowOf_set1 (k : IntKind) : ∀ (xs : List (Nat × Int)) (i : Nat) (h : i < xs.length) (r : Int), (Pg.rowOf k xs).set (i * 2 + 1) (.int k r) = Pg.rowOf k (xs.set i (xs[i].1, r))
 | x :: xs, 0, h, r => by simp [Pg.rowOf]
 | x :: xs, i + 1, h, r => by
  have := Pg.rowOf_set1 k xs i (by simpa using h) r
  rw [show (i + 1) * 2 = i * 2 + 1 + 1 by omega]
  simp only [Pg.rowOf, List.set_cons_succ, List.getElem_cons_succ]
  rw [this]
theorem own_kinds {w : World} {B B' n n' e e' : Nat} {v : Value} {k' p' : Nat} {xs ys : List Value} {g : Nat} (h : w.ownsRow B e 2 v n xs) (h' : w.ownsRow B' e' 2 (.slice (some ⟨g, 0, none⟩) k' p') n' ys) (hne : e ≠ e') : v.ownBlock ≠ some g := by
 intro hv
 obtain ⟨c, fz, h1⟩ := Go.Lib.ownsRow_kind h g hv
 obtain ⟨c', fz', h2⟩ := Go.Lib.ownsRow_kind h' g rfl
 rw [h1] at h2
 simp at h2
 exact hne h2.2.1
theorem Wb.ne_row {w : World} {wb B e n : Nat} {x0 x1 x2 x3 : Value} {k p g : Nat} {xs : List Value} (h : Wb w wb x0 x1 x2 x3) (h' : w.ownsRow B e 2 (.slice (some ⟨g, 0, none⟩) k p) n xs) (he : e ≠ 88) : wb ≠ g := fun c => by
 subst c
 obtain ⟨c', fz', h2⟩ := Go.Lib.ownsRow_kind h' wb rfl
 rw [Wb] at h
 rw [h] at h2
 simp at h2
 exact he h2.2.1.symm
set_option maxHeartbeats 4000000 in
theorem gprot50_no (B wb first n bs last : Nat) (prot : Int) (ms cs ps : List (Nat × Int)) (w : World) (hW : Wk B w wb ms cs ps bs) (hs : Srt ps) (hpl : ps.length ≤ 256) (hg : gpagesOk first n = true) (hla : last = first + n - 1) (hno : (mid ps first last).length ≠ n) :
  Calls Tryz.prog 63 #[.pointer (some ⟨wb, 0, none⟩), .int .u32 (first : Int), .int .u32 (n : Int), .int .i64 prot] w fun e w' => e = .returned (.int .i64 12) ∧ Wk B w' wb ms cs ps bs ∧ Below w.heap.size w w' := by
 have HWK : Hid (∀ w', Below w.heap.size w w' → Wk B w' wb ms cs ps bs) := fun w' h => hW.keep h
 have hgg : n ≠ 0 ∧ first + n ≤ 1048576 := by simpa [gpagesOk] using hg
 obtain ⟨vm, vc, vp, hb, ho, hB⟩ := hW
 have K67 := gspan67 vp ps first n last w ho.p hs (by omega) hgg.1 (by omega) hla
 have hlen : (lo ps first).length + (mid ps first last).length ≤ ps.length := by
  have := parts_len ps hs first last (by omega)
  omega
 obtain ⟨ap, pp, hvp, lp1, lp2⟩ : ∃ a p, vp = .slice a ps.length p ∧ ps.length ≤ p ∧ p ≤ 9223372036854775807 := by obtain ⟨a, p, h, h1, h2, _⟩ := ho.p; exact ⟨_, _, h, h1, h2⟩
 subst hvp
 have C3 := hb.c3
 generalize (mid ps first last).length = md at K67 hlen hno
 generalize (lo ps first).length = f at K67 hlen
 obtain ⟨t, ht⟩ : ∃ t, t = f + md := ⟨_, rfl⟩
 rw [← ht] at K67
 have y1 : (t : Int) - (f : Int) = (md : Int) := by omega
 have y5 : IntKind.i64.wrap (n : Int) = (n : Int) := by rw [IntKind.wrap_i64]; omega
 have y2 : ((md : Int) != (n : Int)) = true := by simp; omega
 have y3 : ¬ (md : Int) = (n : Int) := by omega
 have y6 : (md : Int) ≤ 256 := by omega
 have y7 : (t : Int) ≤ 256 := by omega
 have y8 : (f : Int) ≤ 256 := by omega
 clear ho hb hB hs hg hgg hla hlen ht
 go_enter Tryz.func63, Tryz.ntmps63
 go_wp2_with fail
 refine K67.mono ?_
 rintro e w1 ⟨rfl, hb1⟩
 go_wp2
 go_ret
 exact ⟨rfl, HWK.out _ hb1, hb1⟩
set_option maxHeartbeats 4000000 in
theorem gprot50_ok (B wb first n bs last : Nat) (prot : Int) (ms cs ps : List (Nat × Int)) (w : World) (hW : Wk B w wb ms cs ps bs) (hs : Srt ps) (hpl : ps.length ≤ 256) (hg : gpagesOk first n = true) (hla : last = first + n - 1) (hno : (mid ps first last).length = n) :
  Calls Tryz.prog 63 #[.pointer (some ⟨wb, 0, none⟩), .int .u32 (first : Int), .int .u32 (n : Int), .int .i64 prot] w fun e w' => e = .returned (.int .i64 0) ∧ Wk B w' wb ms cs (protL first last prot ps) bs ∧ Below B w w' := by
 have hgg : n ≠ 0 ∧ first + n ≤ 1048576 := by simpa [gpagesOk] using hg
 obtain ⟨vm, vc, vp, hb, ho, hB⟩ := hW
 have K67 := gspan67 vp ps first n last w ho.p hs (by omega) hgg.1 (by omega) hla
 have hlen : (lo ps first).length + (mid ps first last).length ≤ ps.length := by
  have := parts_len ps hs first last (by omega)
  omega
 obtain ⟨ap, pp, hvp, lp1, lp2⟩ : ∃ a p, vp = .slice a ps.length p ∧ ps.length ≤ p ∧ p ≤ 9223372036854775807 := by obtain ⟨a, p, h, h1, h2, _⟩ := ho.p; exact ⟨_, _, h, h1, h2⟩
 subst hvp
 have C3 := hb.c3
 have hzs := protS_eq hs prot (show first ≤ last by omega)
 obtain ⟨mm, hmm⟩ : ∃ x, x = (mid ps first last).length := ⟨_, rfl⟩
 obtain ⟨f, hf⟩ : ∃ x, x = (lo ps first).length := ⟨_, rfl⟩
 rw [← hmm, ← hf] at K67 hlen hzs
 rw [← hmm] at hno
 obtain ⟨t, ht⟩ : ∃ t, t = f + mm := ⟨_, rfl⟩
 rw [← ht] at K67 hlen
 obtain ⟨zs, hz⟩ : ∃ z, z = protL first last prot ps := ⟨_, rfl⟩
 rw [← hz]
 rw [← hz] at hzs
 have HZ : Hid (protS ps f prot mm = zs) := hzs
 obtain ⟨g, hg1, hgB⟩ : ∃ g, ap = some ⟨g, 0, none⟩ ∧ B ≤ g := by
  rcases ho.2.2 with ⟨e, hn0⟩ | ⟨g, cap, cur, e, hBg, _⟩
  ·omega
  ·simp only [Value.slice.injEq] at e
   exact ⟨g, e.1, hBg⟩
 subst hg1
 have HT : Hid (t = f + mm ∧ t ≤ ps.length) := ⟨ht, hlen⟩
 have y1 : (t : Int) - (f : Int) = (mm : Int) := by omega
 have y5 : IntKind.i64.wrap (n : Int) = (n : Int) := by rw [IntKind.wrap_i64]; omega
 have y2 : ((mm : Int) != (n : Int)) = false := by simp; omega
 have y3 : (mm : Int) = (n : Int) := by omega
 obtain rfl : mm = n := hno
 have HO : Hid (OwnG B w vm vc (.slice (some ⟨g, 0, none⟩) ps.length pp) ms cs ps ∧ B ≤ w.heap.size ∧ Wb w wb vm vc (.int .u64 (bs : Int)) (.slice (some ⟨g, 0, none⟩) ps.length pp)) := ⟨ho, hB, hb⟩
 clear ho hb hB hs hg hgg hla hlen ht hz hzs hmm hf y3
 go_enter Tryz.func63, Tryz.ntmps63
 go_wp2_with fail
 refine K67.mono ?_
 rintro e w1 ⟨rfl, hb1⟩
 clear K67
 go_wp2
 go_loopw [11] (fun i wr => ∃ k : Nat, k ≤ mm ∧ i = .int .i64 ((f + k : Nat) : Int) ∧ wr.ownsRow B 53 2 (.slice (some ⟨g, 0, none⟩) ps.length pp) ps.length (Pg.rowOf .i64 (protS ps f prot k)) ∧ OwnH B wr vm vc ms cs ∧ Wb wr wb vm vc (.int .u64 (bs : Int)) (.slice (some ⟨g, 0, none⟩) ps.length pp) ∧ B ≤ wr.heap.size ∧ Below B w wr) (fun i _ => t - (intOf i).toNat)
 case atStart => exact ⟨0, Nat.zero_le _, rfl, own_keep HO.out.1.2 hb1, HO.out.1.1.keep hb1, HO.out.2.2.keep hb1, Nat.le_trans HO.out.2.1 hb1.size, hb1.mono HO.out.2.1⟩
 case round =>
  obtain ⟨k, hk, rfl, ho1, ho2, hwb, hsB, hbw⟩ := hrel
  have u3 := hwb.c3
  by_cases hkm : k < mm
  ·obtain ⟨ix, hix⟩ : ∃ t, t = f + k := ⟨_, rfl⟩
   have hixl : ix < ps.length := by have := HT.out; omega
   have hixt : (ix : Int) < (t : Int) := by have := HT.out; omega
   obtain ⟨r0', r1'⟩ := Pg.rowOf_even .i64 (protS ps f prot k) ix (by rw [protS_len]; exact hixl)
   have d1 := ho1.cellAt (ix * 2 + 1) (by omega)
   rw [r1'] at d1
   have f1 := ho1.frozenAt (ix * 2 + 1)
   have HR : Hid ((wr.setCell ⟨g, ix * 2 + 1, none⟩ (.int .i64 prot)).ownsRow B 53 2 (.slice (some ⟨g, 0, none⟩) ps.length pp) ps.length (Pg.rowOf .i64 (protS ps f prot (k + 1)))) := by
    have h := (ho1.stored (ix * 2 + 1) (.int .i64 prot)).1
    rw [Pg.rowOf_set1 .i64 _ ix (by rw [protS_len]; exact hixl)] at h
    have e1 : (protS ps f prot k)[ix]'(by rw [protS_len]; exact hixl) = ps[ix] := by
     have h2 := protS_get ps f prot ix hixl k
     rw [if_neg (by omega), List.getElem?_eq_getElem (by rw [protS_len]; exact hixl)] at h2
     simpa using h2
    rw [e1] at h
    rw [protS, ← hix, getD_at hixl]
    exact h
   have HR2 : Hid (OwnH B (wr.setCell ⟨g, ix * 2 + 1, none⟩ (.int .i64 prot)) vm vc ms cs) := ⟨ownsRow_setCell_other ho2.1 (own_kinds ho2.1 ho1 (by decide)) _, ownsRow_setCell_other ho2.2 (own_kinds ho2.2 ho1 (by decide)) _⟩
   have HU : Hid (Wb (wr.setCell ⟨g, ix * 2 + 1, none⟩ (.int .i64 prot)) wb vm vc (.int .u64 (bs : Int)) (.slice (some ⟨g, 0, none⟩) ps.length pp) ∧ B ≤ (wr.setCell ⟨g, ix * 2 + 1, none⟩ (.int .i64 prot)).heap.size ∧ Below B w (wr.setCell ⟨g, ix * 2 + 1, none⟩ (.int .i64 prot))) :=
    ⟨(Below.heap_setCell wr ⟨g, ix * 2 + 1, none⟩ _ wb (hwb.ne_row ho1 (by decide))).trans hwb, by simpa [World.setCell] using hsB, below_set hbw (by simpa using hgB) _⟩
   have HIX : Hid (ix = f + k) := hix
   rw [← hix]
   clear r0' r1' ho1 ho2 hix hbw hwb hsB
   go_wp2
   go_roundw
   case rel => exact ⟨k + 1, by omega, by have := HIX.out; go_num, HR.out, HR2.out, HU.out.1, HU.out.2.1, HU.out.2.2⟩
   case measure => simp [intOf]; omega
  ·obtain rfl : k = mm := by omega
   rw [HZ.out] at ho1
   have hlz : zs.length = ps.length := by rw [← HZ.out, protS_len]
   have htt : ¬ ((f + k : Nat) : Int) < (t : Int) := by have := HT.out; omega
   obtain ⟨ix, hix⟩ : ∃ t, t = f + k := ⟨_, rfl⟩
   rw [← hix] at htt ⊢
   have HF : Hid (Wk B wr wb ms cs zs bs ∧ Below B w wr) := ⟨⟨vm, vc, _, hwb, ⟨ho2, by rw [hlz]; exact ho1⟩, hsB⟩, hbw⟩
   clear hlz hix ho1 ho2 hwb hsB hbw
   go_wp2
   go_ret
   exact ⟨rfl, HF.out.1, HF.out.2⟩
end Go.Proofs.YtkpmkgkfpikpfaaGreat
