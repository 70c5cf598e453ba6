/- What is proved here: blocks of two cells that a statement lays, among rows of one's own. -/
import Derived.Test.YtkpmkgkfpikpfaaGreatCopied
import Derived.Lib.OwnKind
import Derived.OneCell
import Derived.Test.YtkpmkgkfpikpfaaGreatGplain
import Derived.Test.YtkpmkgkfpikpfaaGreatHeld
import Derived.Laws.OwnMore
import Derived.LoopTactic
import Derived.Test.YtkpmkgkfpikpfaaGreatGdoc
import Derived.Test.YtkpmkgkfpikpfaaGreatBackPlain
import Derived.Laws.StructEq
import Derived.Test.YtkpmkgkfpikpfaaGreatGmap2
import Derived.Test.YtkpmkgkfpikpfaaGreatPlain
namespace Go.Proofs.YtkpmkgkfpikpfaaGreat
open Go.RowKit
set_option maxRecDepth 100000
set_option linter.unusedVariables false
/-- A block of two cells, of a memory's type. -/
def Blk (w : World) (b : Nat) (x y : Value) : Prop := w.heap[b]? = some (.cells #[x, y] 25 (0, 0))
theorem Blk.lt {w : World} {b : Nat} {x y : Value} (h : Blk w b x y) : b < w.heap.size := by
  rw [Blk, Array.getElem?_eq_some_iff] at h
  exact h.1
theorem Blk.c0 {w : World} {b : Nat} {x y : Value} (h : Blk w b x y) : w.cell? ⟨b, 0, none⟩ = some x := by
  rw [Blk] at h; simp [World.cell?, h]
theorem Blk.c1 {w : World} {b : Nat} {x y : Value} (h : Blk w b x y) : w.cell? ⟨b, 1, none⟩ = some y := by
  rw [Blk] at h; simp [World.cell?, h]
theorem Blk.f0 {w : World} {b : Nat} {x y : Value} (h : Blk w b x y) : w.frozen? ⟨b, 0, none⟩ = false := by
  rw [Blk] at h; simp [World.frozen?, h]
theorem Blk.f1 {w : World} {b : Nat} {x y : Value} (h : Blk w b x y) : w.frozen? ⟨b, 1, none⟩ = false := by
  rw [Blk] at h; simp [World.frozen?, h]
theorem Blk.new {w : World} {x y : Value} {n : Nat} (h : n = w.heap.size) : Blk (w.alloc (.cells #[x, y] 25)) n x y := by
  subst h
  show (w.heap.push _)[w.heap.size]? = _
  simp
theorem Blk.keep {w w' : World} {b : Nat} {x y : Value} (hb : Below w.heap.size w w') (h : Blk w b x y) : Blk w' b x y := (hb.block b h.lt).trans h
theorem Blk.alloc {w : World} {b : Nat} {x y : Value} (h : Blk w b x y) (o : Obj) : Blk (w.alloc o) b x y := h.keep ((Below.refl _ _).alloc (Nat.le_refl _) _)
theorem Blk.drew {w : World} {b : Nat} {x y : Value} (h : Blk w b x y) : Blk w.drew b x y := h.keep (Below.refl _ _).drew
theorem Blk.own {w : World} {b B e n i : Nat} {x y v : Value} {xs : List Value} (hb : Blk w b x y) (he : e ≠ 25) (h : w.ownsRow B e 2 v n xs) (u : Value) : (w.setCell ⟨b, i, none⟩ u).ownsRow B e 2 v n xs := by
  refine ownsRow_setCell_other h (fun e' => ?_) u
  obtain ⟨c, fz, hk⟩ := Go.Lib.ownsRow_kind h b e'
  rw [Blk] at hb
  rw [hb] at hk
  simp at hk
  exact he hk.2.1.symm
theorem OwnH.blk {w : World} {b B i : Nat} {x y vm vc : Value} {ms cs : List (Nat × Int)} (h : OwnH B w vm vc ms cs) (hb : Blk w b x y) (u : Value) : OwnH B (w.setCell ⟨b, i, none⟩ u) vm vc ms cs :=
  ⟨hb.own (by decide) h.1 u, hb.own (by decide) h.2 u⟩
end Go.Proofs.YtkpmkgkfpikpfaaGreat
namespace Go.Proofs.YtkpmkgkfpikpfaaGreat
open Go.RowKit
set_option linter.unusedVariables false
set_option linter.unusedSimpArgs false
set_option maxRecDepth 100000
/-- The state of a round. -/
def FarI (n0 : Nat) (W wr : World) (s t : Value) (A C : List (Nat × Int)) : Prop := Blk wr (n0 + 2) s t ∧ OwnH (n0 + 3) wr s t A C ∧ Below (n0 + 2) W wr ∧ n0 + 3 ≤ wr.heap.size
theorem FarI.box {n0 : Nat} {W wr : World} {s t : Value} {A C : List (Nat × Int)} (o : Obj) (h : FarI n0 W wr s t A C) : FarI n0 W (wr.alloc o) s t A C :=
  ⟨h.1.alloc o, ⟨own_alloc h.2.1.1 o, own_alloc h.2.1.2 o⟩, h.2.2.1.alloc (by have := h.2.2.2; omega) o, by have := h.2.2.2; simp; omega⟩
end Go.Proofs.YtkpmkgkfpikpfaaGreat
namespace Go.Proofs.YtkpmkgkfpikpfaaGreat
open Go.RowKit
set_option linter.unusedVariables false
set_option linter.unusedSimpArgs false
set_option maxRecDepth 100000
def sameG (ms cs ps : List (Nat × Int)) (bs : Nat) (ms' cs' ps' : List (Nat × Int)) (bs' : Nat) : Bool := decide (ms = ms' ∧ cs = cs' ∧ bs = bs' ∧ ps = ps')
set_option maxHeartbeats 4000000 in
theorem rsame13 (vm vc vp vm' vc' vp' : Value) (ms cs ps ms' cs' ps' : List (Nat × Int)) (bs bs' : Nat) (w : World) (hsl : SlG w vm vc vp ms cs ps) (hsl' : SlG w vm' vc' vp' ms' cs' ps') :
    Calls Tryz.prog 38 #[.agg #[vm, vc, .int .u64 (bs : Int), vp], .agg #[vm', vc', .int .u64 (bs' : Int), vp']] w fun e w' => e = .returned (.bool (sameG ms cs ps bs ms' cs' ps' bs')) ∧ Below w.heap.size w w' := by
  obtain ⟨X, hX, hx, hxs, c0, c1, c2, c3, _⟩ := box4 w vm vc (.int .u64 (bs : Int)) vp 29
  obtain ⟨W, hW, hb, hsz, a0, a1, a2, a3, _⟩ := box4 X vm' vc' (.int .u64 (bs' : Int)) vp' 29
  rw [hxs] at a0 a1 a2 a3
  have c0 := keep_cell hb c0
  have c1 := keep_cell hb c1
  have c2 := keep_cell hb c2
  have c3 := keep_cell hb c3
  have hb := below_tr hx hb
  have KS : Hid (∀ w', Below W.heap.size W w' → Calls Tryz.prog 65 #[.agg #[vm, vc], .agg #[vm', vc']] w' fun e w'' => e = .returned (.bool (decide (ms = ms' ∧ cs = cs'))) ∧ Below w'.heap.size w' w'') := fun w' hb' => rsame12 vm vc vm' vc' ms cs ms' cs' w' (hsl.1.keep (below_tr hb hb')) (hsl.2.1.keep (below_tr hb hb')) (hsl'.1.keep (below_tr hb hb')) (hsl'.2.1.keep (below_tr hb hb'))
  obtain ⟨am, nm, pm, ac, nc, pc, _, _, _, rfl, rfl, -⟩ := hsl.shape
  obtain ⟨am', nm', pm', ac', nc', pc', _, _, _, rfl, rfl, -⟩ := hsl'.shape
  obtain ⟨ap, cp, rfl, x1, x2, _, x4⟩ := hsl.2.2.keep hb
  obtain ⟨ap', cp', rfl, u1, u2, _, u4⟩ := hsl'.2.2.keep hb
  have HXm : Hid _ := x4
  have HYm : Hid _ := u4
  clear x4 u4 hsl hsl'
  by_cases hh : ms = ms' ∧ cs = cs'
  case neg =>
    have HR : Hid (sameG ms cs ps bs ms' cs' ps' bs' = false) := by
      have h : ¬ (ms = ms' ∧ cs = cs' ∧ bs = bs' ∧ ps = ps') := fun ⟨q1, q2, _⟩ => hh ⟨q1, q2⟩
      exact (decide_eq_false h : sameG _ _ _ _ _ _ _ _ = false)
    rw [decide_eq_false hh] at KS
    go_enter Tryz.func38, Tryz.ntmps38
    go_wp2_with fail
    refine (KS.out W (Below.refl _ _)).mono ?_
    rintro e w1 ⟨rfl, hb1⟩
    go_wp2
    go_ret
    exact ⟨by rw [HR.out]; rfl, below_tr hb hb1⟩
  rw [decide_eq_true hh] at KS
  have HH : Hid (ms = ms' ∧ cs = cs') := hh
  clear hh
  by_cases hbb : bs = bs'
  case neg =>
    have HR : Hid (sameG ms cs ps bs ms' cs' ps' bs' = false) := by
      have h : ¬ (ms = ms' ∧ cs = cs' ∧ bs = bs' ∧ ps = ps') := fun ⟨_, _, q1, _⟩ => hbb q1
      exact (decide_eq_false h : sameG _ _ _ _ _ _ _ _ = false)
    have hbn : ((bs : Int) != (bs' : Int)) = true := by simp; omega
    go_enter Tryz.func38, Tryz.ntmps38
    go_wp2_with fail
    refine (KS.out W (Below.refl _ _)).mono ?_
    rintro e w1 ⟨rfl, hb1⟩
    have c2 := keep_cell hb1 c2
    have a2 := keep_cell hb1 a2
    go_wp2
    go_ret
    exact ⟨by rw [HR.out]; rfl, below_tr hb hb1⟩
  subst hbb
  by_cases hl1 : ps.length = ps'.length
  case neg =>
    have HR : Hid (sameG ms cs ps bs ms' cs' ps' bs = false) := by
      have h : ¬ (ms = ms' ∧ cs = cs' ∧ bs = bs ∧ ps = ps') := fun ⟨_, _, _, e⟩ => by subst e; exact hl1 rfl
      exact (decide_eq_false h : sameG _ _ _ _ _ _ _ _ = false)
    have hl' : ((ps.length : Int) != (ps'.length : Int)) = true := by simp; omega
    go_enter Tryz.func38, Tryz.ntmps38
    go_wp2_with fail
    refine (KS.out W (Below.refl _ _)).mono ?_
    rintro e w1 ⟨rfl, hb1⟩
    have c2 := keep_cell hb1 c2
    have a2 := keep_cell hb1 a2
    have c3 := keep_cell hb1 c3
    have a3 := keep_cell hb1 a3
    go_wp2
    go_ret
    exact ⟨by rw [HR.out]; rfl, below_tr hb hb1⟩
  rw [← hl1] at u1 a3 hW ⊢
  have HLm : Hid (ps.length = ps'.length) := hl1
  clear hl1
  go_enter Tryz.func38, Tryz.ntmps38
  go_wp2_with fail
  refine (KS.out W (Below.refl _ _)).mono ?_
  rintro e w1 ⟨rfl, hb1⟩
  have c2 := keep_cell hb1 c2
  have a2 := keep_cell hb1 a2
  have c3 := keep_cell hb1 c3
  have a3 := keep_cell hb1 a3
  have hb := below_tr hb hb1
  have HXm : Hid (∀ i (h : i < ps.length), ∃ b o, ap = some ⟨b, o, none⟩ ∧ w1.cell? ⟨b, o + i * 2, none⟩ = some (.int .u32 (ps[i].1 : Int)) ∧ w1.cell? ⟨b, o + i * 2 + 1, none⟩ = some (.int .i64 ps[i].2)) := fun i hi => by
    obtain ⟨b, o, e, x, y⟩ := HXm.out i hi
    exact ⟨b, o, e, keep_cell hb1 x, keep_cell hb1 y⟩
  have HYm : Hid (∀ i (h : i < ps'.length), ∃ b o, ap' = some ⟨b, o, none⟩ ∧ w1.cell? ⟨b, o + i * 2, none⟩ = some (.int .u32 (ps'[i].1 : Int)) ∧ w1.cell? ⟨b, o + i * 2 + 1, none⟩ = some (.int .i64 ps'[i].2)) := fun i hi => by
    obtain ⟨b, o, e, x, y⟩ := HYm.out i hi
    exact ⟨b, o, e, keep_cell hb1 x, keep_cell hb1 y⟩
  clear hb1 KS
  go_wp2
  go_loopw [5] (fun i wr => ∃ k : Nat, k ≤ ps.length ∧ i = .int .i64 (k : Int) ∧ ps.take k = ps'.take k ∧ Below w1.heap.size w1 wr) (fun i _ => ps.length - (intOf i).toNat)
  case atStart => exact ⟨0, Nat.zero_le _, rfl, rfl, Below.refl _ _⟩
  case round =>
    obtain ⟨k, hk, rfl, htk, hbr⟩ := hrel
    have HT : Hid (ps.take k = ps'.take k) := htk
    clear htk
    have hbw := below_tr hb hbr
    have z2 := keep_cell hbr c3
    have z3 := keep_cell hbr a3
    by_cases hkl : k < ps.length
    · have hkl' : k < ps'.length := by rw [← HLm.out]; exact hkl
      obtain ⟨b, o, rfl, d0, d1⟩ := HXm.out k hkl
      obtain ⟨b', o', rfl, d0', d1'⟩ := HYm.out k hkl'
      have e0 := keep_cell hbr d0
      have e1 := keep_cell hbr d1
      have e0' := keep_cell hbr d0'
      have e1' := keep_cell hbr d1'
      clear d0 d1 d0' d1'
      by_cases he : ps[k] = ps'[k]'(by rw [← HLm.out]; exact hkl)
      · have HR : Hid (ps.take (k + 1) = ps'.take (k + 1)) := by
          rw [List.take_add_one, List.take_add_one, HT.out, List.getElem?_eq_getElem hkl, List.getElem?_eq_getElem (by rw [← HLm.out]; exact hkl), he]; rfl
        rw [← he] at e0' e1'
        obtain ⟨p, hp⟩ : ∃ p, p = ps[k].1 := ⟨_, rfl⟩
        obtain ⟨r, hr⟩ : ∃ r, r = ps[k].2 := ⟨_, rfl⟩
        rw [← hp] at e0 e0'
        rw [← hr] at e1 e1'
        clear he hp hr
        go_wp2
        go_region_held3 (fun w' => Below w.heap.size w w' ∧ w'.cell? ⟨w.heap.size, 3, none⟩ = some (.slice (some ⟨b, o, none⟩) ps.length cp) ∧ w'.cell? ⟨w.heap.size + 1, 3, none⟩ = some (.slice (some ⟨b', o', none⟩) ps.length cp') ∧ w'.cell? ⟨b, o + k * 2, none⟩ = some (.int .u32 (p : Int)) ∧ w'.cell? ⟨b, o + k * 2 + 1, none⟩ = some (.int .i64 r) ∧ w'.cell? ⟨b', o' + k * 2, none⟩ = some (.int .u32 (p : Int)) ∧ w'.cell? ⟨b', o' + k * 2 + 1, none⟩ = some (.int .i64 r)) (refine ⟨?_, ?_, ?_, ?_, ?_, ?_, ?_⟩ <;> first | (with_reducible refine Free.cell ?_; (repeat (first | with_reducible assumption | with_reducible refine Free.drew ?_ | with_reducible refine Free.alloc ?_ _ | with_reducible refine Free.set ?_ _ _ | with_reducible refine Free.keep (by with_reducible assumption) ?_)); done) | (with_reducible refine Free.frozen ?_; (repeat (first | with_reducible assumption | with_reducible refine Free.drew ?_ | with_reducible refine Free.alloc ?_ _ | with_reducible refine Free.set ?_ _ _ | with_reducible refine Free.keep (by with_reducible assumption) ?_)); done) | ((repeat (first | with_reducible assumption | with_reducible exact Below.refl _ _ | with_reducible refine Below.drew ?_ | with_reducible refine below_alloc ?_ _ | (with_reducible refine below_set ?_ ?_ _; rotate_left; focus (first | (simp; done) | (simp; omega))) | with_reducible refine below_tr ?_ (by with_reducible assumption))); done) | ((repeat (first | with_reducible assumption | with_reducible refine cell_drew ?_ | (with_reducible refine cell_newA _ _ _ _ _ _ ?_ rfl; (simp [*]; done)) | with_reducible refine cell_old ?_ _ | (with_reducible refine cell_far ?_ ?_ _; rotate_left; focus (first | (simp; done) | (simp; omega))) | with_reducible refine keep_cell (by with_reducible assumption) ?_)); done)) (fail)
        all_goals go_wp2
        go_roundw
        case rel => exact ⟨k + 1, by omega, by go_num, HR.out, (by (repeat (first | with_reducible assumption | with_reducible exact Below.refl _ _ | with_reducible refine Below.drew ?_ | with_reducible refine below_alloc ?_ _ | (with_reducible refine below_set ?_ ?_ _; rotate_left; focus (first | (simp; done) | (simp; omega))) | with_reducible refine below_tr ?_ (by with_reducible assumption))))⟩
        case measure => simp [intOf]; omega
      · have HR : Hid (sameG ms cs ps bs ms' cs' ps' bs = false) := by
          have h : ¬ (ms = ms' ∧ cs = cs' ∧ bs = bs ∧ ps = ps') := by rintro ⟨_, _, _, q2⟩; subst q2; exact he rfl
          exact (decide_eq_false h : sameG _ _ _ _ _ _ _ _ = false)
        obtain ⟨p, hp⟩ : ∃ p, p = ps[k].1 := ⟨_, rfl⟩
        obtain ⟨r, hr⟩ : ∃ r, r = ps[k].2 := ⟨_, rfl⟩
        obtain ⟨p', hp'⟩ : ∃ p, p = (ps'[k]'(by rw [← HLm.out]; exact hkl)).1 := ⟨_, rfl⟩
        obtain ⟨r', hr'⟩ : ∃ r, r = (ps'[k]'(by rw [← HLm.out]; exact hkl)).2 := ⟨_, rfl⟩
        have hne : p = p' → ¬ r = r' := by
          rintro h1 h2
          exact he (Prod.ext (by rw [← hp, ← hp', h1]) (by rw [← hr, ← hr', h2]))
        rw [← hp] at e0
        rw [← hr] at e1
        rw [← hp'] at e0'
        rw [← hr'] at e1'
        clear he hp hr hp' hr'
        rcases (show ¬ ((p : Int) = (p' : Int)) ∨ (p = p' ∧ ¬ r = r') by
          by_cases e : p = p'
          · exact Or.inr ⟨e, hne e⟩
          · exact Or.inl (by omega)) with hq | ⟨rfl, hq⟩
        · clear hne
          go_wp2
          go_region_held3 (fun w' => Below w.heap.size w w' ∧ w'.cell? ⟨w.heap.size, 3, none⟩ = some (.slice (some ⟨b, o, none⟩) ps.length cp) ∧ w'.cell? ⟨w.heap.size + 1, 3, none⟩ = some (.slice (some ⟨b', o', none⟩) ps.length cp') ∧ w'.cell? ⟨b, o + k * 2, none⟩ = some (.int .u32 (p : Int)) ∧ w'.cell? ⟨b, o + k * 2 + 1, none⟩ = some (.int .i64 r) ∧ w'.cell? ⟨b', o' + k * 2, none⟩ = some (.int .u32 (p' : Int)) ∧ w'.cell? ⟨b', o' + k * 2 + 1, none⟩ = some (.int .i64 r')) (refine ⟨?_, ?_, ?_, ?_, ?_, ?_, ?_⟩ <;> first | (with_reducible refine Free.cell ?_; (repeat (first | with_reducible assumption | with_reducible refine Free.drew ?_ | with_reducible refine Free.alloc ?_ _ | with_reducible refine Free.set ?_ _ _ | with_reducible refine Free.keep (by with_reducible assumption) ?_)); done) | (with_reducible refine Free.frozen ?_; (repeat (first | with_reducible assumption | with_reducible refine Free.drew ?_ | with_reducible refine Free.alloc ?_ _ | with_reducible refine Free.set ?_ _ _ | with_reducible refine Free.keep (by with_reducible assumption) ?_)); done) | ((repeat (first | with_reducible assumption | with_reducible exact Below.refl _ _ | with_reducible refine Below.drew ?_ | with_reducible refine below_alloc ?_ _ | (with_reducible refine below_set ?_ ?_ _; rotate_left; focus (first | (simp; done) | (simp; omega))) | with_reducible refine below_tr ?_ (by with_reducible assumption))); done) | ((repeat (first | with_reducible assumption | with_reducible refine cell_drew ?_ | (with_reducible refine cell_newA _ _ _ _ _ _ ?_ rfl; (simp [*]; done)) | with_reducible refine cell_old ?_ _ | (with_reducible refine cell_far ?_ ?_ _; rotate_left; focus (first | (simp; done) | (simp; omega))) | with_reducible refine keep_cell (by with_reducible assumption) ?_)); done)) (fail)
          all_goals go_wp2
          all_goals go_ret
          all_goals exact ⟨by rw [HR.out]; rfl, (by (repeat (first | with_reducible assumption | with_reducible exact Below.refl _ _ | with_reducible refine Below.drew ?_ | with_reducible refine below_alloc ?_ _ | (with_reducible refine below_set ?_ ?_ _; rotate_left; focus (first | (simp; done) | (simp; omega))) | with_reducible refine below_tr ?_ (by with_reducible assumption))))⟩
        · clear hne
          go_wp2
          go_region_held3 (fun w' => Below w.heap.size w w' ∧ w'.cell? ⟨w.heap.size, 3, none⟩ = some (.slice (some ⟨b, o, none⟩) ps.length cp) ∧ w'.cell? ⟨w.heap.size + 1, 3, none⟩ = some (.slice (some ⟨b', o', none⟩) ps.length cp') ∧ w'.cell? ⟨b, o + k * 2, none⟩ = some (.int .u32 (p : Int)) ∧ w'.cell? ⟨b, o + k * 2 + 1, none⟩ = some (.int .i64 r) ∧ w'.cell? ⟨b', o' + k * 2, none⟩ = some (.int .u32 (p : Int)) ∧ w'.cell? ⟨b', o' + k * 2 + 1, none⟩ = some (.int .i64 r')) (refine ⟨?_, ?_, ?_, ?_, ?_, ?_, ?_⟩ <;> first | (with_reducible refine Free.cell ?_; (repeat (first | with_reducible assumption | with_reducible refine Free.drew ?_ | with_reducible refine Free.alloc ?_ _ | with_reducible refine Free.set ?_ _ _ | with_reducible refine Free.keep (by with_reducible assumption) ?_)); done) | (with_reducible refine Free.frozen ?_; (repeat (first | with_reducible assumption | with_reducible refine Free.drew ?_ | with_reducible refine Free.alloc ?_ _ | with_reducible refine Free.set ?_ _ _ | with_reducible refine Free.keep (by with_reducible assumption) ?_)); done) | ((repeat (first | with_reducible assumption | with_reducible exact Below.refl _ _ | with_reducible refine Below.drew ?_ | with_reducible refine below_alloc ?_ _ | (with_reducible refine below_set ?_ ?_ _; rotate_left; focus (first | (simp; done) | (simp; omega))) | with_reducible refine below_tr ?_ (by with_reducible assumption))); done) | ((repeat (first | with_reducible assumption | with_reducible refine cell_drew ?_ | (with_reducible refine cell_newA _ _ _ _ _ _ ?_ rfl; (simp [*]; done)) | with_reducible refine cell_old ?_ _ | (with_reducible refine cell_far ?_ ?_ _; rotate_left; focus (first | (simp; done) | (simp; omega))) | with_reducible refine keep_cell (by with_reducible assumption) ?_)); done)) (fail)
          all_goals go_wp2
          all_goals go_ret
          all_goals exact ⟨by rw [HR.out]; rfl, (by (repeat (first | with_reducible assumption | with_reducible exact Below.refl _ _ | with_reducible refine Below.drew ?_ | with_reducible refine below_alloc ?_ _ | (with_reducible refine below_set ?_ ?_ _; rotate_left; focus (first | (simp; done) | (simp; omega))) | with_reducible refine below_tr ?_ (by with_reducible assumption))))⟩
    · have HR : Hid (sameG ms cs ps bs ms' cs' ps' bs = true) := by
        have := HT.out
        rw [List.take_of_length_le (by omega), List.take_of_length_le (by rw [← HLm.out]; omega)] at this
        exact (decide_eq_true ⟨HH.out.1, HH.out.2, (rfl : bs = bs), this⟩ : sameG _ _ _ _ _ _ _ _ = true)
      go_wp2
      go_ret
      exact ⟨by rw [HR.out]; rfl, hbw⟩
end Go.Proofs.YtkpmkgkfpikpfaaGreat
namespace Go.Proofs.YtkpmkgkfpikpfaaGreat
open Go.RowKit
set_option linter.unusedVariables false
set_option linter.unusedSimpArgs false
set_option maxRecDepth 100000
theorem lo_new {ps : List (Nat × Int)} {first n last : Nat} {prot : Int} (hla : last = first + n - 1) (hn : n ≠ 0) : lo (lo ps first ++ added first prot n ++ hi ps last) first = lo ps first := by
  have h1 : lo (lo ps first) first = lo ps first := List.filter_eq_self.2 (fun x hx => by simpa using (lo_mem.1 hx).2)
  have h2 : lo (added first prot n) first = [] := List.filter_eq_nil_iff.2 (fun x hx => by obtain ⟨i, _, rfl⟩ := added_mem.1 hx; simp)
  have h3 : lo (hi ps last) first = [] := List.filter_eq_nil_iff.2 (fun x hx => by have := (hi_mem.1 hx).2; simp; omega)
  have h4 : ∀ A B : List (Nat × Int), lo (A ++ B) first = lo A first ++ lo B first := fun A B => List.filter_append _ _
  rw [h4, h4, h1, h2, h3]; simp
theorem hi_new {ps : List (Nat × Int)} {first n last : Nat} {prot : Int} (hla : last = first + n - 1) (hn : n ≠ 0) : hi (lo ps first ++ added first prot n ++ hi ps last) last = hi ps last := by
  have h1 : hi (lo ps first) last = [] := List.filter_eq_nil_iff.2 (fun x hx => by have := (lo_mem.1 hx).2; simp; omega)
  have h2 : hi (added first prot n) last = [] := List.filter_eq_nil_iff.2 (fun x hx => by obtain ⟨i, _, rfl⟩ := added_mem.1 hx; simp; omega)
  have h3 : hi (hi ps last) last = hi ps last := List.filter_eq_self.2 (fun x hx => by simpa using (hi_mem.1 hx).2)
  have h4 : ∀ A B : List (Nat × Int), hi (A ++ B) last = hi A last ++ hi B last := fun A B => List.filter_append _ _
  rw [h4, h4, h1, h2, h3]; simp
theorem mid_new {ps : List (Nat × Int)} {first n last : Nat} {prot : Int} (hla : last = first + n - 1) (hn : n ≠ 0) : mid (lo ps first ++ added first prot n ++ hi ps last) first last = added first prot n := by
  have h1 : mid (lo ps first) first last = [] := List.filter_eq_nil_iff.2 (fun x hx => by have := (lo_mem.1 hx).2; simp; omega)
  have h2 : mid (added first prot n) first last = added first prot n := List.filter_eq_self.2 (fun x hx => by obtain ⟨i, _, rfl⟩ := added_mem.1 hx; simp; omega)
  have h3 : mid (hi ps last) first last = [] := List.filter_eq_nil_iff.2 (fun x hx => by have := (hi_mem.1 hx).2; simp; omega)
  have h4 : ∀ A B : List (Nat × Int), mid (A ++ B) first last = mid A first last ++ mid B first last := fun A B => List.filter_append _ _
  rw [h4, h4, h1, h2, h3]; simp
theorem new_srt {ps : List (Nat × Int)} {first n last : Nat} {prot : Int} (hs : Srt ps) (hla : last = first + n - 1) (hn : n ≠ 0) : Srt (lo ps first ++ added first prot n ++ hi ps last) := by
  refine srt_join (srt_join (lo_srt hs _) (added_srt _ _ _) (fun x hx y hy => ?_)) (hi_srt hs _) (fun x hx y hy => ?_)
  · obtain ⟨i, _, rfl⟩ := added_mem.1 hy
    have := (lo_mem.1 hx).2
    simp; omega
  · have h2 := (hi_mem.1 hy).2
    rcases List.mem_append.1 hx with g | g
    · have := (lo_mem.1 g).2
      omega
    · obtain ⟨i, _, rfl⟩ := added_mem.1 g
      simp; omega
theorem new_len {ps : List (Nat × Int)} {first n last : Nat} {prot : Int} (hs : Srt ps) (hab : first ≤ last) : (lo ps first ++ added first prot n ++ hi ps last).length = ps.length - (mid ps first last).length + n := by
  have l := parts_len ps hs first last hab
  simp only [List.length_append, added_len]
  omega
/-- No byte of a page that is not there is other than 0. -/
theorem clear_free {ms cs ps : List (Nat × Int)} {bs first n last : Nat} (h : FitG ms cs ps bs) (hla : last = first + n - 1) (hn : n ≠ 0) (hb : first + n ≤ 1048576) (hm : mid ps first last = []) : clearN cs (bs + first * 4096) (n * 4096) = cs := by
  have hal := h.al
  have hle := h.le
  have e1 : cellOf (bs + first * 4096) = bs + first * 4096 := by unfold cellOf; omega
  have e2 : lastOf (bs + first * 4096) (n * 4096) = bs + first * 4096 + (n * 4096 - 1) := by unfold lastOf; omega
  have hc : mid cs (bs + first * 4096) (bs + first * 4096 + (n * 4096 - 1)) = [] := mid_nil (fun c hc => by
    by_cases g : c.1 < bs + first * 4096 ∨ bs + first * 4096 + (n * 4096 - 1) < c.1
    · exact g
    · exfalso
      have hi := h.rc c hc (by simp [inB]; omega)
      have : isIn ps ((c.1 - bs) / 4096) = false := by
        rw [isIn, List.any_eq_false]
        intro x hx
        simp
        intro e
        have : x ∈ mid ps first last := mid_mem.2 ⟨hx, by omega, by omega⟩
        rw [hm] at this
        simp at this
      rw [protN_no this] at hi
      omega)
  unfold clearN
  rw [if_neg (by omega), e1, e2, hc]
  have := parts cs h.fq.2.2.2.1 (bs + first * 4096) (bs + first * 4096 + (n * 4096 - 1)) (by omega)
  rw [hc] at this
  simpa [clears] using this.symm
theorem back_all {ms cs ps : List (Nat × Int)} {bs : Nat} (h : FitG ms cs ps bs) (ks : List K4) : rF ps bs (msF ps bs ms ks, cs) ks = (ms, cs) := by
  have hr := h.reach
  have hsm := h.fq.2.2.1
  have hsc := h.fq.2.2.2.1
  have hsF : Srt (msF ps bs ms ks) := by
    have : ∀ (l : List K4) (xs : List (Nat × Int)), Srt xs → Srt (msF ps bs xs l) := fun l => by
      induction l with
      | nil => exact fun xs hx => hx
      | cons k l ih => exact fun xs hx => ih _ (stepB_mono k hx).1
    exact this ks ms hsm
  obtain ⟨Q, hQ⟩ : ∃ Q : Nat → Bool, ∀ p, Q p = true ↔ ∀ k ∈ ks, usedN ps k.val = false → p ≠ hp bs k.val := ⟨fun p => ks.all (fun k => usedN ps k.val || decide (p ≠ hp bs k.val)), fun p => by
    rw [List.all_eq_true]
    refine ⟨fun g k hk hu => ?_, fun g k hk => ?_⟩
    · have := g k hk
      rw [hu] at this
      simpa using this
    · cases hu : usedN ps k.val with
      | true => simp
      | false => simpa using g k hk hu⟩
  have q1 : ∀ k ∈ ks, usedN ps k.val = false → Q (hp bs k.val) = false := fun k hk hu => by
    cases e : Q (hp bs k.val) with
    | false => rfl
    | true => exact absurd rfl ((hQ _).1 e k hk hu)
  have q2 : ∀ k ∈ ks, usedN ps k.val = false → ∀ p, p / 16384 = hp bs k.val → (fun p => Q (p / 16384)) p = false := fun k hk hu p e => by
    show Q (p / 16384) = false
    rw [e]; exact q1 k hk hu
  obtain ⟨r1, r2⟩ := rF_by (Q := Q) (Q' := fun p => Q (p / 16384)) ks (msF ps bs ms ks, cs) hsF hsc q1 q2
  obtain ⟨m1, m2⟩ := rF_mem (ps := ps) (bs := bs) ks (msF ps bs ms ks, cs)
  have hms : ∀ x ∈ ms, Q x.1 = true := fun x hx => (hQ _).2 (fun k _ hu => reach_new hr k hu x hx)
  have hcs : ∀ x ∈ cs, Q (x.1 / 16384) = true := fun x hx => by
    obtain ⟨y, hy, e⟩ := (h.fq.2.2.2.2.2 x hx).2.2
    rw [← e]; exact hms y hy
  have e1 : (rF ps bs (msF ps bs ms ks, cs) ks).1 = ms := by
    rw [← by_all (Q := Q) (fun x hx => (hQ _).2 (m1 x hx).2), r1, msF_by ks ms hsm q1, by_all hms]
  have e2 : (rF ps bs (msF ps bs ms ks, cs) ks).2 = cs := by
    rw [← by_all (Q := fun p => Q (p / 16384)) (fun x hx => hcs x (m2 x hx)), r2]
    exact by_all hcs
  exact Prod.ext e1 e2
/-- Map and then Unmap, where no page was. -/
theorem again_eq {ms cs ps : List (Nat × Int)} {bs first n last : Nat} {prot : Int} (h : FitG ms cs ps bs) (hla : last = first + n - 1) (hn : n ≠ 0) (hb : first + n ≤ 1048576) (hm : mid ps first last = []) :
    lo (lo ps first ++ added first prot n ++ hi ps last) first ++ hi (lo ps first ++ added first prot n ++ hi ps last) last = ps ∧
    rF ps bs (msF ps bs ms (ksM (added first prot n) n), clearN cs (bs + first * 4096) (n * 4096)) (ksM (mid (lo ps first ++ added first prot n ++ hi ps last) first last) (mid (lo ps first ++ added first prot n ++ hi ps last) first last).length) = (ms, cs) := by
  have hp := parts ps h.sp first last (by omega)
  rw [hm] at hp
  refine ⟨by rw [lo_new hla hn, hi_new hla hn]; simpa using hp.symm, ?_⟩
  rw [mid_new hla hn, added_len, clear_free h hla hn hb hm]
  exact back_all h _
end Go.Proofs.YtkpmkgkfpikpfaaGreat
namespace Go.Proofs.YtkpmkgkfpikpfaaGreat
open Go.RowKit
set_option linter.unusedVariables false
set_option linter.unusedSimpArgs false
set_option maxRecDepth 100000
theorem cut_sub {xs : List (Nat × Int)} (hs : Srt xs) {a b : Nat} (hab : a ≤ b) : (lo xs a ++ hi xs b).Sublist xs := by
  conv => rhs; rw [parts xs hs a b hab]
  exact List.Sublist.append (List.sublist_append_left _ _) (List.Sublist.refl _)
theorem rF_sub {ps : List (Nat × Int)} {bs : Nat} : ∀ (ks : List K4) (h : List (Nat × Int) × List (Nat × Int)), Srt h.1 → Srt h.2 → (rF ps bs h ks).1.Sublist h.1 ∧ (rF ps bs h ks).2.Sublist h.2
  | [], h, _, _ => ⟨List.Sublist.refl _, List.Sublist.refl _⟩
  | k :: ks, h, h1, h2 => by
    have ih := rF_sub (ps := ps) (bs := bs) ks (stepR ps bs h k) (stepR_srt k h1 h2).1 (stepR_srt k h1 h2).2
    have st : (stepR ps bs h k).1.Sublist h.1 ∧ (stepR ps bs h k).2.Sublist h.2 := by
      unfold stepR
      split
      · exact ⟨List.Sublist.refl _, List.Sublist.refl _⟩
      · exact ⟨cut_sub h1 (by omega), cut_sub h2 (by omega)⟩
    exact ⟨ih.1.trans st.1, ih.2.trans st.2⟩
theorem clearN_key {cs : List (Nat × Int)} {a n : Nat} {y : Nat × Int} (h : y ∈ clearN cs a n) : ∃ x ∈ cs, y.1 = x.1 := by
  unfold clearN at h
  split at h
  · exact ⟨y, h, rfl⟩
  · rcases List.mem_append.1 h with g | g
    · rcases List.mem_append.1 g with g | g
      · exact ⟨y, (lo_mem.1 g).1, rfl⟩
      · obtain ⟨x, hx, e, _⟩ := clears_mem g
        exact ⟨x, (mid_mem.1 hx).1, by rw [e]⟩
    · exact ⟨y, (hi_mem.1 g).1, rfl⟩
end Go.Proofs.YtkpmkgkfpikpfaaGreat
namespace Go.Proofs.YtkpmkgkfpikpfaaGreat
open Go.RowKit
set_option linter.unusedVariables false
set_option linter.unusedSimpArgs false
set_option maxRecDepth 100000
theorem protN_none' {ps : List (Nat × Int)} {q : Nat} (h : ∀ x ∈ ps, x.1 ≠ q) : protN ps q = -1 := by rw [protN, find_none h]
theorem protN_ge {ps : List (Nat × Int)} {q : Nat} (h : 0 ≤ protN ps q) : ∃ x ∈ ps, x.1 = q := by
  rcases Classical.em (∃ x ∈ ps, x.1 = q) with g | g
  · exact g
  · rw [protN_none' (fun x hx e => g ⟨x, hx, e⟩)] at h
    omega
theorem protN_eq {A B : List (Nat × Int)} (hA : Srt A) (hB : Srt B) {q : Nat} (h : ∀ x, x.1 = q → (x ∈ A ↔ x ∈ B)) : protN A q = protN B q := by
  rcases Classical.em (∃ x ∈ A, x.1 = q) with ⟨x, hx, e⟩ | g
  · have h1 := protN_in hA hx
    have h2 := protN_in hB ((h x e).1 hx)
    rw [e] at h1 h2
    rw [h1, h2]
  · rw [protN_none' (fun x hx e => g ⟨x, hx, e⟩), protN_none' (fun x hx e => g ⟨x, (h x e).2 hx, e⟩)]
theorem mem_new {ps : List (Nat × Int)} {first n last : Nat} {prot : Int} {x : Nat × Int} : x ∈ lo ps first ++ added first prot n ++ hi ps last ↔ (x ∈ ps ∧ (x.1 < first ∨ last < x.1)) ∨ ∃ i, i < n ∧ x = (first + i, prot) := by
  simp only [List.mem_append, lo_mem, hi_mem, added_mem]
  constructor
  · rintro ((h | h) | h)
    · exact Or.inl ⟨h.1, Or.inl h.2⟩
    · exact Or.inr h
    · exact Or.inl ⟨h.1, Or.inr h.2⟩
  · rintro (⟨h, g | g⟩ | h)
    · exact Or.inl (Or.inl ⟨h, g⟩)
    · exact Or.inr ⟨h, g⟩
    · exact Or.inl (Or.inr h)
theorem mem_cut {ps : List (Nat × Int)} {first last : Nat} {x : Nat × Int} : x ∈ lo ps first ++ hi ps last ↔ x ∈ ps ∧ (x.1 < first ∨ last < x.1) := by
  simp only [List.mem_append, lo_mem, hi_mem]
  constructor
  · rintro (h | h)
    · exact ⟨h.1, Or.inl h.2⟩
    · exact ⟨h.1, Or.inr h.2⟩
  · rintro ⟨h, g | g⟩
    · exact Or.inl ⟨h, g⟩
    · exact Or.inr ⟨h, g⟩
theorem prot_map_in {ps : List (Nat × Int)} {first n last q : Nat} {prot : Int} (hs : Srt ps) (hla : last = first + n - 1) (hn : n ≠ 0) (h1 : first ≤ q) (h2 : q < first + n) : protN (lo ps first ++ added first prot n ++ hi ps last) q = prot :=
  protN_in (x := (q, prot)) (new_srt hs hla hn) (mem_new.2 (Or.inr ⟨q - first, by omega, by rw [show first + (q - first) = q by omega]⟩))
theorem prot_map_out {ps : List (Nat × Int)} {first n last q : Nat} {prot : Int} (hs : Srt ps) (hla : last = first + n - 1) (hn : n ≠ 0) (h : q < first ∨ first + n ≤ q) : protN (lo ps first ++ added first prot n ++ hi ps last) q = protN ps q := by
  refine protN_eq (new_srt hs hla hn) hs (fun x e => ?_)
  rw [mem_new]
  constructor
  · rintro (h | ⟨i, hi, h⟩)
    · exact h.1
    · rw [h] at e; simp only at e; omega
  · intro h
    exact Or.inl ⟨h, by omega⟩
theorem prot_cut_in {ps : List (Nat × Int)} {first n last q : Nat} (hla : last = first + n - 1) (hn : n ≠ 0) (h1 : first ≤ q) (h2 : q < first + n) : protN (lo ps first ++ hi ps last) q = -1 :=
  protN_none' (fun x hx e => by have := (mem_cut.1 hx).2; omega)
theorem prot_cut_out {ps : List (Nat × Int)} {first n last q : Nat} (hs : Srt ps) (hla : last = first + n - 1) (hn : n ≠ 0) (h : q < first ∨ first + n ≤ q) : protN (lo ps first ++ hi ps last) q = protN ps q := by
  refine protN_eq (cut_srt hs _ _ (by omega)) hs (fun x e => ?_)
  rw [mem_cut]
  exact ⟨fun h => h.1, fun h => ⟨h, by omega⟩⟩
theorem words_sub {A B : List (Nat × Int)} (hB : Words B) (h : A.Sublist B) : Words A := fun x hx => hB x (h.subset hx)
end Go.Proofs.YtkpmkgkfpikpfaaGreat
namespace Go.Proofs.YtkpmkgkfpikpfaaGreat
open Go.RowKit
set_option linter.unusedVariables false
set_option linter.unusedSimpArgs false
set_option maxRecDepth 100000
theorem stepB_mem {ps ms : List (Nat × Int)} {bs : Nat} {k : K4} {x : Nat × Int} (h : x ∈ stepB ps bs ms k) : x ∈ ms ∨ (usedN ps k.val = false ∧ x = (hp bs k.val, 3)) := by
  unfold stepB at h
  cases c : usedN ps k.val with
  | true => rw [c] at h; exact Or.inl h
  | false =>
    rw [c] at h
    simp only [Bool.false_eq_true, if_false, List.mem_append, lo_mem, hi_mem, added_mem] at h
    rcases h with (h | ⟨i, hi, h⟩) | h
    · exact Or.inl h.1
    · obtain rfl : i = 0 := by omega
      exact Or.inr ⟨rfl, h⟩
    · exact Or.inl h.1
theorem msF_mem {ps : List (Nat × Int)} {bs : Nat} {x : Nat × Int} : ∀ (ks : List K4) (ms : List (Nat × Int)), x ∈ msF ps bs ms ks → x ∈ ms ∨ ∃ k ∈ ks, usedN ps k.val = false ∧ x = (hp bs k.val, 3)
  | [], ms, h => Or.inl h
  | k :: ks, ms, h => by
    rcases msF_mem ks (stepB ps bs ms k) h with g | ⟨k', hk', g⟩
    · rcases stepB_mem g with g | g
      · exact Or.inl g
      · exact Or.inr ⟨k, List.mem_cons_self, g⟩
    · exact Or.inr ⟨k', List.mem_cons_of_mem _ hk', g⟩
/-- A page that came stays. -/
theorem stepB_has {ps ms : List (Nat × Int)} {bs : Nat} {p : Nat} (k : K4) (h : (p, (3 : Int)) ∈ ms) : (p, (3 : Int)) ∈ stepB ps bs ms k := by
  unfold stepB
  split
  · exact h
  · simp only [List.mem_append, lo_mem, hi_mem, added_mem]
    rcases Nat.lt_trichotomy p (hp bs k.val) with c | c | c
    · exact Or.inl (Or.inl ⟨h, c⟩)
    · exact Or.inl (Or.inr ⟨0, by omega, by rw [c]; rfl⟩)
    · exact Or.inr ⟨h, by omega⟩
theorem msF_has {ps : List (Nat × Int)} {bs p : Nat} : ∀ (ks : List K4) (ms : List (Nat × Int)), (p, (3 : Int)) ∈ ms → (p, (3 : Int)) ∈ msF ps bs ms ks
  | [], _, h => h
  | k :: ks, ms, h => msF_has ks (stepB ps bs ms k) (stepB_has k h)
theorem msF_new {ps : List (Nat × Int)} {bs : Nat} : ∀ (ks : List K4) (ms : List (Nat × Int)) (k : K4), k ∈ ks → usedN ps k.val = false → (hp bs k.val, (3 : Int)) ∈ msF ps bs ms ks
  | k' :: ks, ms, k, hk, hu => by
    rcases List.mem_cons.1 hk with e | e
    · subst e
      refine msF_has ks _ ?_
      unfold stepB
      rw [hu]
      simp only [Bool.false_eq_true, if_false, List.mem_append, added_mem]
      exact Or.inl (Or.inr ⟨0, by omega, rfl⟩)
    · exact msF_new ks (stepB ps bs ms k') k e hu
theorem ksM_has (ps : List (Nat × Int)) : ∀ m j, j < m → toK ((ps.getD j (0, 0)).1 / 4) ∈ ksM ps m
  | m + 1, j, h => by
    unfold ksM
    by_cases e : j < m
    · exact List.mem_append_left _ (ksM_has ps m j e)
    · obtain rfl : j = m := by omega
      split
      · rename_i c
        rw [← c.2]
        exact List.mem_append_left _ (ksM_has ps j (j - 1) (by omega))
      · exact List.mem_append_right _ (by simp)
theorem ksM_of {ps : List (Nat × Int)} {x : Nat × Int} (h : x ∈ ps) : toK (x.1 / 4) ∈ ksM ps ps.length := by
  obtain ⟨j, hj, e⟩ := List.getElem_of_mem h
  have := ksM_has ps ps.length j hj
  rwa [getD_at hj, e] at this
theorem used_of {ps : List (Nat × Int)} {x : Nat × Int} (h : x ∈ ps) : usedN ps (x.1 / 4) = true := List.any_eq_true.2 ⟨x, h, by simp⟩
theorem of_used {ps : List (Nat × Int)} {k : Nat} (h : usedN ps k = true) : ∃ x ∈ ps, x.1 / 4 = k := by
  obtain ⟨x, hx, e⟩ := List.any_eq_true.1 h
  exact ⟨x, hx, by simpa using e⟩
theorem by_in {Q : Nat → Bool} {A B : List (Nat × Int)} (h : by_ Q A = by_ Q B) {y : Nat × Int} (hy : y ∈ B) (hq : Q y.1 = true) : y ∈ A := by
  have : y ∈ by_ Q A := by rw [h]; exact List.mem_filter.2 ⟨hy, hq⟩
  exact (List.mem_filter.1 this).1
theorem hp_inj {bs k k' : Nat} (h : hp bs k = hp bs k') : k = k' := by unfold hp at h; omega
theorem fitG_map {ms cs ps : List (Nat × Int)} {bs first n : Nat} {prot : Int} (h : FitG ms cs ps bs) (hw : Words cs) (hrc : ∀ y ∈ cs, y.1 < 18446744073709551616) (hn : n ≠ 0) (hb : first + n ≤ 1048576) (hp1 : protOk prot = true) (hroom : ps.length - (mid ps first (first + n - 1)).length + n ≤ 256) (hl : (msF ps bs ms (ksM (added first prot n) n)).length ≤ 64) :
    FitG (msF ps bs ms (ksM (added first prot n) n)) (clearN cs (bs + first * 4096) (n * 4096)) (lo ps first ++ added first prot n ++ hi ps (first + n - 1)) bs := by
  have hle := h.le
  have hal := h.al
  have hF := fit_maps (prot := prot) h.reach h.le h.fq hb hl
  have hpr : 0 ≤ prot ∧ prot ≤ 7 := by simpa [protOk] using hp1
  have hlen : (added first prot n).length = n := by simp [added]
  have hkey : ∀ x ∈ lo ps first ++ added first prot n ++ hi ps (first + n - 1), x.1 < 1048576 := fun x hx => by
    rcases mem_new.1 hx with g | ⟨i, hi, rfl⟩
    · exact (h.pg x g.1).1
    · simp only; omega
  have hsup : ∀ x ∈ ps, ∃ x' ∈ lo ps first ++ added first prot n ++ hi ps (first + n - 1), x'.1 = x.1 := fun x hx => by
    by_cases c : x.1 < first ∨ first + n - 1 < x.1
    · exact ⟨x, mem_new.2 (Or.inl ⟨hx, c⟩), rfl⟩
    · exact ⟨(x.1, prot), mem_new.2 (Or.inr ⟨x.1 - first, by omega, by rw [show first + (x.1 - first) = x.1 by omega]⟩), rfl⟩
  have hkeep : ∀ x ∈ ps, ∃ y ∈ msF ps bs ms (ksM (added first prot n) n), y.1 = hp bs (x.1 / 4) := fun x hx => by
    obtain ⟨y, hy, e⟩ := (h.pg x hx).2.2.2
    have hby := msF_by (Q := fun p => p == y.1) (ps := ps) (bs := bs) (ksM (added first prot n) n) ms h.fq.2.2.1 (fun k _ hu => by
      simp only [beq_eq_false_iff_ne]
      intro e2
      rw [e] at e2
      rw [hp_inj e2, used_of hx] at hu
      cases hu)
    exact ⟨y, by_in hby hy (by simp), e⟩
  refine ⟨(fit_clear hF hw hrc _ _ (by omega)).1, hal, hle, ?_, new_srt h.sp rfl hn, fun x hx => ?_, fun y hy hin => ?_, fun c hc hin => ?_⟩
  · rw [new_len h.sp (by omega)]; exact hroom
  · refine ⟨hkey x hx, ?_⟩
    rcases mem_new.1 hx with g | ⟨i, hi, rfl⟩
    · exact ⟨(h.pg x g.1).2.1, (h.pg x g.1).2.2.1, hkeep x g.1⟩
    · refine ⟨hpr.1, hpr.2, ?_⟩
      simp only
      cases hu : usedN ps ((first + i) / 4) with
      | true =>
        obtain ⟨x', hx', e⟩ := of_used hu
        obtain ⟨y, hy, e2⟩ := hkeep x' hx'
        exact ⟨y, hy, by rw [e2, e]⟩
      | false =>
        have hk : toK ((first + i) / 4) ∈ ksM (added first prot n) n := by
          have := ksM_of (ps := added first prot n) (x := (first + i, prot)) (added_mem.2 ⟨i, hi, rfl⟩)
          rwa [hlen] at this
        have hv : (toK ((first + i) / 4)).val = (first + i) / 4 := toK_val (by omega)
        have := msF_new (ps := ps) (bs := bs) (ksM (added first prot n) n) ms _ hk (by rw [hv]; exact hu)
        rw [hv] at this
        exact ⟨_, this, rfl⟩
  · rcases msF_mem _ _ hy with g | ⟨k, hk, hu, rfl⟩
    · obtain ⟨h1, h2⟩ := h.rm y g hin
      refine ⟨h1, ?_⟩
      obtain ⟨x, hx, e⟩ := List.any_eq_true.1 h2
      obtain ⟨x', hx', e'⟩ := hsup x hx
      exact List.any_eq_true.2 ⟨x', hx', by rw [e']; exact e⟩
    · refine ⟨rfl, ?_⟩
      obtain ⟨j, hj, e⟩ := (ksM_rise (added_srt first n prot) (added_bound hb) n (by rw [hlen]; exact Nat.le_refl _)).2 k hk
      have hj' : j < (added first prot n).length := by omega
      have hm : (added first prot n)[j] ∈ lo ps first ++ added first prot n ++ hi ps (first + n - 1) := List.mem_append_left _ (List.mem_append_right _ (List.getElem_mem hj'))
      refine List.any_eq_true.2 ⟨_, hm, ?_⟩
      rw [getD_at hj'] at e
      simp only [beq_iff_eq]
      rw [e]
  · obtain ⟨x, hx, e⟩ := clearN_key hc
    rw [e] at hin ⊢
    obtain ⟨z, hz, e2⟩ := protN_ge (h.rc x hx hin)
    by_cases cc : first ≤ (x.1 - bs) / 4096 ∧ (x.1 - bs) / 4096 < first + n
    · rw [prot_map_in h.sp rfl hn cc.1 cc.2]; exact hpr.1
    · rw [prot_map_out h.sp rfl hn (by omega)]; exact h.rc x hx hin
theorem stepR_fit {ps ms cs : List (Nat × Int)} {bs : Nat} (k : K4) (h : FitQ ms cs) : FitQ (stepR ps bs (ms, cs) k).1 (stepR ps bs (ms, cs) k).2 := by
  unfold stepR
  split
  · exact h
  · exact fit_unmap h (hp bs k.val) 1 (by decide)
theorem rF_fit {ps : List (Nat × Int)} {bs : Nat} : ∀ (ks : List K4) (h : List (Nat × Int) × List (Nat × Int)), FitQ h.1 h.2 → FitQ (rF ps bs h ks).1 (rF ps bs h ks).2
  | [], _, h => h
  | k :: ks, h, g => rF_fit ks (stepR ps bs h k) (stepR_fit k g)
/-- No cell is left where all was made 0. -/
theorem clear_gone {ms cs : List (Nat × Int)} (h : FitQ ms cs) (hw : Words cs) (hrc : ∀ y ∈ cs, y.1 < 18446744073709551616) {a n : Nat} (ha : a < 18446744073709551616) (hs : a + n < 18446744073709551616) {c : Nat × Int} (hc : c ∈ clearN cs a n) : c.1 < a ∨ a + n < c.1 + 8 := by
  rcases Classical.em (c.1 < a ∨ a + n < c.1 + 8) with g | g
  · exact g
  · exfalso
    obtain ⟨hf, hww, hr⟩ := fit_clear h hw hrc a n ha
    have hcell := hf.2.2.2.2.2 c hc
    have h8 : c.1 % 8 = 0 := hcell.1
    have h0 : wordN (clearN cs a n) c.1 = 0 := by
      refine Nat.eq_of_testBit_eq (fun i => ?_)
      rw [Nat.zero_testBit]
      by_cases hi64 : i < 64
      · rw [clearN_bit cs h.2.2.2.1 hw a n c.1 i ha h8 hi64 (by omega), if_pos (by omega)]
      · exact Nat.testBit_lt_two_pow (Nat.lt_of_lt_of_le (wordN_lt _ hww _) (Nat.le_trans (by decide : 18446744073709551616 ≤ 2 ^ 64) (Nat.pow_le_pow_right (by decide) (by omega))))
    have hz := wordOf_mem hf.2.2.2.1 hc
    have := hww c hc
    unfold wordN at h0
    rw [hz] at h0
    have : c.2 = 0 := by omega
    exact hcell.2.1 this
theorem fitG_unmap {ms cs ps : List (Nat × Int)} {bs first n : Nat} (h : FitG ms cs ps bs) (hw : Words cs) (hrc : ∀ y ∈ cs, y.1 < 18446744073709551616) (hn : n ≠ 0) (hb : first + n ≤ 1048576) (ks : List K4) (hks : ∀ x ∈ mid ps first (first + n - 1), toK (x.1 / 4) ∈ ks) :
    FitG (rF (lo ps first ++ hi ps (first + n - 1)) bs (ms, clearN cs (bs + first * 4096) (n * 4096)) ks).1 (rF (lo ps first ++ hi ps (first + n - 1)) bs (ms, clearN cs (bs + first * 4096) (n * 4096)) ks).2 (lo ps first ++ hi ps (first + n - 1)) bs := by
  have hle := h.le
  have hal := h.al
  have hC := fit_clear h.fq hw hrc (bs + first * 4096) (n * 4096) (by omega)
  have hm := rF_mem (ps := lo ps first ++ hi ps (first + n - 1)) (bs := bs) ks (ms, clearN cs (bs + first * 4096) (n * 4096))
  refine ⟨rF_fit ks _ hC.1, hal, hle, ?_, cut_srt h.sp _ _ (by omega), fun x hx => ?_, fun y hy hin => ?_, fun c hc hin => ?_⟩
  · have hs := (cut_sub h.sp (a := first) (b := first + n - 1) (by omega)).length_le
    exact Nat.le_trans hs h.lp
  · have hx' := mem_cut.1 hx
    obtain ⟨p1, p2, p3, y, hy, e⟩ := h.pg x hx'.1
    refine ⟨p1, p2, p3, y, ?_, e⟩
    obtain ⟨r1, _⟩ := rF_by (ps := lo ps first ++ hi ps (first + n - 1)) (bs := bs) (Q := fun p => p == y.1) (Q' := fun _ => false) ks (ms, clearN cs (bs + first * 4096) (n * 4096)) h.fq.2.2.1 hC.1.2.2.2.1 (fun k _ hu => by
      simp only [beq_eq_false_iff_ne]
      intro e2
      rw [e] at e2
      rw [hp_inj e2, used_of hx] at hu
      cases hu) (fun _ _ _ _ _ => rfl)
    exact by_in r1 hy (by simp)
  · obtain ⟨g1, g2⟩ := hm.1 y hy
    obtain ⟨q1, q2⟩ := h.rm y g1 hin
    refine ⟨q1, ?_⟩
    obtain ⟨x, hx, e⟩ := List.any_eq_true.1 q2
    have e : hp bs (x.1 / 4) = y.1 := by simpa using e
    have hx4 := (h.pg x hx).1
    have hv : (toK (x.1 / 4)).val = x.1 / 4 := toK_val (by omega)
    cases hu : usedN (lo ps first ++ hi ps (first + n - 1)) (x.1 / 4) with
    | true =>
      obtain ⟨x', hx', e'⟩ := of_used hu
      exact List.any_eq_true.2 ⟨x', hx', by rw [e']; simpa using e⟩
    | false =>
      exfalso
      by_cases c : x.1 < first ∨ first + n - 1 < x.1
      · rw [used_of (mem_cut.2 ⟨hx, c⟩)] at hu
        cases hu
      · refine g2 (toK (x.1 / 4)) (hks x (mid_mem.2 ⟨hx, by omega, by omega⟩)) (by rw [hv]; exact hu) ?_
        rw [hv, e]
  · have hc' := hm.2 c hc
    obtain ⟨x, hx, e⟩ := clearN_key hc'
    have hb2 : bs ≤ c.1 ∧ c.1 - bs < 4294967296 := by simpa [inB] using hin
    have hg := clear_gone h.fq hw hrc (by omega) (by omega) hc'
    have h8 : x.1 % 8 = 0 := (h.fq.2.2.2.2.2 x hx).1
    rw [prot_cut_out h.sp rfl hn (by omega), e]
    exact h.rc x hx (by rw [← e]; exact hin)
end Go.Proofs.YtkpmkgkfpikpfaaGreat
namespace Go.Proofs.YtkpmkgkfpikpfaaGreat
open Go.RowKit
set_option maxRecDepth 100000
set_option linter.unusedVariables false
end Go.Proofs.YtkpmkgkfpikpfaaGreat
namespace Go.Proofs.YtkpmkgkfpikpfaaGreat
open Go.RowKit
set_option maxRecDepth 100000
set_option linter.unusedVariables false
end Go.Proofs.YtkpmkgkfpikpfaaGreat
namespace Go.Proofs.YtkpmkgkfpikpfaaGreat
open Go.RowKit
set_option maxRecDepth 100000
set_option linter.unusedVariables false
end Go.Proofs.YtkpmkgkfpikpfaaGreat
