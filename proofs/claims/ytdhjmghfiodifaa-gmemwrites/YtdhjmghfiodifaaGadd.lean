/- What is proved here: the worker adds pages. -/
import Derived.Test.YtdhjmghfiodifaaGp
import Derived.Test.YtdhjmghfiodifaaEach
import Derived.Test.YtdhjmghfiodifaaGw
import Derived.Test.YtdhjmghfiodifaaBackPlain
import Derived.Test.YtdhjmghfiodifaaCopied
import Derived.Lib.OwnKind
import Derived.Laws.OwnMore
import Derived.OneCell
import Derived.Test.YtdhjmghfiodifaaSmall
namespace Go.Proofs.Ytdhjmghfiodifaa
open Go.RowKit Go.Shelf
set_option linter.unusedVariables false
set_option linter.unusedSimpArgs false
set_option maxRecDepth 100000
attribute [local go_sem] Oper.semAt_some
theorem box11 (w : World) (x y : Value) (t s : Nat) : ∃ W, (w.alloc (.cells #[x] t)).alloc (.cells #[y] s) = W ∧ Below w.heap.size w W ∧ W.heap.size = w.heap.size + 1 + 1 ∧
    W.cell? ⟨w.heap.size, 0, none⟩ = some x ∧ W.cell? ⟨w.heap.size + 1, 0, none⟩ = some y ∧ Free W ⟨w.heap.size, 0, none⟩ ∧ Free W ⟨w.heap.size + 1, 0, none⟩ ∧ Boxed W (w.heap.size + 1) s y := by
  have a1 : (w.alloc (.cells #[x] t)).cell? ⟨w.heap.size, 0, none⟩ = some x := cell_newA w _ t _ 0 x rfl rfl
  have a2 : Free (w.alloc (.cells #[x] t)) ⟨w.heap.size, 0, none⟩ := ⟨⟨_, a1⟩, by rw [World.frozen?_alloc_at _ _ _ _ (by simp)]⟩
  have b1 : ((w.alloc (.cells #[x] t)).alloc (.cells #[y] s)).cell? ⟨w.heap.size + 1, 0, none⟩ = some y := cell_newA _ _ s _ 0 y (by simp) rfl
  exact ⟨_, rfl, ((Below.refl _ _).alloc (Nat.le_refl _) _).alloc (by simp) _, by simp, cell_old a1 _, b1, a2.alloc _, ⟨⟨_, b1⟩, by rw [World.frozen?_alloc_at _ _ _ _ (by simp)]⟩, by have h := Boxed.new (w.alloc (.cells #[x] t)) s y; rw [World.size_alloc] at h; exact h⟩
theorem own_row' {w w' : World} {B e n wb : Nat} {v : Value} {xs : List Value} (h : w.ownsRow B e 2 v n xs) (hg : w.grownBy w' (some wb)) (hr : v.ownBlock ≠ some wb) : w'.ownsRow B e 2 v n xs := h.kept hg (Or.inr hr)
end Go.Proofs.Ytdhjmghfiodifaa
namespace Go.Proofs.Ytdhjmghfiodifaa
open Go.RowKit Go.Shelf
set_option linter.unusedVariables false
set_option linter.unusedSimpArgs false
set_option maxRecDepth 100000
attribute [local go_sem] Oper.semAt_some
end Go.Proofs.Ytdhjmghfiodifaa
namespace Go.Proofs.Ytdhjmghfiodifaa
open Go.RowKit Go.Shelf
set_option linter.unusedVariables false
set_option linter.unusedSimpArgs false
set_option maxRecDepth 100000
attribute [local go_sem] Oper.semAt_some
/-- The host without the k-th page from Base on, unless one of the guest's is in it. -/
def stepR (ps : List (Nat × Int)) (bs : Nat) (h : List (Nat × Int) × List (Nat × Int)) (k : K4) : List (Nat × Int) × List (Nat × Int) := if usedN ps k.val then h else (lo h.1 (hp bs k.val) ++ hi h.1 (hp bs k.val + 1 - 1), lo h.2 (hp bs k.val * 16384) ++ hi h.2 ((hp bs k.val + 1 - 1) * 16384 + 16383))
def rF (ps : List (Nat × Int)) (bs : Nat) (h : List (Nat × Int) × List (Nat × Int)) (pre : List K4) : List (Nat × Int) × List (Nat × Int) := pre.foldl (stepR ps bs) h
theorem rF_snoc (ps : List (Nat × Int)) (bs : Nat) (h : List (Nat × Int) × List (Nat × Int)) (pre : List K4) (k : K4) : rF ps bs h (pre ++ [k]) = stepR ps bs (rF ps bs h pre) k := by simp [rF]
theorem Wb.ne_cell {w : World} {wb b o : Nat} {x : Nat} {a0 a1 a3 : Option Addr} {n0 n1 n3 p0 p1 p3 : Nat} {bs : Int} (h : Wb w wb (.slice a0 n0 p0) (.slice a1 n1 p1) (.int .u64 bs) (.slice a3 n3 p3)) (hc : w.cell? ⟨b, o, none⟩ = some (.int .u32 (x : Int))) : b ≠ wb := fun e => by
  subst e
  rw [Wb] at h
  simp only [World.cell?, h] at hc
  match o, hc with
  | 0, hc => simp at hc
  | 1, hc => simp at hc
  | 2, hc => simp at hc
  | 3, hc => simp at hc
  | o + 4, hc => simp at hc
theorem box1e (w : World) (x : Value) (t : Nat) : ∃ W, w.alloc (.cells #[x] t) = W ∧ Below w.heap.size w W ∧ W.heap.size = w.heap.size + 1 ∧ W.cell? ⟨w.heap.size, 0, none⟩ = some x :=
  ⟨_, rfl, (Below.refl _ _).alloc (Nat.le_refl _) _, by simp, cell_newA w _ t _ 0 x rfl rfl⟩
end Go.Proofs.Ytdhjmghfiodifaa
namespace Go.Proofs.Ytdhjmghfiodifaa
open Go.RowKit
set_option maxRecDepth 100000
set_option linter.unusedVariables false
theorem rowOf_set1 (k : IntKind) : ∀ (xs : List (Nat × Int)) (i : Nat) (h : i < xs.length) (r : Int), (rowOf k xs).set (i * 2 + 1) (.int k r) = rowOf k (xs.set i (xs[i].1, r))
  | x :: xs, 0, h, r => by simp [rowOf]
  | x :: xs, i + 1, h, r => by
    have := rowOf_set1 k xs i (by simpa using h) r
    rw [show (i + 1) * 2 = i * 2 + 1 + 1 by omega]
    simp only [rowOf, List.set_cons_succ, List.getElem_cons_succ]
    rw [this]
def protS (ms : List (Nat × Int)) (f : Nat) (prot : Int) : Nat → List (Nat × Int)
  | 0 => ms
  | k + 1 => (protS ms f prot k).set (f + k) ((ms.getD (f + k) (0, 0)).1, prot)
theorem protS_len (ms : List (Nat × Int)) (f : Nat) (prot : Int) : ∀ k, (protS ms f prot k).length = ms.length
  | 0 => rfl
  | k + 1 => by rw [protS, List.length_set, protS_len ms f prot k]
theorem protS_get (ms : List (Nat × Int)) (f : Nat) (prot : Int) (i : Nat) (h : i < ms.length) : ∀ k, (protS ms f prot k)[i]? = some (if f ≤ i ∧ i < f + k then (ms[i].1, prot) else ms[i])
  | 0 => by rw [protS, if_neg (by omega), List.getElem?_eq_getElem h]
  | k + 1 => by
    rw [protS, List.getElem?_set, protS_len]
    by_cases e : f + k = i
    · subst e
      rw [if_pos rfl, if_pos h, if_pos (by omega), getD_at h]
    · rw [if_neg e, protS_get ms f prot i h k]
      by_cases c : f ≤ i ∧ i < f + k
      · rw [if_pos c, if_pos (by omega)]
      · rw [if_neg c, if_neg (by omega)]
theorem range_iff {ms : List (Nat × Int)} (hs : Srt ms) {page last : Nat} (hl : page ≤ last) (i : Nat) (h : i < ms.length) : ((lo ms page).length ≤ i ∧ i < (lo ms page).length + (mid ms page last).length) ↔ (page ≤ ms[i].1 ∧ ms[i].1 ≤ last) := by
  have e := parts ms hs page last hl
  have hg : ms[i]? = (lo ms page ++ mid ms page last ++ hi ms last)[i]? := congrArg (fun l => l[i]?) e
  rw [List.getElem?_eq_getElem h] at hg
  by_cases c1 : i < (lo ms page).length
  · rw [List.append_assoc, List.getElem?_append_left c1, List.getElem?_eq_getElem c1] at hg
    have hm : (lo ms page)[i] ∈ lo ms page := List.getElem_mem c1
    have := (lo_mem.1 hm).2
    simp only [Option.some.injEq] at hg
    rw [← hg] at this
    constructor
    · intro q; omega
    · intro q; omega
  · by_cases c2 : i < (lo ms page).length + (mid ms page last).length
    · rw [List.getElem?_append_left (by rw [List.length_append]; exact c2), List.getElem?_append_right (by omega), List.getElem?_eq_getElem (by omega)] at hg
      have hm : (mid ms page last)[i - (lo ms page).length]'(by omega) ∈ mid ms page last := List.getElem_mem _
      have := (mid_mem.1 hm).2
      simp only [Option.some.injEq] at hg
      rw [← hg] at this
      constructor
      · intro q; exact this
      · intro q; omega
    · have hl3 := parts_len ms hs page last hl
      rw [List.getElem?_append_right (by rw [List.length_append]; omega), List.getElem?_eq_getElem (by rw [List.length_append]; omega)] at hg
      have hm : (hi ms last)[i - (lo ms page ++ mid ms page last).length]'(by rw [List.length_append]; omega) ∈ hi ms last := List.getElem_mem _
      have := (hi_mem.1 hm).2
      simp only [Option.some.injEq] at hg
      rw [← hg] at this
      constructor
      · intro q; omega
      · intro q; omega
theorem protS_eq {ms : List (Nat × Int)} (hs : Srt ms) {page last : Nat} (prot : Int) (hl : page ≤ last) : protS ms (lo ms page).length prot (mid ms page last).length = protL page last prot ms := by
  apply List.ext_getElem?
  intro i
  by_cases h : i < ms.length
  · rw [protS_get ms _ prot i h, protL, List.getElem?_map, List.getElem?_eq_getElem h]
    simp only [Option.map_some, protX]
    have := range_iff hs hl i h
    by_cases c : page ≤ ms[i].1 ∧ ms[i].1 ≤ last
    · rw [if_pos c, if_pos (this.2 c)]
    · rw [if_neg c, if_neg (fun q => c (this.1 q))]
  · rw [List.getElem?_eq_none (by rw [protS_len]; omega), List.getElem?_eq_none (by rw [protL, List.length_map]; omega)]
end Go.Proofs.Ytdhjmghfiodifaa
namespace Go.Proofs.Ytdhjmghfiodifaa
open Go.RowKit
set_option linter.unusedVariables false
set_option maxRecDepth 100000
theorem Pg.rowOf_set1 (k : IntKind) : ∀ (xs : List (Nat × Int)) (i : Nat) (h : i < xs.length) (r : Int), (Pg.rowOf k xs).set (i * 2 + 1) (.int k r) = Pg.rowOf k (xs.set i (xs[i].1, r))
  | x :: xs, 0, h, r => by simp [Pg.rowOf]
  | x :: xs, i + 1, h, r => by
    have := Pg.rowOf_set1 k xs i (by simpa using h) r
    rw [show (i + 1) * 2 = i * 2 + 1 + 1 by omega]
    simp only [Pg.rowOf, List.set_cons_succ, List.getElem_cons_succ]
    rw [this]
theorem own_kinds {w : World} {B B' n n' e e' : Nat} {v : Value} {k' p' : Nat} {xs ys : List Value} {g : Nat} (h : w.ownsRow B e 2 v n xs) (h' : w.ownsRow B' e' 2 (.slice (some ⟨g, 0, none⟩) k' p') n' ys) (hne : e ≠ e') : v.ownBlock ≠ some g := by
  intro hv
  obtain ⟨c, fz, h1⟩ := Go.Lib.ownsRow_kind h g hv
  obtain ⟨c', fz', h2⟩ := Go.Lib.ownsRow_kind h' g rfl
  rw [h1] at h2
  simp at h2
  exact hne h2.2.1
theorem Wb.ne_row {w : World} {wb B e n : Nat} {x0 x1 x2 x3 : Value} {k p g : Nat} {xs : List Value} (h : Wb w wb x0 x1 x2 x3) (h' : w.ownsRow B e 2 (.slice (some ⟨g, 0, none⟩) k p) n xs) (he : e ≠ 69) : wb ≠ g := fun c => by
  subst c
  obtain ⟨c', fz', h2⟩ := Go.Lib.ownsRow_kind h' wb rfl
  rw [Wb] at h
  rw [h] at h2
  simp at h2
  exact he h2.2.1.symm
end Go.Proofs.Ytdhjmghfiodifaa
namespace Go.Proofs.Ytdhjmghfiodifaa
open Go.RowKit
set_option linter.unusedVariables false
set_option linter.unusedSimpArgs false
set_option maxRecDepth 100000
/-- The slices of a guest's memory hold its lists. -/
def SlG (w : World) (vm vc vp : Value) (ms cs ps : List (Nat × Int)) : Prop := Sl .i64 w vm ms ∧ Sl .u64 w vc cs ∧ Pg.Sl .i64 w vp ps
theorem SlG.keep {w w' : World} {vm vc vp : Value} {ms cs ps : List (Nat × Int)} (h : SlG w vm vc vp ms cs ps) (hb : Below w.heap.size w w') : SlG w' vm vc vp ms cs ps := ⟨h.1.keep hb, h.2.1.keep hb, h.2.2.keep hb⟩
theorem OwnG.sl {B : Nat} {w : World} {vm vc vp : Value} {ms cs ps : List (Nat × Int)} (h : OwnG B w vm vc vp ms cs ps) : SlG w vm vc vp ms cs ps := ⟨h.1.m, h.1.c, h.p⟩
theorem SlG.shape {w : World} {vm vc vp : Value} {ms cs ps : List (Nat × Int)} (h : SlG w vm vc vp ms cs ps) : ∃ am nm pm ac nc pc ap np pp, vm = .slice am nm pm ∧ vc = .slice ac nc pc ∧ vp = .slice ap np pp := by
  obtain ⟨a, p, h1, _⟩ := h.1
  obtain ⟨a', p', h2, _⟩ := h.2.1
  obtain ⟨a'', p'', h3, _⟩ := h.2.2
  exact ⟨_, _, _, _, _, _, _, _, _, h1, h2, h3⟩
theorem Wb.new (w : World) (x0 x1 x2 x3 : Value) : Wb (w.alloc (.cells #[x0, x1, x2, x3] 69)) w.heap.size x0 x1 x2 x3 := by
  show (w.heap.push _)[w.heap.size]? = _
  simp
theorem below_wb {w W w' : World} {wb : Nat} (h : Below w.heap.size w W) (hg : W.grownBy w' (some wb)) (hn : w.heap.size ≤ wb) : Below w.heap.size w w' := h.grown hg h.size (fun k e => by cases e; exact hn)
end Go.Proofs.Ytdhjmghfiodifaa
namespace Go.Proofs.Ytdhjmghfiodifaa
open Go.RowKit
set_option linter.unusedVariables false
set_option linter.unusedSimpArgs false
set_option maxRecDepth 100000
end Go.Proofs.Ytdhjmghfiodifaa
