/- What is proved here: the program's and the document's words, in plain numbers. -/
import Derived.Test.YtogokbefpgaciaaDoorPl
import Derived.Test.YtogokbefpgaciaaDoorDe
import Derived.Test.YtogokbefpgaciaaDoorW2
namespace Go.Proofs.YtogokbefpgaciaaDoor
open Go.RowKit
set_option linter.unusedVariables false
set_option linter.unusedSimpArgs false
set_option maxRecDepth 100000
theorem docSel_all {p : Dr → Prop} : ∀ (l : List (List UInt8 × Dr)) (m : List UInt8) (d : Dr), (∀ x ∈ l, p x.2) → p d → p (docSel l m d)
  | [], _, _, _, h => h
  | (n, r) :: l, m, d, h, hd => by
    unfold docSel
    cases (m == n) with
    | true => exact h (n, r) (by simp)
    | false => exact docSel_all l m d (fun x hx => h x (List.mem_cons_of_mem _ hx)) hd
def drOkB (r : Dr) : Bool := decide (r.sub < 4294967296) && (decide (r.sa < 4294967296) && decide (r.form.size < 100))
def DrOk (r : Dr) : Prop := r.sub < 4294967296 ∧ r.sa < 4294967296 ∧ r.form.size < 9223372036854775807
theorem drOk_of {r : Dr} (h : drOkB r = true) : DrOk r := by
  simp only [drOkB, Bool.and_eq_true, decide_eq_true_eq] at h
  exact ⟨h.1, h.2.1, by omega⟩
theorem docs_ok : (docA ++ docB ++ docC).all (fun x => drOkB x.2) = true := by decide +kernel
theorem selA_ok (n : ByteArray) : DrOk (selA n) := by
  have h := List.all_eq_true.1 docs_ok
  unfold selA selB selC
  refine docSel_all _ _ _ (fun x hx => drOk_of (h x (by simp [hx]))) (docSel_all _ _ _ (fun x hx => drOk_of (h x (by simp [hx]))) (docSel_all _ _ _ (fun x hx => drOk_of (h x (by simp [hx]))) ?_))
  exact drOk_of (by decide +kernel)
/-- A name that is none. -/
theorem docSel_none : ∀ (l : List (List UInt8 × Dr)) (m : List UInt8) (d : Dr), (∀ x ∈ l, m ≠ x.1) → docSel l m d = d
  | [], _, _, _ => rfl
  | (n, r) :: l, m, d, h => by
    unfold docSel
    rw [show (m == n) = false from by simpa using h (n, r) (by simp), cond_false]
    exact docSel_none l m d (fun x hx => h x (List.mem_cons_of_mem _ hx))
theorem names_in : (docA ++ docB ++ docC).all (fun x => rowsL.any (fun r => r.name.toList == x.1)) = true := by decide +kernel
theorem selA_none {n : ByteArray} (h : rowsL.find? (nameB n) = none) : selA n = zeroD := by
  have hn : ∀ x ∈ docA ++ docB ++ docC, n.toList ≠ x.1 := fun x hx e => by
    have := List.all_eq_true.1 names_in x hx
    obtain ⟨r, hr, hq⟩ := List.any_eq_true.1 this
    have h0 := List.find?_eq_none.1 h r hr
    apply h0
    unfold nameB
    rw [e]; exact hq
  unfold selA selB selC
  rw [docSel_none _ _ _ (fun x hx => hn x (by simp [hx])), docSel_none _ _ _ (fun x hx => hn x (by simp [hx])), docSel_none _ _ _ (fun x hx => hn x (by simp [hx]))]
/-- The classes of forms. -/
def cls (f : List UInt8) : Nat := if f == [106] then 1 else if f == [99] then 2 else if (f == [115, 111] || (f == [115, 116, 111] || (f == [116, 115, 105] || (f == [116, 105] || f == [116, 109])))) then 3 else if f == [100, 115, 100] then 4 else if f == [100, 116, 114] then 5 else if f == [100, 116, 118] then 6 else if f == [100, 116] then 7 else 8
/-- How a row's shape and the document's row go together. -/
structure Pair (s : Sh) (d : Dr) (b1 b2 b3 b4 : Bool) (wd : Nat) : Prop where
  op : d.op = s.op
  form : d.form.toList = s.form.toList
  some' : s.form.toList.isEmpty = false
  regs : regsD d.form = (b1, b2, b3, b4)
  wide : wideN d.form = wd
  f1 : s.few / 2097152 % 32 = if b1 then 31 else 0
  f2 : s.few / 65536 % 32 = if b2 then 31 else 0
  f3 : s.few / 2048 % 32 = if b3 then 31 else 0
  f4 : s.few / 64 % 32 = if b4 then 31 else 0
  fl : s.few < 67108864 ∧ s.few % 64 = 0
  gr : s.great = (2 ^ wd - 1) * 2 ^ tzN s.great
  wl : wd ≤ 26
  tl : tzN s.great + wd ≤ 26 ∨ wd = 0
  sf : s.same &&& s.few = 0
  sg : s.same &&& s.great = 0
  fg : s.few &&& s.great = 0
  dd : isDsd s = true → b2 = false ∧ s.same &&& 2031616 = 0 ∧ wd = 0 ∧ s.great = 0
  ol : s.op < 64
  sl : s.same < 67108864
  cl : (cls s.form.toList = 1 ∧ s.same = 0 ∧ tzN s.great = 0 ∧ (b1, b2, b3, b4) = (false, false, false, false) ∧ isDsd s = false) ∨
    (cls s.form.toList = 2 ∧ s.same = d.sub ∧ tzN s.great = 6 ∧ (b1, b2, b3, b4) = (false, false, false, false) ∧ isDsd s = false) ∨
    (cls s.form.toList = 3 ∧ tzN s.great = 0 ∧ b3 = false ∧ b4 = false ∧ isDsd s = false ∧ ((s.op = 1 ∧ s.same = d.sub * 65536 % 4294967296 ∧ b2 = false) ∨ (s.op ≠ 1 ∧ s.same = 0))) ∨
    (cls s.form.toList = 4 ∧ s.same = d.sub ∧ b2 = false ∧ wd = 0 ∧ isDsd s = true) ∨
    (cls s.form.toList = 5 ∧ s.same = 2097152 ||| d.sub ∧ b1 = false ∧ wd = 0 ∧ isDsd s = false) ∨
    (cls s.form.toList = 6 ∧ s.same = 64 ||| d.sub ∧ b4 = false ∧ wd = 0 ∧ isDsd s = false) ∨
    (cls s.form.toList = 7 ∧ s.same = d.sa * 64 % 4294967296 ||| d.sub ∧ b4 = false ∧ wd = 0 ∧ isDsd s = false) ∨
    (cls s.form.toList = 8 ∧ s.same = d.sub ∧ wd = 0 ∧ isDsd s = false)
def pairB (s : Sh) (d : Dr) : Bool :=
  let g := regsD d.form
  let wd := wideN d.form
  decide (d.op = s.op) && (decide (d.form.toList = s.form.toList) && (decide (s.form.toList.isEmpty = false) && (decide (s.few / 2097152 % 32 = if g.1 then 31 else 0) && (decide (s.few / 65536 % 32 = if g.2.1 then 31 else 0) && (decide (s.few / 2048 % 32 = if g.2.2.1 then 31 else 0) && (decide (s.few / 64 % 32 = if g.2.2.2 then 31 else 0) && (decide (s.few < 67108864 ∧ s.few % 64 = 0) && (decide (s.great = (2 ^ wd - 1) * 2 ^ tzN s.great) && (decide (wd ≤ 26) && (decide (tzN s.great + wd ≤ 26 ∨ wd = 0) && (decide (s.same &&& s.few = 0) && (decide (s.same &&& s.great = 0) && (decide (s.few &&& s.great = 0) && (decide (isDsd s = true → g.2.1 = false ∧ s.same &&& 2031616 = 0 ∧ wd = 0 ∧ s.great = 0) && (decide (s.op < 64) && (decide (s.same < 67108864) &&
  decide ((cls s.form.toList = 1 ∧ s.same = 0 ∧ tzN s.great = 0 ∧ (g.1, g.2.1, g.2.2.1, g.2.2.2) = (false, false, false, false) ∧ isDsd s = false) ∨
    (cls s.form.toList = 2 ∧ s.same = d.sub ∧ tzN s.great = 6 ∧ (g.1, g.2.1, g.2.2.1, g.2.2.2) = (false, false, false, false) ∧ isDsd s = false) ∨
    (cls s.form.toList = 3 ∧ tzN s.great = 0 ∧ g.2.2.1 = false ∧ g.2.2.2 = false ∧ isDsd s = false ∧ ((s.op = 1 ∧ s.same = d.sub * 65536 % 4294967296 ∧ g.2.1 = false) ∨ (s.op ≠ 1 ∧ s.same = 0))) ∨
    (cls s.form.toList = 4 ∧ s.same = d.sub ∧ g.2.1 = false ∧ wd = 0 ∧ isDsd s = true) ∨
    (cls s.form.toList = 5 ∧ s.same = 2097152 ||| d.sub ∧ g.1 = false ∧ wd = 0 ∧ isDsd s = false) ∨
    (cls s.form.toList = 6 ∧ s.same = 64 ||| d.sub ∧ g.2.2.2 = false ∧ wd = 0 ∧ isDsd s = false) ∨
    (cls s.form.toList = 7 ∧ s.same = d.sa * 64 % 4294967296 ||| d.sub ∧ g.2.2.2 = false ∧ wd = 0 ∧ isDsd s = false) ∨
    (cls s.form.toList = 8 ∧ s.same = d.sub ∧ wd = 0 ∧ isDsd s = false))))))))))))))))))
theorem pair_of {s : Sh} {d : Dr} (h : pairB s d = true) : Pair s d (regsD d.form).1 (regsD d.form).2.1 (regsD d.form).2.2.1 (regsD d.form).2.2.2 (wideN d.form) := by
  simp only [pairB, Bool.and_eq_true, decide_eq_true_eq] at h
  obtain ⟨h1, h2, h3, h4, h5, h6, h7, h8, h9, h10, h11, h12, h13, h14, h15, h16, h17, h18⟩ := h
  exact ⟨h1, h2, h3, rfl, rfl, h4, h5, h6, h7, h8, h9, h10, h11, h12, h13, h14, h15, h16, h17, h18⟩
theorem pairs : rowsL.all (fun r => pairB r.shape (selA r.name)) = true := by decide +kernel
end Go.Proofs.YtogokbefpgaciaaDoor
