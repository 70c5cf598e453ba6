/- What is proved here: the document's small functions: a form's letters, its registers, its width; what fits. -/
import Derived.Test.YtglkkeelocdanaaDoorFn
import Derived.Test.YtglkkeelocdanaaDoorBel
import Derived.Test.YtglkkeelocdanaaDoorPl
namespace Go.Proofs.YtglkkeelocdanaaDoor
open Go.RowKit
set_option linter.unusedVariables false
set_option linter.unusedSimpArgs false
set_option maxRecDepth 100000
/-- Has a text a byte? -/
def hasB (f : ByteArray) (c : Nat) : Bool := (formL f).any (fun x => x == c)
/-- How many bits Imm has. -/
def wideN (f : ByteArray) : Nat := if f.toList == [99] then 20 else if f.toList == [106] then 26 else if f.toList == [115, 111] then 16 else if f.toList == [115, 116, 111] then 16 else if f.toList == [116, 115, 105] then 16 else if f.toList == [116, 105] then 16 else if f.toList == [116, 109] then 16 else 0
/-- Is a number one of a register's, or 0? -/
def fitsB (n : Int) (b : Bool) : Bool := n == 0 || (b && (decide (0 < n) && decide (n < 32)))
/-- The registers that a form has. -/
def regsD (f : ByteArray) : Bool × Bool × Bool × Bool := if f.toList == [116, 109] then (true, true, false, false) else if f.toList == [116, 115, 120] then (true, true, true, true) else if f.toList == [100, 116, 114] then (false, true, true, true) else if f.toList == [100, 116, 118] then (true, true, true, false) else if f.toList == [99] then (false, false, false, false) else if f.toList == [106] then (false, false, false, false) else (hasB f 115, hasB f 116, hasB f 100, hasB f 97)
end Go.Proofs.YtglkkeelocdanaaDoor
namespace Go.Proofs.YtglkkeelocdanaaDoor
open Go.RowKit
set_option linter.unusedVariables false
set_option linter.unusedSimpArgs false
set_option maxRecDepth 100000
/-- The document's row: an operation, a function or second number, sa, a form. -/
structure Dr where
  op : Nat
  sub : Nat
  sa : Nat
  form : ByteArray
def Dr.val (r : Dr) : Value := .agg #[.int .u32 (r.op : Int), .int .u32 (r.sub : Int), .int .u32 (r.sa : Int), .string r.form]
def zeroD : Dr := ⟨0, 0, 0, ⟨#[]⟩⟩
/-- The first of that name. -/
def docSel : List (List UInt8 × Dr) → List UInt8 → Dr → Dr
  | [], _, d => d
  | (n, r) :: l, m, d => bif m == n then r else docSel l m d
def docA : List (List UInt8 × Dr) := [([115, 108, 108], ⟨0, 0, 0, ⟨#[100, 116, 97]⟩⟩),
  ([115, 114, 108], ⟨0, 2, 0, ⟨#[100, 116, 97]⟩⟩),
  ([115, 114, 97], ⟨0, 3, 0, ⟨#[100, 116, 97]⟩⟩),
  ([115, 108, 108, 118], ⟨0, 4, 0, ⟨#[100, 116, 115]⟩⟩),
  ([115, 114, 108, 118], ⟨0, 6, 0, ⟨#[100, 116, 115]⟩⟩),
  ([115, 114, 97, 118], ⟨0, 7, 0, ⟨#[100, 116, 115]⟩⟩),
  ([106, 114], ⟨0, 8, 0, ⟨#[115]⟩⟩),
  ([106, 97, 108, 114], ⟨0, 9, 0, ⟨#[100, 115]⟩⟩),
  ([109, 111, 118, 122], ⟨0, 10, 0, ⟨#[100, 115, 116]⟩⟩),
  ([109, 111, 118, 110], ⟨0, 11, 0, ⟨#[100, 115, 116]⟩⟩),
  ([115, 121, 115, 99, 97, 108, 108], ⟨0, 12, 0, ⟨#[99]⟩⟩),
  ([98, 114, 101, 97, 107], ⟨0, 13, 0, ⟨#[99]⟩⟩),
  ([109, 102, 104, 105], ⟨0, 16, 0, ⟨#[100]⟩⟩),
  ([109, 116, 104, 105], ⟨0, 17, 0, ⟨#[115]⟩⟩),
  ([109, 102, 108, 111], ⟨0, 18, 0, ⟨#[100]⟩⟩),
  ([109, 116, 108, 111], ⟨0, 19, 0, ⟨#[115]⟩⟩),
  ([109, 117, 108, 116], ⟨0, 24, 0, ⟨#[115, 116]⟩⟩),
  ([109, 117, 108, 116, 117], ⟨0, 25, 0, ⟨#[115, 116]⟩⟩),
  ([100, 105, 118], ⟨0, 26, 0, ⟨#[115, 116]⟩⟩),
  ([100, 105, 118, 117], ⟨0, 27, 0, ⟨#[115, 116]⟩⟩),
  ([97, 100, 100], ⟨0, 32, 0, ⟨#[100, 115, 116]⟩⟩),
  ([97, 100, 100, 117], ⟨0, 33, 0, ⟨#[100, 115, 116]⟩⟩),
  ([115, 117, 98], ⟨0, 34, 0, ⟨#[100, 115, 116]⟩⟩),
  ([115, 117, 98, 117], ⟨0, 35, 0, ⟨#[100, 115, 116]⟩⟩),
  ([97, 110, 100], ⟨0, 36, 0, ⟨#[100, 115, 116]⟩⟩),
  ([111, 114], ⟨0, 37, 0, ⟨#[100, 115, 116]⟩⟩),
  ([120, 111, 114], ⟨0, 38, 0, ⟨#[100, 115, 116]⟩⟩),
  ([110, 111, 114], ⟨0, 39, 0, ⟨#[100, 115, 116]⟩⟩),
  ([115, 108, 116], ⟨0, 42, 0, ⟨#[100, 115, 116]⟩⟩),
  ([115, 108, 116, 117], ⟨0, 43, 0, ⟨#[100, 115, 116]⟩⟩),
  ([116, 103, 101], ⟨0, 48, 0, ⟨#[115, 116]⟩⟩),
  ([116, 103, 101, 117], ⟨0, 49, 0, ⟨#[115, 116]⟩⟩),
  ([116, 108, 116], ⟨0, 50, 0, ⟨#[115, 116]⟩⟩),
  ([116, 108, 116, 117], ⟨0, 51, 0, ⟨#[115, 116]⟩⟩),
  ([116, 101, 113], ⟨0, 52, 0, ⟨#[115, 116]⟩⟩),
  ([116, 110, 101], ⟨0, 54, 0, ⟨#[115, 116]⟩⟩)]
def docB : List (List UInt8 × Dr) := [([98, 108, 116, 122], ⟨1, 0, 0, ⟨#[115, 111]⟩⟩),
  ([98, 103, 101, 122], ⟨1, 1, 0, ⟨#[115, 111]⟩⟩),
  ([98, 108, 116, 122, 97, 108], ⟨1, 16, 0, ⟨#[115, 111]⟩⟩),
  ([98, 103, 101, 122, 97, 108], ⟨1, 17, 0, ⟨#[115, 111]⟩⟩),
  ([106], ⟨2, 0, 0, ⟨#[106]⟩⟩),
  ([106, 97, 108], ⟨3, 0, 0, ⟨#[106]⟩⟩),
  ([98, 101, 113], ⟨4, 0, 0, ⟨#[115, 116, 111]⟩⟩),
  ([98, 110, 101], ⟨5, 0, 0, ⟨#[115, 116, 111]⟩⟩),
  ([98, 108, 101, 122], ⟨6, 0, 0, ⟨#[115, 111]⟩⟩),
  ([98, 103, 116, 122], ⟨7, 0, 0, ⟨#[115, 111]⟩⟩),
  ([97, 100, 100, 105], ⟨8, 0, 0, ⟨#[116, 115, 105]⟩⟩),
  ([97, 100, 100, 105, 117], ⟨9, 0, 0, ⟨#[116, 115, 105]⟩⟩),
  ([115, 108, 116, 105], ⟨10, 0, 0, ⟨#[116, 115, 105]⟩⟩),
  ([115, 108, 116, 105, 117], ⟨11, 0, 0, ⟨#[116, 115, 105]⟩⟩),
  ([97, 110, 100, 105], ⟨12, 0, 0, ⟨#[116, 115, 105]⟩⟩),
  ([111, 114, 105], ⟨13, 0, 0, ⟨#[116, 115, 105]⟩⟩),
  ([120, 111, 114, 105], ⟨14, 0, 0, ⟨#[116, 115, 105]⟩⟩),
  ([108, 117, 105], ⟨15, 0, 0, ⟨#[116, 105]⟩⟩),
  ([109, 97, 100, 100], ⟨28, 0, 0, ⟨#[115, 116]⟩⟩),
  ([109, 97, 100, 100, 117], ⟨28, 1, 0, ⟨#[115, 116]⟩⟩),
  ([109, 117, 108], ⟨28, 2, 0, ⟨#[100, 115, 116]⟩⟩),
  ([109, 115, 117, 98], ⟨28, 4, 0, ⟨#[115, 116]⟩⟩),
  ([109, 115, 117, 98, 117], ⟨28, 5, 0, ⟨#[115, 116]⟩⟩),
  ([99, 108, 122], ⟨28, 32, 0, ⟨#[100, 115, 100]⟩⟩),
  ([99, 108, 111], ⟨28, 33, 0, ⟨#[100, 115, 100]⟩⟩),
  ([101, 120, 116], ⟨31, 0, 0, ⟨#[116, 115, 120]⟩⟩),
  ([105, 110, 115], ⟨31, 4, 0, ⟨#[116, 115, 120]⟩⟩),
  ([119, 115, 98, 104], ⟨31, 32, 2, ⟨#[100, 116]⟩⟩),
  ([115, 101, 98], ⟨31, 32, 16, ⟨#[100, 116]⟩⟩),
  ([115, 101, 104], ⟨31, 32, 24, ⟨#[100, 116]⟩⟩),
  ([114, 100, 104, 119, 114], ⟨31, 59, 0, ⟨#[116, 100]⟩⟩)]
def docC : List (List UInt8 × Dr) := [([114, 111, 116, 114], ⟨0, 2, 0, ⟨#[100, 116, 114]⟩⟩),
  ([114, 111, 116, 114, 118], ⟨0, 6, 0, ⟨#[100, 116, 118]⟩⟩),
  ([108, 98], ⟨32, 0, 0, ⟨#[116, 109]⟩⟩),
  ([108, 104], ⟨33, 0, 0, ⟨#[116, 109]⟩⟩),
  ([108, 119, 108], ⟨34, 0, 0, ⟨#[116, 109]⟩⟩),
  ([108, 119], ⟨35, 0, 0, ⟨#[116, 109]⟩⟩),
  ([108, 98, 117], ⟨36, 0, 0, ⟨#[116, 109]⟩⟩),
  ([108, 104, 117], ⟨37, 0, 0, ⟨#[116, 109]⟩⟩),
  ([108, 119, 114], ⟨38, 0, 0, ⟨#[116, 109]⟩⟩),
  ([115, 98], ⟨40, 0, 0, ⟨#[116, 109]⟩⟩),
  ([115, 104], ⟨41, 0, 0, ⟨#[116, 109]⟩⟩),
  ([115, 119, 108], ⟨42, 0, 0, ⟨#[116, 109]⟩⟩),
  ([115, 119], ⟨43, 0, 0, ⟨#[116, 109]⟩⟩),
  ([115, 119, 114], ⟨46, 0, 0, ⟨#[116, 109]⟩⟩),
  ([108, 108], ⟨48, 0, 0, ⟨#[116, 109]⟩⟩),
  ([115, 99], ⟨56, 0, 0, ⟨#[116, 109]⟩⟩)]
def selC (n : ByteArray) : Dr := docSel docC n.toList zeroD
def selB (n : ByteArray) : Dr := docSel docB n.toList (selC n)
def selA (n : ByteArray) : Dr := docSel docA n.toList (selB n)
end Go.Proofs.YtglkkeelocdanaaDoor
namespace Go.Proofs.YtglkkeelocdanaaDoor
open Go.RowKit
set_option linter.unusedVariables false
set_option linter.unusedSimpArgs false
set_option maxRecDepth 100000
/-- Can an instruction be, by the document? -/
def fitD (i : In) (r : Dr) : Bool := !(r.form.toList.isEmpty) && (fitsB i.rs (regsD r.form).1 && (fitsB i.rt (regsD r.form).2.1 && (fitsB i.rd (regsD r.form).2.2.1 && (fitsB i.sa (regsD r.form).2.2.2 && (!(decide (2 ^ wideN r.form ≤ i.imm)) && (!((r.form.toList == [116, 100]) && !(i.rd == 29)) && ((!(i.name.toList == [101, 120, 116]) || decide (wrap64 (i.rd + i.sa) ≤ 31)) && (!(i.name.toList == [105, 110, 115]) || decide (i.sa ≤ i.rd)))))))))
theorem wide_le (f : ByteArray) : wideN f ≤ 26 := by
  unfold wideN
  repeat' split
  all_goals omega
end Go.Proofs.YtglkkeelocdanaaDoor
namespace Go.Proofs.YtglkkeelocdanaaDoor
open Go.RowKit
set_option linter.unusedVariables false
set_option linter.unusedSimpArgs false
set_option maxRecDepth 100000
end Go.Proofs.YtglkkeelocdanaaDoor
namespace Go.Proofs.YtglkkeelocdanaaDoor
open Go.RowKit
set_option linter.unusedVariables false
set_option linter.unusedSimpArgs false
set_option maxRecDepth 100000
end Go.Proofs.YtglkkeelocdanaaDoor
namespace Go.Proofs.YtglkkeelocdanaaDoor
open Go.RowKit
set_option linter.unusedVariables false
set_option linter.unusedSimpArgs false
set_option maxRecDepth 100000
/-- The document's word, of an instruction that can be. -/
def wordD (i : In) (r : Dr) : Nat :=
  let w := r.op * 67108864 % 4294967296
  if r.form.toList == [106] then w ||| i.imm
  else if r.form.toList == [99] then (w ||| i.imm * 64 % 4294967296) ||| r.sub
  else if (r.form.toList == [115, 111] || (r.form.toList == [115, 116, 111] || (r.form.toList == [116, 115, 105] || (r.form.toList == [116, 105] || r.form.toList == [116, 109])))) then
    ((w ||| shN i.rs 2097152) ||| (if r.op = 1 then r.sub * 65536 % 4294967296 else shN i.rt 65536)) ||| i.imm
  else if r.form.toList == [100, 115, 100] then ((((w ||| shN i.rs 2097152) ||| shN i.rd 65536) ||| shN i.rd 2048) ||| shN i.sa 64) ||| r.sub
  else if r.form.toList == [100, 116, 114] then ((((w ||| 2097152) ||| shN i.rt 65536) ||| shN i.rd 2048) ||| shN i.sa 64) ||| r.sub
  else if r.form.toList == [100, 116, 118] then ((((w ||| shN i.rs 2097152) ||| shN i.rt 65536) ||| shN i.rd 2048) ||| 64) ||| r.sub
  else if r.form.toList == [100, 116] then ((((w ||| shN i.rs 2097152) ||| shN i.rt 65536) ||| shN i.rd 2048) ||| r.sa * 64 % 4294967296) ||| r.sub
  else ((((w ||| shN i.rs 2097152) ||| shN i.rt 65536) ||| shN i.rd 2048) ||| shN i.sa 64) ||| r.sub
/-- The document's Encode. -/
def isInsD (i : In) : Bool := fitD i (selA i.name)
def encD (i : In) : Nat := if isInsD i then wordD i (selA i.name) else 0
end Go.Proofs.YtglkkeelocdanaaDoor
namespace Go.Proofs.YtglkkeelocdanaaDoor
open Go.RowKit
set_option linter.unusedVariables false
set_option linter.unusedSimpArgs false
set_option maxRecDepth 100000
theorem fld_and (x f k : Nat) : (x &&& f) / 2 ^ k % 32 = (x / 2 ^ k % 32) &&& (f / 2 ^ k % 32) := by
  refine Nat.eq_of_testBit_eq (fun j => ?_)
  rw [show (32 : Nat) = 2 ^ 5 from rfl]
  simp only [Nat.testBit_mod_two_pow, Nat.testBit_and, Nat.testBit_div_two_pow]
  cases decide (j < 5) <;> simp
theorem or_add (a b k : Nat) (h : b < 2 ^ k) : a * 2 ^ k ||| b = a * 2 ^ k + b := by
  rw [Nat.mul_comm]; exact (Nat.two_pow_add_eq_or_of_lt h a).symm
end Go.Proofs.YtglkkeelocdanaaDoor
namespace Go.Proofs.YtglkkeelocdanaaDoor
open Go.RowKit
set_option linter.unusedVariables false
set_option linter.unusedSimpArgs false
set_option maxRecDepth 100000
/-- A name that is none. -/
theorem docSel_none : ∀ (l : List (List UInt8 × Dr)) (m : List UInt8) (d : Dr), (∀ x ∈ l, m ≠ x.1) → docSel l m d = d
  | [], _, _, _ => rfl
  | (n, r) :: l, m, d, h => by
    unfold docSel
    rw [show (m == n) = false from by simpa using h (n, r) (by simp), cond_false]
    exact docSel_none l m d (fun x hx => h x (List.mem_cons_of_mem _ hx))
theorem names_in : (docA ++ docB ++ docC).all (fun x => rowsL.any (fun r => r.name.toList == x.1)) = true := by decide +kernel
theorem selA_none {n : ByteArray} (h : rowsL.find? (nameB n) = none) : selA n = zeroD := by
  have hn : ∀ x ∈ docA ++ docB ++ docC, n.toList ≠ x.1 := fun x hx e => by
    have := List.all_eq_true.1 names_in x hx
    obtain ⟨r, hr, hq⟩ := List.any_eq_true.1 this
    have h0 := List.find?_eq_none.1 h r hr
    apply h0
    unfold nameB
    rw [e]; exact hq
  unfold selA selB selC
  rw [docSel_none _ _ _ (fun x hx => hn x (by simp [hx])), docSel_none _ _ _ (fun x hx => hn x (by simp [hx])), docSel_none _ _ _ (fun x hx => hn x (by simp [hx]))]
/-- The classes of forms. -/
def cls (f : List UInt8) : Nat := if f == [106] then 1 else if f == [99] then 2 else if (f == [115, 111] || (f == [115, 116, 111] || (f == [116, 115, 105] || (f == [116, 105] || f == [116, 109])))) then 3 else if f == [100, 115, 100] then 4 else if f == [100, 116, 114] then 5 else if f == [100, 116, 118] then 6 else if f == [100, 116] then 7 else 8
/-- How a row's shape and the document's row go together. -/
structure Pair (s : Sh) (d : Dr) (b1 b2 b3 b4 : Bool) (wd : Nat) : Prop where
  op : d.op = s.op
  form : d.form.toList = s.form.toList
  some' : s.form.toList.isEmpty = false
  regs : regsD d.form = (b1, b2, b3, b4)
  wide : wideN d.form = wd
  f1 : s.few / 2097152 % 32 = if b1 then 31 else 0
  f2 : s.few / 65536 % 32 = if b2 then 31 else 0
  f3 : s.few / 2048 % 32 = if b3 then 31 else 0
  f4 : s.few / 64 % 32 = if b4 then 31 else 0
  fl : s.few < 67108864 ∧ s.few % 64 = 0
  gr : s.great = (2 ^ wd - 1) * 2 ^ tzN s.great
  wl : wd ≤ 26
  tl : tzN s.great + wd ≤ 26 ∨ wd = 0
  sf : s.same &&& s.few = 0
  sg : s.same &&& s.great = 0
  fg : s.few &&& s.great = 0
  dd : isDsd s = true → b2 = false ∧ s.same &&& 2031616 = 0 ∧ wd = 0 ∧ s.great = 0
  ol : s.op < 64
  sl : s.same < 67108864
  cl : (cls s.form.toList = 1 ∧ s.same = 0 ∧ tzN s.great = 0 ∧ (b1, b2, b3, b4) = (false, false, false, false) ∧ isDsd s = false) ∨
    (cls s.form.toList = 2 ∧ s.same = d.sub ∧ tzN s.great = 6 ∧ (b1, b2, b3, b4) = (false, false, false, false) ∧ isDsd s = false) ∨
    (cls s.form.toList = 3 ∧ tzN s.great = 0 ∧ b3 = false ∧ b4 = false ∧ isDsd s = false ∧ ((s.op = 1 ∧ s.same = d.sub * 65536 % 4294967296 ∧ b2 = false) ∨ (s.op ≠ 1 ∧ s.same = 0))) ∨
    (cls s.form.toList = 4 ∧ s.same = d.sub ∧ b2 = false ∧ wd = 0 ∧ isDsd s = true) ∨
    (cls s.form.toList = 5 ∧ s.same = 2097152 ||| d.sub ∧ b1 = false ∧ wd = 0 ∧ isDsd s = false) ∨
    (cls s.form.toList = 6 ∧ s.same = 64 ||| d.sub ∧ b4 = false ∧ wd = 0 ∧ isDsd s = false) ∨
    (cls s.form.toList = 7 ∧ s.same = d.sa * 64 % 4294967296 ||| d.sub ∧ b4 = false ∧ wd = 0 ∧ isDsd s = false) ∨
    (cls s.form.toList = 8 ∧ s.same = d.sub ∧ wd = 0 ∧ isDsd s = false)
def pairB (s : Sh) (d : Dr) : Bool :=
  let g := regsD d.form
  let wd := wideN d.form
  decide (d.op = s.op) && (decide (d.form.toList = s.form.toList) && (decide (s.form.toList.isEmpty = false) && (decide (s.few / 2097152 % 32 = if g.1 then 31 else 0) && (decide (s.few / 65536 % 32 = if g.2.1 then 31 else 0) && (decide (s.few / 2048 % 32 = if g.2.2.1 then 31 else 0) && (decide (s.few / 64 % 32 = if g.2.2.2 then 31 else 0) && (decide (s.few < 67108864 ∧ s.few % 64 = 0) && (decide (s.great = (2 ^ wd - 1) * 2 ^ tzN s.great) && (decide (wd ≤ 26) && (decide (tzN s.great + wd ≤ 26 ∨ wd = 0) && (decide (s.same &&& s.few = 0) && (decide (s.same &&& s.great = 0) && (decide (s.few &&& s.great = 0) && (decide (isDsd s = true → g.2.1 = false ∧ s.same &&& 2031616 = 0 ∧ wd = 0 ∧ s.great = 0) && (decide (s.op < 64) && (decide (s.same < 67108864) &&
  decide ((cls s.form.toList = 1 ∧ s.same = 0 ∧ tzN s.great = 0 ∧ (g.1, g.2.1, g.2.2.1, g.2.2.2) = (false, false, false, false) ∧ isDsd s = false) ∨
    (cls s.form.toList = 2 ∧ s.same = d.sub ∧ tzN s.great = 6 ∧ (g.1, g.2.1, g.2.2.1, g.2.2.2) = (false, false, false, false) ∧ isDsd s = false) ∨
    (cls s.form.toList = 3 ∧ tzN s.great = 0 ∧ g.2.2.1 = false ∧ g.2.2.2 = false ∧ isDsd s = false ∧ ((s.op = 1 ∧ s.same = d.sub * 65536 % 4294967296 ∧ g.2.1 = false) ∨ (s.op ≠ 1 ∧ s.same = 0))) ∨
    (cls s.form.toList = 4 ∧ s.same = d.sub ∧ g.2.1 = false ∧ wd = 0 ∧ isDsd s = true) ∨
    (cls s.form.toList = 5 ∧ s.same = 2097152 ||| d.sub ∧ g.1 = false ∧ wd = 0 ∧ isDsd s = false) ∨
    (cls s.form.toList = 6 ∧ s.same = 64 ||| d.sub ∧ g.2.2.2 = false ∧ wd = 0 ∧ isDsd s = false) ∨
    (cls s.form.toList = 7 ∧ s.same = d.sa * 64 % 4294967296 ||| d.sub ∧ g.2.2.2 = false ∧ wd = 0 ∧ isDsd s = false) ∨
    (cls s.form.toList = 8 ∧ s.same = d.sub ∧ wd = 0 ∧ isDsd s = false))))))))))))))))))
theorem pair_of {s : Sh} {d : Dr} (h : pairB s d = true) : Pair s d (regsD d.form).1 (regsD d.form).2.1 (regsD d.form).2.2.1 (regsD d.form).2.2.2 (wideN d.form) := by
  simp only [pairB, Bool.and_eq_true, decide_eq_true_eq] at h
  obtain ⟨h1, h2, h3, h4, h5, h6, h7, h8, h9, h10, h11, h12, h13, h14, h15, h16, h17, h18⟩ := h
  exact ⟨h1, h2, h3, rfl, rfl, h4, h5, h6, h7, h8, h9, h10, h11, h12, h13, h14, h15, h16, h17, h18⟩
theorem pairs : rowsL.all (fun r => pairB r.shape (selA r.name)) = true := by decide +kernel
end Go.Proofs.YtglkkeelocdanaaDoor
namespace Go.Proofs.YtglkkeelocdanaaDoor
open Go.RowKit
set_option linter.unusedVariables false
set_option linter.unusedSimpArgs false
set_option maxRecDepth 100000
theorem fit_nat {z : Int} {b : Bool} (h : fitsB z b = true) : ∃ r : Nat, z = (r : Int) ∧ r < 32 ∧ (b = false → r = 0) := by
  unfold fitsB at h
  simp only [Bool.or_eq_true, beq_iff_eq, Bool.and_eq_true, decide_eq_true_eq] at h
  rcases h with h | ⟨h1, h2, h3⟩
  · exact ⟨0, by omega, by omega, fun _ => rfl⟩
  · exact ⟨z.toNat, by omega, by omega, fun e => by rw [e] at h1; cases h1⟩
theorem fit_of {r : Nat} {b : Bool} (h : r < 32) (hz : b = false → r = 0) : fitsB (r : Int) b = true := by
  unfold fitsB
  cases b with
  | false => rw [hz rfl]; rfl
  | true =>
    by_cases e : r = 0
    · rw [e]; rfl
    · simp; omega
/-- A field's bits. -/
theorem few_bit {few k j : Nat} {b : Bool} (h : few / 2 ^ k % 32 = if b then 31 else 0) (h1 : k ≤ j) (h2 : j < k + 5) : few.testBit j = b := by
  have e : (few / 2 ^ k % 32).testBit (j - k) = few.testBit j := by
    rw [show (32 : Nat) = 2 ^ 5 from rfl, Nat.testBit_mod_two_pow, Nat.testBit_div_two_pow, show j - k + k = j by omega, show decide (j - k < 5) = true by simp; omega, Bool.true_and]
  rw [← e, h]
  cases b with
  | false => simp
  | true =>
    rw [if_pos rfl, show (31 : Nat) = 2 ^ 5 - 1 from rfl, Nat.testBit_two_pow_sub_one]; simp; omega
theorem fld_bit {r k j : Nat} (hr : r < 32) (h : (r * 2 ^ k).testBit j = true) : k ≤ j ∧ j < k + 5 := by
  rw [Nat.testBit_mul_two_pow] at h
  simp only [Bool.and_eq_true, decide_eq_true_eq] at h
  refine ⟨h.1, ?_⟩
  rcases Nat.lt_or_ge j (k + 5) with h' | h'
  · exact h'
  · have : r.testBit (j - k) = false := Nat.testBit_lt_two_pow (Nat.lt_of_lt_of_le hr (show 32 ≤ 2 ^ (j - k) from by have := Nat.pow_le_pow_right (n := 2) (by decide) (show 5 ≤ j - k by omega); simpa using this))
    rw [this] at h; exact absurd h.2 (by decide)
theorem and_bit {a b j : Nat} (h : a &&& b = 0) (hb : b.testBit j = true) : a.testBit j = false := by
  have : (a &&& b).testBit j = false := by rw [h]; simp
  rw [Nat.testBit_and, hb, Bool.and_true] at this
  exact this
theorem big_bit {a j : Nat} (h : a < 67108864) (hb : a.testBit j = true) : j < 26 := by
  rcases Nat.lt_or_ge j 26 with h' | h'
  · exact h'
  · rw [Nat.testBit_lt_two_pow (Nat.lt_of_lt_of_le h (show 67108864 ≤ 2 ^ j from by have := Nat.pow_le_pow_right (n := 2) (by decide) h'; simpa using this))] at hb
    cases hb
section
variable {s : Sh} {d : Dr} {b1 b2 b3 b4 : Bool} {wd : Nat}
theorem great_bit (P : Pair s d b1 b2 b3 b4 wd) (j : Nat) : s.great.testBit j = (decide (tzN s.great ≤ j) && decide (j - tzN s.great < wd)) := by
  conv => lhs; rw [P.gr]
  rw [Nat.testBit_mul_two_pow, Nat.testBit_two_pow_sub_one]
theorem great_lt26 (P : Pair s d b1 b2 b3 b4 wd) : s.great < 67108864 := by
  rw [P.gr]
  have h1 : 2 ^ wd - 1 < 2 ^ wd := Nat.sub_lt (Nat.two_pow_pos _) (by decide)
  rcases P.tl with h | h
  · have h2 : (2 ^ wd - 1) * 2 ^ tzN s.great < 2 ^ wd * 2 ^ tzN s.great := Nat.mul_lt_mul_of_pos_right h1 (Nat.two_pow_pos _)
    rw [← Nat.pow_add] at h2
    have h3 := Nat.pow_le_pow_right (n := 2) (by decide) (show wd + tzN s.great ≤ 26 by omega)
    omega
  · rw [h]; simp
theorem imm_le (P : Pair s d b1 b2 b3 b4 wd) {m : Nat} (hm : m < 2 ^ wd) : m * 2 ^ tzN s.great < 67108864 := by
  rcases P.tl with h | h
  · have h2 : m * 2 ^ tzN s.great < 2 ^ wd * 2 ^ tzN s.great := Nat.mul_lt_mul_of_pos_right hm (Nat.two_pow_pos _)
    rw [← Nat.pow_add] at h2
    have h3 := Nat.pow_le_pow_right (n := 2) (by decide) (show wd + tzN s.great ≤ 26 by omega)
    omega
  · rw [h] at hm
    have : m = 0 := by simpa using hm
    rw [this]; omega
theorem imm_bit (P : Pair s d b1 b2 b3 b4 wd) {m j : Nat} (hm : m < 2 ^ wd) (h : (m * 2 ^ tzN s.great).testBit j = true) : s.great.testBit j = true := by
  rw [great_bit P]
  rw [Nat.testBit_mul_two_pow] at h
  simp only [Bool.and_eq_true, decide_eq_true_eq] at h ⊢
  refine ⟨h.1, ?_⟩
  rcases Nat.lt_or_ge (j - tzN s.great) wd with h' | h'
  · exact h'
  · rw [Nat.testBit_lt_two_pow (Nat.lt_of_lt_of_le hm (Nat.pow_le_pow_right (by decide) h'))] at h
    exact absurd h.2 (by decide)
/-- The pieces of a word. -/
theorem word_parts (P : Pair s d b1 b2 b3 b4 wd) {r1 r2 r3 r4 m : Nat} (n : ByteArray) (l1 : r1 < 32) (l2 : r2 < 32) (l3 : r3 < 32) (l4 : r4 < 32) (hm : m < 2 ^ wd) :
    wordN s ⟨n, r1, r2, r3, r4, m⟩ = ((s.op * 2 ^ 26 ||| s.same) ||| (((r1 * 2 ^ 21 ||| r2 * 2 ^ 16) ||| r3 * 2 ^ 11) ||| r4 * 2 ^ 6)) ||| (if isDsd s then r3 * 2 ^ 16 else 0) ||| m * 2 ^ tzN s.great := by
  have a1 : shN (r1 : Int) 2097152 = r1 * 2 ^ 21 := shN_small r1 2097152 (by omega) (by omega)
  have a2 : shN (r2 : Int) 65536 = r2 * 2 ^ 16 := shN_small r2 65536 (by omega) (by omega)
  have a3 : shN (r3 : Int) 2048 = r3 * 2 ^ 11 := shN_small r3 2048 (by omega) (by omega)
  have a4 : shN (r4 : Int) 64 = r4 * 2 ^ 6 := shN_small r4 64 (by omega) (by omega)
  have a5 : shN (r3 : Int) 65536 = r3 * 2 ^ 16 := shN_small r3 65536 (by omega) (by omega)
  have a6 : s.op * 67108864 % 4294967296 = s.op * 2 ^ 26 := Nat.mod_eq_of_lt (by have := P.ol; omega)
  have a7 : m * 2 ^ tzN s.great % 4294967296 = m * 2 ^ tzN s.great := Nat.mod_eq_of_lt (by have := imm_le P hm; omega)
  rw [wordN, bareN]
  simp only
  rw [a1, a2, a3, a4, a5, a6, a7]
theorem few_part (P : Pair s d b1 b2 b3 b4 wd) {r1 r2 r3 r4 m : Nat} (n : ByteArray) (l1 : r1 < 32) (l2 : r2 < 32) (l3 : r3 < 32) (l4 : r4 < 32) (hm : m < 2 ^ wd)
    (z1 : b1 = false → r1 = 0) (z2 : b2 = false → r2 = 0) (z3 : b3 = false → r3 = 0) (z4 : b4 = false → r4 = 0) :
    wordN s ⟨n, r1, r2, r3, r4, m⟩ &&& s.few = ((r1 * 2 ^ 21 ||| r2 * 2 ^ 16) ||| r3 * 2 ^ 11) ||| r4 * 2 ^ 6 ∧ wordN s ⟨n, r1, r2, r3, r4, m⟩ &&& s.great = m * 2 ^ tzN s.great := by
  have inF : ∀ (k r : Nat) (b : Bool), s.few / 2 ^ k % 32 = (if b then 31 else 0) → r < 32 → (b = false → r = 0) → ∀ j, (r * 2 ^ k).testBit j = true → s.few.testBit j = true := fun k r b hf hr hz j h => by
    obtain ⟨h1, h2⟩ := fld_bit hr h
    rw [few_bit hf h1 h2]
    cases b with
    | true => rfl
    | false => rw [hz rfl] at h; simp at h
  have i1 := inF 21 r1 b1 P.f1 l1 z1
  have i2 := inF 16 r2 b2 P.f2 l2 z2
  have i3 := inF 11 r3 b3 P.f3 l3 z3
  have i4 := inF 6 r4 b4 P.f4 l4 z4
  have o : ∀ j, (s.op * 2 ^ 26).testBit j = true → 26 ≤ j := fun j h => by
    rw [Nat.testBit_mul_two_pow] at h
    simp only [Bool.and_eq_true, decide_eq_true_eq] at h
    exact h.1
  have dF : ∀ j, (if isDsd s then r3 * 2 ^ 16 else 0).testBit j = true → s.few.testBit j = false ∧ s.great.testBit j = false := fun j h => by
    cases hd : isDsd s with
    | false => rw [hd] at h; simp at h
    | true =>
      rw [hd, if_pos rfl] at h
      obtain ⟨h1, h2⟩ := fld_bit l3 h
      obtain ⟨e1, _, _, e4⟩ := P.dd hd
      exact ⟨by rw [few_bit P.f2 h1 h2, e1], by rw [e4]; simp⟩
  rw [word_parts P n l1 l2 l3 l4 hm]
  have im := fun j => imm_bit P (m := m) (j := j) hm
  obtain ⟨D, hD⟩ : ∃ z, z = (if isDsd s then r3 * 2 ^ 16 else 0) := ⟨_, rfl⟩
  obtain ⟨R1, hR1⟩ : ∃ z, z = r1 * 2 ^ 21 := ⟨_, rfl⟩
  obtain ⟨R2, hR2⟩ : ∃ z, z = r2 * 2 ^ 16 := ⟨_, rfl⟩
  obtain ⟨R3, hR3⟩ : ∃ z, z = r3 * 2 ^ 11 := ⟨_, rfl⟩
  obtain ⟨R4, hR4⟩ : ∃ z, z = r4 * 2 ^ 6 := ⟨_, rfl⟩
  obtain ⟨M, hM⟩ : ∃ z, z = m * 2 ^ tzN s.great := ⟨_, rfl⟩
  obtain ⟨O, hO⟩ : ∃ z, z = s.op * 2 ^ 26 := ⟨_, rfl⟩
  rw [← hD, ← hR1, ← hR2, ← hR3, ← hR4, ← hM, ← hO]
  rw [← hD] at dF
  rw [← hR1] at i1
  rw [← hR2] at i2
  rw [← hR3] at i3
  rw [← hR4] at i4
  rw [← hM] at im
  rw [← hO] at o
  have fs := fun j => and_bit (j := j) P.sf
  have gs := fun j => and_bit (j := j) P.sg
  have fg := fun j => and_bit (j := j) P.fg
  have fb := fun j => big_bit (j := j) P.fl.1
  have gb := fun j => big_bit (j := j) (great_lt26 P)
  constructor
  · refine Nat.eq_of_testBit_eq (fun j => ?_)
    simp only [Nat.testBit_and, Nat.testBit_or]
    cases hf : s.few.testBit j with
    | true =>
      have e1 : O.testBit j = false := Bool.eq_false_iff.2 (fun h => by have := o j h; have := fb j hf; omega)
      have e2 := fs j hf
      have e3 : D.testBit j = false := Bool.eq_false_iff.2 (fun h => by have := (dF j h).1; rw [hf] at this; cases this)
      have e4 : M.testBit j = false := Bool.eq_false_iff.2 (fun h => by have := fg j (im j h); rw [hf] at this; cases this)
      rw [e1, e2, e3, e4]; simp
    | false =>
      have e1 : R1.testBit j = false := Bool.eq_false_iff.2 (fun h => by have := i1 j h; rw [hf] at this; cases this)
      have e2 : R2.testBit j = false := Bool.eq_false_iff.2 (fun h => by have := i2 j h; rw [hf] at this; cases this)
      have e3 : R3.testBit j = false := Bool.eq_false_iff.2 (fun h => by have := i3 j h; rw [hf] at this; cases this)
      have e4 : R4.testBit j = false := Bool.eq_false_iff.2 (fun h => by have := i4 j h; rw [hf] at this; cases this)
      rw [e1, e2, e3, e4]; simp
  · refine Nat.eq_of_testBit_eq (fun j => ?_)
    simp only [Nat.testBit_and, Nat.testBit_or]
    cases hg : s.great.testBit j with
    | true =>
      have hf : s.few.testBit j = false := fg j hg
      have e0 : O.testBit j = false := Bool.eq_false_iff.2 (fun h => by have := o j h; have := gb j hg; omega)
      have e5 := gs j hg
      have e6 : D.testBit j = false := Bool.eq_false_iff.2 (fun h => by have := (dF j h).2; rw [hg] at this; cases this)
      have e1 : R1.testBit j = false := Bool.eq_false_iff.2 (fun h => by have := i1 j h; rw [hf] at this; cases this)
      have e2 : R2.testBit j = false := Bool.eq_false_iff.2 (fun h => by have := i2 j h; rw [hf] at this; cases this)
      have e3 : R3.testBit j = false := Bool.eq_false_iff.2 (fun h => by have := i3 j h; rw [hf] at this; cases this)
      have e4 : R4.testBit j = false := Bool.eq_false_iff.2 (fun h => by have := i4 j h; rw [hf] at this; cases this)
      rw [e0, e1, e2, e3, e4, e5, e6]; simp
    | false =>
      have e : M.testBit j = false := Bool.eq_false_iff.2 (fun h => by have := im j h; rw [hg] at this; cases this)
      rw [e]; simp
theorem ins_word (P : Pair s d b1 b2 b3 b4 wd) {r1 r2 r3 r4 m : Nat} (n : ByteArray) (l1 : r1 < 32) (l2 : r2 < 32) (l3 : r3 < 32) (l4 : r4 < 32) (hm : m < 2 ^ wd)
    (z1 : b1 = false → r1 = 0) (z2 : b2 = false → r2 = 0) (z3 : b3 = false → r3 = 0) (z4 : b4 = false → r4 = 0) : insN s (wordN s ⟨n, r1, r2, r3, r4, m⟩) = ⟨s.name, r1, r2, r3, r4, m⟩ := by
  obtain ⟨h1, h2⟩ := few_part P n l1 l2 l3 l4 hm z1 z2 z3 z4
  have e : ((r1 * 2 ^ 21 ||| r2 * 2 ^ 16) ||| r3 * 2 ^ 11) ||| r4 * 2 ^ 6 = r1 * 2097152 + r2 * 65536 + r3 * 2048 + r4 * 64 := by
    rw [Nat.or_assoc, Nat.or_assoc, or_add r3 _ 11 (by omega), or_add r2 _ 16 (by omega), or_add r1 _ 21 (by omega)]; omega
  rw [insN, h1, h2, e]
  have g1 : (r1 * 2097152 + r2 * 65536 + r3 * 2048 + r4 * 64) / 2097152 % 32 = r1 := by omega
  have g2 : (r1 * 2097152 + r2 * 65536 + r3 * 2048 + r4 * 64) / 65536 % 32 = r2 := by omega
  have g3 : (r1 * 2097152 + r2 * 65536 + r3 * 2048 + r4 * 64) / 2048 % 32 = r3 := by omega
  have g4 : (r1 * 2097152 + r2 * 65536 + r3 * 2048 + r4 * 64) / 64 % 32 = r4 := by omega
  have g5 : m * 2 ^ tzN s.great / 2 ^ tzN s.great = m := Nat.mul_div_cancel _ (Nat.two_pow_pos _)
  rw [g1, g2, g3, g4, g5]
/-- What a word's instruction can be. -/
theorem ins_fits (P : Pair s d b1 b2 b3 b4 wd) (x : Nat) : fitsB (insN s x).rs b1 = true ∧ fitsB (insN s x).rt b2 = true ∧ fitsB (insN s x).rd b3 = true ∧ fitsB (insN s x).sa b4 = true ∧ (insN s x).imm < 2 ^ wd := by
  have l : ∀ y : Nat, y % 32 < 32 := fun y => Nat.mod_lt _ (by decide)
  have z : ∀ (k : Nat) (b : Bool), s.few / 2 ^ k % 32 = (if b then 31 else 0) → b = false → (x &&& s.few) / 2 ^ k % 32 = 0 := fun k b hf hb => by
    rw [fld_and, hf, hb]; simp
  refine ⟨fit_of (l _) (z 21 b1 P.f1), fit_of (l _) (z 16 b2 P.f2), fit_of (l _) (z 11 b3 P.f3), fit_of (l _) (z 6 b4 P.f4), ?_⟩
  show (x &&& s.great) / 2 ^ tzN s.great < 2 ^ wd
  have h1 : x &&& s.great ≤ s.great := Nat.and_le_right
  have h2 : (x &&& s.great) / 2 ^ tzN s.great ≤ s.great / 2 ^ tzN s.great := Nat.div_le_div_right h1
  have h3 : s.great / 2 ^ tzN s.great = 2 ^ wd - 1 := by
    conv => lhs; lhs; rw [P.gr]
    exact Nat.mul_div_cancel _ (Nat.two_pow_pos _)
  have h4 := Nat.two_pow_pos wd
  omega
/-- An instruction that fits, in natural numbers. -/
theorem fit_all {i : In} (h1 : fitsB i.rs b1 = true) (h2 : fitsB i.rt b2 = true) (h3 : fitsB i.rd b3 = true) (h4 : fitsB i.sa b4 = true) (hm : i.imm < 2 ^ wd) : ∃ r1 r2 r3 r4 m : Nat, i = ⟨i.name, r1, r2, r3, r4, m⟩ ∧ r1 < 32 ∧ r2 < 32 ∧ r3 < 32 ∧ r4 < 32 ∧ m < 2 ^ wd ∧ (b1 = false → r1 = 0) ∧ (b2 = false → r2 = 0) ∧ (b3 = false → r3 = 0) ∧ (b4 = false → r4 = 0) := by
  obtain ⟨r1, e1, k1, z1⟩ := fit_nat h1
  obtain ⟨r2, e2, k2, z2⟩ := fit_nat h2
  obtain ⟨r3, e3, k3, z3⟩ := fit_nat h3
  obtain ⟨r4, e4, k4, z4⟩ := fit_nat h4
  obtain ⟨nm, rs, rt, rd, sa, imm⟩ := i
  simp only at e1 e2 e3 e4 hm
  subst e1 e2 e3 e4
  exact ⟨r1, r2, r3, r4, imm, rfl, k1, k2, k3, k4, hm, z1, z2, z3, z4⟩
theorem allow_eq (i : In) (hn : i.name = s.name) (hf : d.form.toList = s.form.toList) (htd : s.form.toList = [116, 100] → s.name.toList ≠ [101, 120, 116] ∧ s.name.toList ≠ [105, 110, 115]) :
    (!((d.form.toList == [116, 100]) && !(i.rd == 29)) && ((!(i.name.toList == [101, 120, 116]) || decide (wrap64 (i.rd + i.sa) ≤ 31)) && (!(i.name.toList == [105, 110, 115]) || decide (i.sa ≤ i.rd)))) = allowsB s i := by
  unfold allowsB
  rw [hf, hn]
  by_cases h : s.form.toList = [116, 100]
  · obtain ⟨h1, h2⟩ := htd h
    simp [h, h1, h2]
  · by_cases h1 : s.name.toList = [101, 120, 116]
    · simp [h, h1]
    · by_cases h2 : s.name.toList = [105, 110, 115]
      · simp [h, h2]
      · simp [h, h1, h2]
theorem fit_belong (P : Pair s d b1 b2 b3 b4 wd) (htd : s.form.toList = [116, 100] → s.name.toList ≠ [101, 120, 116] ∧ s.name.toList ≠ [105, 110, 115]) (i : In) (hn : i.name = s.name) : fitD i d = belongB s i (wordN s i) := by
  have ha := allow_eq (s := s) (d := d) i hn P.form htd
  unfold fitD
  rw [P.regs, P.wide, ha, P.form, P.some']
  rw [Bool.eq_iff_iff]
  simp only [Bool.and_eq_true, belongB, beq_iff_eq, Bool.not_eq_true', decide_eq_false_iff_not, Bool.not_false, true_and]
  constructor
  · rintro ⟨h1, h2, h3, h4, hm, hal⟩
    obtain ⟨r1, r2, r3, r4, m, he, k1, k2, k3, k4, km, z1, z2, z3, z4⟩ := fit_all (wd := wd) h1 h2 h3 h4 (by omega)
    have hw := ins_word P i.name k1 k2 k3 k4 km z1 z2 z3 z4
    rw [← he, ← hn, ← he] at hw
    exact ⟨(inEq_iff _ _).2 hw, hal⟩
  · rintro ⟨h1, hal⟩
    have hi := (inEq_iff _ _).1 h1
    have hff := ins_fits P (wordN s i)
    rw [hi] at hff
    obtain ⟨g1, g2, g3, g4, g5⟩ := hff
    exact ⟨g1, g2, g3, g4, by omega, hal⟩
end
end Go.Proofs.YtglkkeelocdanaaDoor
namespace Go.Proofs.YtglkkeelocdanaaDoor
open Go.RowKit
set_option linter.unusedVariables false
set_option linter.unusedSimpArgs false
set_option maxRecDepth 100000
def F6x (w : World) (n : Nat) : Prop := Free w ⟨n, 0, none⟩ ∧ Free w ⟨n, 1, none⟩ ∧ Free w ⟨n, 2, none⟩ ∧ Free w ⟨n, 3, none⟩ ∧ Free w ⟨n, 4, none⟩ ∧ Free w ⟨n, 5, none⟩
theorem F6x.keep {w w' : World} {n : Nat} (h : F6x w n) (hb : Below w.heap.size w w') : F6x w' n := ⟨h.1.keep hb, h.2.1.keep hb, h.2.2.1.keep hb, h.2.2.2.1.keep hb, h.2.2.2.2.1.keep hb, h.2.2.2.2.2.keep hb⟩
theorem F6x.set {w : World} {n : Nat} (h : F6x w n) (p : Addr) (v : Value) : F6x (w.setCell p v) n := ⟨h.1.set _ _, h.2.1.set _ _, h.2.2.1.set _ _, h.2.2.2.1.set _ _, h.2.2.2.2.1.set _ _, h.2.2.2.2.2.set _ _⟩
end Go.Proofs.YtglkkeelocdanaaDoor
namespace Go.Proofs.YtglkkeelocdanaaDoor
open Go.RowKit
set_option linter.unusedVariables false
set_option linter.unusedSimpArgs false
set_option maxRecDepth 100000
section
variable {s : Sh} {d : Dr} {b1 b2 b3 b4 : Bool} {wd : Nat}
theorem cls_cases (f : List UInt8) : (cls f = 1 → (f == [106]) = true) ∧ (cls f = 2 → (f == [106]) = false ∧ (f == [99]) = true) ∧ (cls f = 3 → (f == [106]) = false ∧ (f == [99]) = false ∧ (f == [115, 111] || (f == [115, 116, 111] || (f == [116, 115, 105] || (f == [116, 105] || f == [116, 109])))) = true) ∧
    (cls f = 4 → (f == [106]) = false ∧ (f == [99]) = false ∧ (f == [115, 111] || (f == [115, 116, 111] || (f == [116, 115, 105] || (f == [116, 105] || f == [116, 109])))) = false ∧ (f == [100, 115, 100]) = true) ∧
    (cls f = 5 → (f == [106]) = false ∧ (f == [99]) = false ∧ (f == [115, 111] || (f == [115, 116, 111] || (f == [116, 115, 105] || (f == [116, 105] || f == [116, 109])))) = false ∧ (f == [100, 115, 100]) = false ∧ (f == [100, 116, 114]) = true) ∧
    (cls f = 6 → (f == [106]) = false ∧ (f == [99]) = false ∧ (f == [115, 111] || (f == [115, 116, 111] || (f == [116, 115, 105] || (f == [116, 105] || f == [116, 109])))) = false ∧ (f == [100, 115, 100]) = false ∧ (f == [100, 116, 114]) = false ∧ (f == [100, 116, 118]) = true) ∧
    (cls f = 7 → (f == [106]) = false ∧ (f == [99]) = false ∧ (f == [115, 111] || (f == [115, 116, 111] || (f == [116, 115, 105] || (f == [116, 105] || f == [116, 109])))) = false ∧ (f == [100, 115, 100]) = false ∧ (f == [100, 116, 114]) = false ∧ (f == [100, 116, 118]) = false ∧ (f == [100, 116]) = true) ∧
    (cls f = 8 → (f == [106]) = false ∧ (f == [99]) = false ∧ (f == [115, 111] || (f == [115, 116, 111] || (f == [116, 115, 105] || (f == [116, 105] || f == [116, 109])))) = false ∧ (f == [100, 115, 100]) = false ∧ (f == [100, 116, 114]) = false ∧ (f == [100, 116, 118]) = false ∧ (f == [100, 116]) = false) := by
  unfold cls
  cases h1 : (f == [106]) <;> cases h2 : (f == [99]) <;> cases h3 : (f == [115, 111] || (f == [115, 116, 111] || (f == [116, 115, 105] || (f == [116, 105] || f == [116, 109])))) <;> cases h4 : (f == [100, 115, 100]) <;> cases h5 : (f == [100, 116, 114]) <;> cases h6 : (f == [100, 116, 118]) <;> cases h7 : (f == [100, 116]) <;> simp
theorem word_eq (P : Pair s d b1 b2 b3 b4 wd) (i : In) (h1 : fitsB i.rs b1 = true) (h2 : fitsB i.rt b2 = true) (h3 : fitsB i.rd b3 = true) (h4 : fitsB i.sa b4 = true) (hm : i.imm < 2 ^ wd) : wordD i d = wordN s i := by
  obtain ⟨r1, r2, r3, r4, m, he, k1, k2, k3, k4, km, z1, z2, z3, z4⟩ := fit_all (wd := wd) h1 h2 h3 h4 hm
  rw [he, word_parts P _ k1 k2 k3 k4 km]
  have a1 : shN (r1 : Int) 2097152 = r1 * 2 ^ 21 := shN_small r1 2097152 (by omega) (by omega)
  have a2 : shN (r2 : Int) 65536 = r2 * 2 ^ 16 := shN_small r2 65536 (by omega) (by omega)
  have a3 : shN (r3 : Int) 2048 = r3 * 2 ^ 11 := shN_small r3 2048 (by omega) (by omega)
  have a4 : shN (r4 : Int) 64 = r4 * 2 ^ 6 := shN_small r4 64 (by omega) (by omega)
  have a5 : shN (r3 : Int) 65536 = r3 * 2 ^ 16 := shN_small r3 65536 (by omega) (by omega)
  have a6 : d.op * 67108864 % 4294967296 = s.op * 2 ^ 26 := by rw [P.op]; exact Nat.mod_eq_of_lt (by have := P.ol; omega)
  have m0 : wd = 0 → m = 0 := fun h => by rw [h] at km; simpa using km
  unfold wordD
  simp only
  rw [a1, a2, a3, a4, a5, a6, P.form]
  have C := cls_cases s.form.toList
  rcases P.cl with ⟨c, e1, e2, e3, e4⟩ | ⟨c, e1, e2, e3, e4⟩ | ⟨c, e1, e2, e3, e4, e5⟩ | ⟨c, e1, e2, e3, e4⟩ | ⟨c, e1, e2, e3, e4⟩ | ⟨c, e1, e2, e3, e4⟩ | ⟨c, e1, e2, e3, e4⟩ | ⟨c, e1, e2, e3⟩
  · have q := C.1 c
    simp only [Prod.mk.injEq] at e3
    rw [z1 e3.1, z2 e3.2.1, z3 e3.2.2.1, z4 e3.2.2.2, e1, e2, e4, q]; simp
  · obtain ⟨q1, q2⟩ := C.2.1 c
    simp only [Prod.mk.injEq] at e3
    have hl := imm_le P km
    rw [e2] at hl
    rw [z1 e3.1, z2 e3.2.1, z3 e3.2.2.1, z4 e3.2.2.2, e1, e2, e4, q1, q2]
    rw [show m * 64 % 4294967296 = m * 2 ^ 6 from Nat.mod_eq_of_lt (by omega)]
    simp only [if_true, if_false, Bool.false_eq_true, Nat.zero_mul, Nat.or_zero]
    rw [Nat.or_assoc, Nat.or_assoc, Nat.or_comm (m * 2 ^ 6)]
  · obtain ⟨q1, q2, q3⟩ := C.2.2.1 c
    rw [z3 e2, z4 e3, e1, e4, q1, q2, q3]
    rcases e5 with ⟨f1, f2, f3⟩ | ⟨f1, f2⟩
    · rw [z2 f3, P.op, f1, f2]
      simp only [if_true, if_false, Bool.false_eq_true, Nat.zero_mul, Nat.or_zero, Nat.pow_zero, Nat.mul_one]
      generalize d.sub * 65536 % 4294967296 = U
      rw [Nat.or_assoc (1 * 2 ^ 26), Nat.or_comm (r1 * 2 ^ 21), ← Nat.or_assoc (1 * 2 ^ 26)]
    · rw [P.op, f2]
      simp only [if_true, if_false, Bool.false_eq_true, Nat.zero_mul, Nat.or_zero, Nat.pow_zero, Nat.mul_one, f1]
      rw [Nat.or_assoc (s.op * 2 ^ 26)]
  · obtain ⟨q1, q2, q3, q4⟩ := C.2.2.2.1 c
    rw [z2 e2, m0 e3, e1, e4, q1, q2, q3, q4]
    simp only [if_true, if_false, Bool.false_eq_true, Nat.zero_mul, Nat.or_zero]
    ac_rfl
  · obtain ⟨q1, q2, q3, q4, q5⟩ := C.2.2.2.2.1 c
    rw [z1 e2, m0 e3, e1, e4, q1, q2, q3, q4, q5]
    simp only [if_true, if_false, Bool.false_eq_true, Nat.zero_mul, Nat.or_zero, Nat.zero_or]
    ac_rfl
  · obtain ⟨q1, q2, q3, q4, q5, q6⟩ := C.2.2.2.2.2.1 c
    rw [z4 e2, m0 e3, e1, e4, q1, q2, q3, q4, q5, q6]
    simp only [if_true, if_false, Bool.false_eq_true, Nat.zero_mul, Nat.or_zero, Nat.zero_or]
    ac_rfl
  · obtain ⟨q1, q2, q3, q4, q5, q6, q7⟩ := C.2.2.2.2.2.2.1 c
    rw [z4 e2, m0 e3, e1, e4, q1, q2, q3, q4, q5, q6, q7]
    simp only [if_true, if_false, Bool.false_eq_true, Nat.zero_mul, Nat.or_zero, Nat.zero_or]
    ac_rfl
  · obtain ⟨q1, q2, q3, q4, q5, q6, q7⟩ := C.2.2.2.2.2.2.2 c
    rw [m0 e2, e1, e3, q1, q2, q3, q4, q5, q6, q7]
    simp only [if_true, if_false, Bool.false_eq_true, Nat.zero_mul, Nat.or_zero, Nat.zero_or]
    ac_rfl
end
theorem td_ok : rowsL.all (fun r => decide (r.form.toList = [116, 100] → r.name.toList ≠ [101, 120, 116] ∧ r.name.toList ≠ [105, 110, 115])) = true := by decide +kernel
theorem row_pair {a : Nat} (ha : a < rowsL.length) : Pair rowsL[a].shape (selA rowsL[a].name) (regsD (selA rowsL[a].name).form).1 (regsD (selA rowsL[a].name).form).2.1 (regsD (selA rowsL[a].name).form).2.2.1 (regsD (selA rowsL[a].name).form).2.2.2 (wideN (selA rowsL[a].name).form) :=
  pair_of (List.all_eq_true.1 pairs rowsL[a] (List.getElem_mem ha))
theorem row_td {a : Nat} (ha : a < rowsL.length) : rowsL[a].shape.form.toList = [116, 100] → rowsL[a].shape.name.toList ≠ [101, 120, 116] ∧ rowsL[a].shape.name.toList ≠ [105, 110, 115] := by
  have := List.all_eq_true.1 td_ok rowsL[a] (List.getElem_mem ha)
  exact of_decide_eq_true this
/-- An instruction's name is a row's, or none. -/
theorem name_cases (n : ByteArray) : (∃ a, ∃ ha : a < rowsL.length, n = rowsL[a].name) ∨ rowsL.find? (nameB n) = none := by
  cases h : rowsL.find? (nameB n) with
  | none => exact .inr rfl
  | some r =>
    obtain ⟨a, ha, e⟩ := List.getElem_of_mem (List.mem_of_find?_eq_some h)
    have hm : nameB n r = true := List.find?_some h
    unfold nameB at hm
    exact .inl ⟨a, ha, by rw [e]; exact (toList_inj (by simpa using hm)).symm⟩
theorem fit_zero (i : In) : fitD i zeroD = false := by
  unfold fitD
  rw [show zeroD.form.toList.isEmpty = true from by decide +kernel]; rfl
theorem enc_eq (i : In) : isInsD i = isIns i ∧ encD i = encN i := by
  rcases name_cases i.name with ⟨a, ha, hn⟩ | h
  · have hr := found_name ha i.name hn
    have hF : foundR (nameB i.name) = rowsL[a] := by rw [foundR, hr]; rfl
    have P := row_pair ha
    have hfb := fit_belong P (row_td ha) i hn
    obtain ⟨e1, e2⟩ := enc_is i
    rw [hF, show isFound (nameB i.name) = true from by rw [isFound, hr]; rfl, Bool.true_and] at e1
    rw [hF] at e2
    have hI : isInsD i = isIns i := by rw [isInsD, hn, hfb, e1]
    refine ⟨hI, ?_⟩
    rw [encD, e2, hI]
    by_cases hi : isIns i = true
    · rw [if_pos hi, if_pos hi, hn]
      have hfit : fitD i (selA rowsL[a].name) = true := by rw [hfb, ← e1]; exact hi
      unfold fitD at hfit
      simp only [Bool.and_eq_true, Bool.not_eq_true', decide_eq_false_iff_not] at hfit
      exact word_eq P i hfit.2.1 hfit.2.2.1 hfit.2.2.2.1 hfit.2.2.2.2.1 (by have := hfit.2.2.2.2.2.1; omega)
    · rw [if_neg hi, if_neg hi]
  · have hI : isIns i = false := by rw [(enc_is i).1, show isFound (nameB i.name) = false from by rw [isFound, h]; rfl]; rfl
    have hD : isInsD i = false := by rw [isInsD, selA_none h]; exact fit_zero i
    exact ⟨by rw [hI, hD], by rw [encD, encN, hI, hD, if_neg (by decide), if_neg (by decide)]⟩
theorem form_eq (n : ByteArray) : (foundR (nameB n)).form = (selA n).form := by
  rcases name_cases n with ⟨a, ha, hn⟩ | h
  · have hF : foundR (nameB n) = rowsL[a] := by rw [foundR, found_name ha n hn]; rfl
    rw [hF, hn]
    exact (toList_inj (row_pair ha).form).symm
  · rw [foundR, h, selA_none h]; rfl
end Go.Proofs.YtglkkeelocdanaaDoor
