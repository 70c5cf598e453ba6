/- What is proved here: a library in plain words: which can be, its layout, its parts and its file. -/
import Derived.Test.YtgdflobcbhnimaaGreatNb
import Derived.Test.YtgdflobcbhnimaaGreatEPb
import Derived.Test.YtgdflobcbhnimaaGreatNn
import Derived.Test.YtgdflobcbhnimaaGreatNd
import Derived.Test.YtgdflobcbhnimaaGreatEHr
import Derived.BigQuiet
import Derived.BigRegion
namespace Go.Proofs.YtgdflobcbhnimaaGreat
open Go.RowKit
set_option linter.unusedVariables false
set_option linter.unusedSimpArgs false
set_option maxRecDepth 100000
structure Rl where
  at_ : Nat
  kind : Int
  sym : Int
structure Rl.Bd (r : Rl) : Prop where
  a : r.at_ < 4294967296
  k0 : -9223372036854775808 ≤ r.kind
  k1 : r.kind ≤ 9223372036854775807
  s0 : -9223372036854775808 ≤ r.sym
  s1 : r.sym ≤ 9223372036854775807
/-- A library. -/
structure Lb where
  shared : Bool
  base : Nat
  entry : Nat
  code : L8
  data : L8
  bss : Nat
  needed : List L8
  soname : L8
  interp : L8
  syms : List Sy
  rels : List Rl
  locals : List Nat
  global : Int
  init : Nat
def textP (s : L8) : Prop := s.length ≤ 31 ∧ 0 ∉ s
def relP (l : Lb) (r : Rl) : Prop := (r.kind = 0 ∨ r.kind = 3) ∧ r.at_ + 4 ≤ l.data.length ∧ 0 ≤ r.sym ∧ r.sym ≤ (l.syms.length : Int)
/-- It can be. -/
structure FitP (l : Lb) : Prop where
  b0 : l.base % 4096 = 0
  b1 : l.base ≤ 1073741824
  en : l.entry ≤ 4096
  ini : l.init ≤ 4096
  c0 : l.code.length ≤ 4096
  c1 : l.code.length % 4 = 0
  da : l.data.length ≤ 4096
  bs : l.bss ≤ 8192
  n0 : l.needed.length ≤ 8
  n1 : ∀ s ∈ l.needed, s ≠ [] ∧ textP s
  so : textP l.soname
  ip : textP l.interp
  y0 : l.syms.length ≤ 60
  y1 : fitL l.syms = true
  r0 : l.rels.length ≤ 60
  r1 : ∀ r ∈ l.rels, relP l r
  lo : l.locals.length ≤ 30
  g0 : 0 ≤ l.global
  g1 : l.global ≤ (l.syms.length : Int)
/-- A layout: the places of the parts, and how long they are. -/
structure Ly where
  lib : Lb
  at_ : Nat → Nat
  size : Nat → Nat
structure Ly.Ok (y : Ly) : Prop where
  fit : FitP y.lib
  a : ∀ p, y.at_ p ≤ 65536
  s : ∀ p, y.size p ≤ 65536
  m07 : y.at_ 0 ≤ y.at_ 7 + y.size 7
  m89 : y.at_ 8 ≤ y.at_ 9 + y.size 9
def Ly.ad (y : Ly) (p : Nat) : Nat := y.lib.base + y.at_ p + (if 8 ≤ p then 4096 else 0)
theorem Ly.Ok.ad_le {y : Ly} (h : y.Ok) (p : Nat) : y.ad p ≤ 1073811456 := by
  have h1 := h.fit.b1; have h2 := h.a p
  unfold Ly.ad; split <;> omega
def Ly.seg (y : Ly) (kind : Int) (first last : Nat) (prot : Int) (align : Nat) : E.Sg := ⟨kind, y.at_ first, y.ad first, y.at_ last + y.size last - y.at_ first, y.at_ last + y.size last - y.at_ first, prot, align⟩
def Ly.second (y : Ly) : E.Sg := ⟨1, y.at_ 8, y.ad 8, y.at_ 9 + y.size 9 - y.at_ 8, y.at_ 9 + y.size 9 - y.at_ 8 + y.lib.bss, 3, 4096⟩
def Ly.segs3 (y : Ly) : List E.Sg := [y.seg 1 0 7 5 4096, y.second, y.seg 2 2 2 3 4]
def Ly.segs (y : Ly) : List E.Sg := if y.lib.interp = [] then y.segs3 else y.segs3 ++ [y.seg 3 1 1 1 1]
def Ly.head (y : Ly) : E.Ef := ⟨y.lib.shared, y.ad 7 + y.lib.entry, y.segs⟩
def Ly.symV (y : Ly) (s : Sy) : Nat := if s.part = 1 then (y.ad 7 + s.value) % 4294967296 else if s.part = 2 then (y.ad 9 + s.value) % 4294967296 else 0
theorem Ly.symV_lt (y : Ly) (s : Sy) : y.symV s < 4294967296 := by
  unfold Ly.symV; split
  · exact Nat.mod_lt _ (by decide)
  · split
    · exact Nat.mod_lt _ (by decide)
    · decide
def Ly.puts (y : Ly) (s : Sy) : Sy := ⟨s.name, y.symV s, s.size, s.bind, s.part⟩
def Ly.placed (y : Ly) : List Sy := y.lib.syms.map y.puts
def Ly.tab (y : Ly) : Tb := wrT y.placed 3
def nm0 (s : L8) : L8 := s ++ [0]
def strsN (t : L8) (l : List L8) : L8 := t ++ l.flatMap nm0
/-- Where each of some names stands behind a text. -/
def plcN (t : L8) : List L8 → List Nat
  | [] => []
  | s :: r => t.length :: plcN (t ++ nm0 s) r
theorem plcN_len (l : List L8) : ∀ t, (plcN t l).length = l.length := by
  induction l with
  | nil => intro t; rfl
  | cons s r ih => intro t; simp [plcN, ih]
theorem plcN_snoc (l : List L8) (s : L8) : ∀ t, plcN t (l ++ [s]) = plcN t l ++ [(strsN t l).length] := by
  induction l with
  | nil => intro t; simp [plcN, strsN]
  | cons a r ih => intro t; simp [plcN, ih, strsN, List.append_assoc]
theorem strsN_snoc (l : List L8) (s : L8) (t : L8) : strsN t (l ++ [s]) = strsN t l ++ nm0 s := by unfold strsN; rw [List.flatMap_append]; simp [List.append_assoc]
def Lb.names (l : Lb) : List L8 := l.needed ++ [l.soname]
def Ly.loader (y : Ly) : L8 := if y.lib.interp = [] then [] else y.lib.interp ++ [0]
/-- Numbers as bytes. -/
def wds (l : List Nat) : L8 := l.flatMap (bN 4)
theorem wds_len (l : List Nat) : (wds l).length = 4 * l.length := by
  unfold wds
  induction l with
  | nil => rfl
  | cons a r ih => rw [List.flatMap_cons, List.length_append, bN_len, ih, List.length_cons]; omega
theorem wds_app (a b : List Nat) : wds (a ++ b) = wds a ++ wds b := by unfold wds; rw [List.flatMap_append]
def needW (ps : List Nat) (n : Nat) : List Nat := (ps.take n).flatMap fun p => [1, p]
def Ly.soW (y : Ly) (ps : List Nat) : List Nat := if y.lib.soname = [] then [] else [14, ps.getD y.lib.needed.length 0]
def Ly.adW (y : Ly) : List Nat := [4, y.ad 3, 5, y.ad 5, 6, y.ad 4, 17, y.ad 6]
def Ly.lenW (y : Ly) : List Nat := [10, y.size 5, 18, y.size 6, 11, 16, 19, 8]
def Ly.iniW (y : Ly) : List Nat := if y.lib.init = 0 then [] else [12, y.ad 7 + y.lib.init - 1]
def Ly.gotW (y : Ly) : List Nat := [3, y.ad 8, 1879048202, 2 + y.lib.locals.length, 1879048209, y.lib.syms.length + 1, 1879048211, y.lib.syms.length + 1 - y.lib.global.toNat]
def Ly.linkW (y : Ly) (ps : List Nat) : List Nat := needW ps y.lib.needed.length ++ (y.soW ps ++ (y.adW ++ (y.lenW ++ (y.iniW ++ (y.gotW ++ [0, 0])))))
def Ly.relW (y : Ly) (r : Rl) : List Nat := [y.ad 9 + r.at_, r.sym.toNat * 256 + r.kind.toNat]
def Ly.relB (y : Ly) : L8 := wds (y.lib.rels.flatMap y.relW)
def Ly.locW (y : Ly) (a : Nat) : Nat := (y.ad 7 + a) % 4294967296
def Ly.plW (y : Ly) : List Nat := [0, 2147483648] ++ (y.lib.locals.map y.locW ++ (y.lib.syms.drop (y.lib.syms.length - y.lib.global.toNat)).map y.symV)
/-- The parts' bytes. -/
def Ly.part (y : Ly) : Nat → L8
  | 0 => E.wrL y.head
  | 1 => y.loader
  | 2 => wds (y.linkW (plcN y.tab.strs y.lib.names))
  | 3 => y.tab.hash
  | 4 => y.tab.syms
  | 5 => strsN y.tab.strs y.lib.names
  | 6 => y.relB
  | 7 => y.lib.code
  | 8 => wds y.plW
  | 9 => y.lib.data
  | _ => []
def Ly.parts (y : Ly) : List L8 := [y.part 0, y.part 1, y.part 2, y.part 3, y.part 4, y.part 5, y.part 6, y.part 7, y.part 8, y.part 9]
def Lb.zero (l : Lb) : Ly := ⟨l, fun _ => 0, fun _ => 0⟩
def up8 (n : Nat) : Nat := (n + 7) / 8 * 8
/-- Where the parts are, of their lengths. -/
def atN (sz : Nat → Nat) : Nat → Nat
  | 0 => 0
  | p + 1 => up8 (atN sz p + sz p)
def Lb.sz (l : Lb) (p : Nat) : Nat := (l.zero.part p).length
/-- The layout of a library: ten parts. -/
def Lb.lay (l : Lb) : Ly := ⟨l, fun p => if p < 10 then atN l.sz p else 0, fun p => if p < 10 then l.sz p else 0⟩
/-- The first parts of a file. -/
def filN (y : Ly) : Nat → L8
  | 0 => []
  | p + 1 => filN y p ++ (List.replicate (y.at_ p - (filN y p).length) 0 ++ y.part p)
def Lb.file (l : Lb) : L8 := filN l.lay 10
end Go.Proofs.YtgdflobcbhnimaaGreat
namespace Go.Proofs.YtgdflobcbhnimaaGreat
open Go.RowKit
set_option linter.unusedVariables false
set_option linter.unusedSimpArgs false
set_option maxRecDepth 100000
/-- A slice holds texts. -/
def SlS (w : World) (v : Value) (xs : List L8) : Prop :=
  ∃ ao cap, v = .slice ao xs.length cap ∧ xs.length ≤ cap ∧ cap ≤ 9223372036854775807 ∧ (ao = none → cap = 0) ∧
   ∀ i (h : i < xs.length), ∃ b o, ao = some ⟨b, o, none⟩ ∧ w.cell? ⟨b, o + i, none⟩ = some (.string ⟨xs[i].toArray⟩)
/-- A slice holds numbers. -/
def SlN (w : World) (v : Value) (xs : List Nat) : Prop :=
  ∃ ao cap, v = .slice ao xs.length cap ∧ xs.length ≤ cap ∧ cap ≤ 9223372036854775807 ∧ (ao = none → cap = 0) ∧
   ∀ i (h : i < xs.length), ∃ b o, ao = some ⟨b, o, none⟩ ∧ w.cell? ⟨b, o + i, none⟩ = some (.int .u32 (xs[i] : Int))
/-- A relocation lies in three cells. -/
def At3 (w : World) (b o : Nat) (r : Rl) : Prop := w.cell? ⟨b, o, none⟩ = some (.int .u32 (r.at_ : Int)) ∧ w.cell? ⟨b, o + 1, none⟩ = some (.int .i64 r.kind) ∧ w.cell? ⟨b, o + 2, none⟩ = some (.int .i64 r.sym)
/-- A slice holds relocations. -/
def SlR (w : World) (v : Value) (xs : List Rl) : Prop :=
  ∃ ao cap, v = .slice ao xs.length cap ∧ xs.length ≤ cap ∧ cap ≤ 9223372036854775807 ∧ (ao = none → cap = 0) ∧
   ∀ i (h : i < xs.length), ∃ b o, ao = some ⟨b, o, none⟩ ∧ At3 w b (o + i * 3) xs[i]
theorem SlS.keep {w w' : World} {v : Value} {xs : List L8} (h : SlS w v xs) (hb : Below w.heap.size w w') : SlS w' v xs := by
  obtain ⟨ao, cap, rfl, h1, h2, h3, h4⟩ := h
  refine ⟨ao, cap, rfl, h1, h2, h3, fun i hi => ?_⟩
  obtain ⟨b, o, e, c⟩ := h4 i hi
  exact ⟨b, o, e, keep_cell hb c⟩
theorem SlN.keep {w w' : World} {v : Value} {xs : List Nat} (h : SlN w v xs) (hb : Below w.heap.size w w') : SlN w' v xs := by
  obtain ⟨ao, cap, rfl, h1, h2, h3, h4⟩ := h
  refine ⟨ao, cap, rfl, h1, h2, h3, fun i hi => ?_⟩
  obtain ⟨b, o, e, c⟩ := h4 i hi
  exact ⟨b, o, e, keep_cell hb c⟩
theorem SlR.keep {w w' : World} {v : Value} {xs : List Rl} (h : SlR w v xs) (hb : Below w.heap.size w w') : SlR w' v xs := by
  obtain ⟨ao, cap, rfl, h1, h2, h3, h4⟩ := h
  refine ⟨ao, cap, rfl, h1, h2, h3, fun i hi => ?_⟩
  obtain ⟨b, o, e, c0, c1, c2⟩ := h4 i hi
  exact ⟨b, o, e, keep_cell hb c0, keep_cell hb c1, keep_cell hb c2⟩
/-- The slices of a library. -/
structure Lv where
  vn : Value
  vs : Value
  vr : Value
  vl : Value
structure LvIs (l : Lb) (q : Lv) (w : World) : Prop where
  n : SlS w q.vn l.needed
  s : SlY w q.vs l.syms
  r : SlR w q.vr l.rels
  l : SlN w q.vl l.locals
theorem LvIs.keep {l : Lb} {q : Lv} {w w' : World} (h : LvIs l q w) (hb : Below w.heap.size w w') : LvIs l q w' := ⟨h.n.keep hb, h.s.keep hb, h.r.keep hb, h.l.keep hb⟩
/-- What else a library's numbers keep. -/
structure Lb.Bd (l : Lb) : Prop where
  b : l.base < 4294967296
  e : l.entry < 4294967296
  s : l.bss < 4294967296
  i : l.init < 4294967296
  g0 : -9223372036854775808 ≤ l.global
  g1 : l.global ≤ 9223372036854775807
  y : ∀ s ∈ l.syms, s.Bd
  r : ∀ r ∈ l.rels, r.Bd
  l : ∀ a ∈ l.locals, a < 4294967296
def Lb.cells (l : Lb) (q : Lv) : List Value := [.bool l.shared, .int .u32 (l.base : Int), .int .u32 (l.entry : Int), .string ⟨l.code.toArray⟩, .string ⟨l.data.toArray⟩, .int .u32 (l.bss : Int), q.vn, .string ⟨l.soname.toArray⟩, .string ⟨l.interp.toArray⟩, q.vs, q.vr, q.vl, .int .i64 l.global, .int .u32 (l.init : Int)]
def Lb.val (l : Lb) (q : Lv) : Value := .agg (l.cells q).toArray
/-- A library lies in block b. -/
def BL (l : Lb) (q : Lv) (b : Nat) (w : World) : Prop := w.heap[b]? = some (.cells (l.cells q).toArray 28 (0, 0))
def ten (f : Nat → Nat) : List Value := [.int .u32 (f 0 : Int), .int .u32 (f 1 : Int), .int .u32 (f 2 : Int), .int .u32 (f 3 : Int), .int .u32 (f 4 : Int), .int .u32 (f 5 : Int), .int .u32 (f 6 : Int), .int .u32 (f 7 : Int), .int .u32 (f 8 : Int), .int .u32 (f 9 : Int)]
def Ly.cells (y : Ly) (q : Lv) : List Value := y.lib.cells q ++ (ten y.at_ ++ ten y.size)
/-- A layout lies in block b. -/
def BY (y : Ly) (q : Lv) (b : Nat) (w : World) : Prop := w.heap[b]? = some (.cells (y.cells q).toArray 54 (0, 0))
theorem BL.keep {l : Lb} {q : Lv} {b : Nat} {w w' : World} (h : BL l q b w) (hb : Below w.heap.size w w') : BL l q b w' := (hb.block b (Array.getElem?_eq_some_iff.1 h).1).trans h
theorem BY.keep {y : Ly} {q : Lv} {b : Nat} {w w' : World} (h : BY y q b w) (hb : Below w.heap.size w w') : BY y q b w' := (hb.block b (Array.getElem?_eq_some_iff.1 h).1).trans h
theorem BY.lt {y : Ly} {q : Lv} {b : Nat} {w : World} (h : BY y q b w) : b < w.heap.size := (Array.getElem?_eq_some_iff.1 h).1
theorem BY.frozen {y : Ly} {q : Lv} {b : Nat} {w : World} (h : BY y q b w) (k : Nat) : w.frozen? ⟨b, k, none⟩ = false := by
  have h' : w.heap[b]? = _ := h
  simp [World.frozen?, h']
theorem blk_at {w : World} {b T : Nat} {cs : List Value} (h : w.heap[b]? = some (.cells cs.toArray T (0, 0))) (k : Nat) {v : Value} (hv : cs[k]? = some v) : w.cell? ⟨b, k, none⟩ = some v := by
  simp [World.cell?, h, hv]
theorem ten_at (f : Nat → Nat) (p : Nat) (h : p < 10) : (ten f)[p]? = some (.int .u32 (f p : Int)) := by
  rcases (by omega : p = 0 ∨ p = 1 ∨ p = 2 ∨ p = 3 ∨ p = 4 ∨ p = 5 ∨ p = 6 ∨ p = 7 ∨ p = 8 ∨ p = 9) with rfl | rfl | rfl | rfl | rfl | rfl | rfl | rfl | rfl | rfl <;> rfl
theorem BY.lib {y : Ly} {q : Lv} {b : Nat} {w : World} (h : BY y q b w) (k : Nat) {v : Value} (hv : (y.lib.cells q)[k]? = some v) : w.cell? ⟨b, k, none⟩ = some v :=
  blk_at h k (by unfold Ly.cells; rw [List.getElem?_append_left (List.getElem?_eq_some_iff.1 hv).1]; exact hv)
theorem BY.ats {y : Ly} {q : Lv} {b : Nat} {w : World} (h : BY y q b w) (p : Nat) (hp : p < 10) : w.cell? ⟨b, 14 + p, none⟩ = some (.int .u32 (y.at_ p : Int)) :=
  blk_at h (14 + p) (by
    unfold Ly.cells
    rw [List.getElem?_append_right (by show 14 ≤ _; omega), show 14 + p - (y.lib.cells q).length = p from by show 14 + p - 14 = p; omega, List.getElem?_append_left (by show p < 10; exact hp)]
    exact ten_at _ p hp)
theorem BY.sizes {y : Ly} {q : Lv} {b : Nat} {w : World} (h : BY y q b w) (p : Nat) (hp : p < 10) : w.cell? ⟨b, 24 + p, none⟩ = some (.int .u32 (y.size p : Int)) :=
  blk_at h (24 + p) (by
    unfold Ly.cells
    rw [List.getElem?_append_right (by show 14 ≤ _; omega), show 24 + p - (y.lib.cells q).length = 10 + p from by show 24 + p - 14 = 10 + p; omega, List.getElem?_append_right (by show 10 ≤ _; omega), show 10 + p - (ten y.at_).length = p from by show 10 + p - 10 = p; omega]
    exact ten_at _ p hp)
set_option maxHeartbeats 1000000 in
theorem address25 (y : Ly) (q : Lv) (b p : Nat) (w : World) (h : BY y q b w) (ok : y.Ok) (hp : p < 10) :
    Calls Tryz.prog 25 #[.pointer (some ⟨b, 0, none⟩), .int .i64 (p : Int)] w fun e w' => e = .returned (.int .u32 (y.ad p : Int)) ∧ Below w.heap.size w w' := by
  have c1 : w.cell? ⟨b, 1, none⟩ = some (.int .u32 (y.lib.base : Int)) := h.lib 1 rfl
  have c2 := h.ats p hp
  have ha := ok.a p
  have hb := ok.fit.b1
  obtain ⟨A, hA⟩ : ∃ A, A = y.at_ p := ⟨_, rfl⟩
  obtain ⟨B, hB⟩ : ∃ B, B = y.lib.base := ⟨_, rfl⟩
  have had : y.ad p = B + A + (if 8 ≤ p then 4096 else 0) := by rw [hA, hB]; rfl
  obtain ⟨D, hD⟩ : ∃ D, D = y.ad p := ⟨_, rfl⟩
  rw [← hD] at had ⊢
  rw [← hA] at c2 ha
  rw [← hB] at c1 hb
  obtain ⟨S, hS⟩ : ∃ S, S = B + A := ⟨_, rfl⟩
  have e1 : (B : Int) + (A : Int) = (S : Int) := by omega
  have e2 : (S : Int) % 4294967296 = (S : Int) := by omega
  have e2' : IntKind.u32.wrap (S : Int) = (S : Int) := by rw [IntKind.wrap_u32]; exact e2
  have hpi : (p : Int) < 10 := by omega
  clear h hA hB hD
  by_cases h8 : 8 ≤ p
  · have i8 : (8 : Int) ≤ (p : Int) := by omega
    have d8 := decide_eq_true i8
    rw [if_pos h8] at had
    have e3 : (S : Int) + 4096 = (D : Int) := by omega
    have e4 : (D : Int) % 4294967296 = (D : Int) := by omega
    have e4' : IntKind.u32.wrap (D : Int) = (D : Int) := by rw [IntKind.wrap_u32]; exact e4
    clear had hS ha hb ok h8
    go_enter Tryz.func25, Tryz.ntmps25
    go_wp2
    go_quiet (fail)
    go_wp2
    go_ret
    exact ⟨rfl, (Below.refl _ _).trans ⟨rfl, rfl, rfl, Nat.le_refl _, fun _ _ => rfl⟩⟩
  · have i8 : ¬ (8 : Int) ≤ (p : Int) := by omega
    have d8 := decide_eq_false i8
    rw [if_neg h8] at had
    obtain rfl : D = S := by omega
    clear had hS ha hb ok h8
    go_enter Tryz.func25, Tryz.ntmps25
    go_wp2
    go_quiet (fail)
    go_wp2
    go_ret
    exact ⟨rfl, (Below.refl _ _).trans ⟨rfl, rfl, rfl, Nat.le_refl _, fun _ _ => rfl⟩⟩
end Go.Proofs.YtgdflobcbhnimaaGreat
