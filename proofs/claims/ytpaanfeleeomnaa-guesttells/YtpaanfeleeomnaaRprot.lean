/- What is proved here: the document's Protect. -/
import Derived.Test.YtpaanfeleeomnaaApp
import Derived.Test.YtpaanfeleeomnaaCopied
import Derived.Test.YtpaanfeleeomnaaSmall
import Derived.Test.YtpaanfeleeomnaaPlain
import Derived.Test.YtpaanfeleeomnaaSpan
namespace Go.Proofs.Ytpaanfeleeomnaa
open Go.RowKit
set_option maxRecDepth 100000
set_option linter.unusedVariables false
/-- Pages of which those among n from page on have another prot. -/
def protX (page last : Nat) (prot : Int) (x : Nat × Int) : Nat × Int := if page ≤ x.1 ∧ x.1 ≤ last then (x.1, prot) else x
def protL (page last : Nat) (prot : Int) (xs : List (Nat × Int)) : List (Nat × Int) := xs.map (protX page last prot)
theorem protL_snoc (page last : Nat) (prot : Int) (xs : List (Nat × Int)) (m : Nat) (h : m < xs.length) : protL page last prot (xs.take (m + 1)) = protL page last prot (xs.take m) ++ [protX page last prot xs[m]] := by
  rw [protL, List.take_add_one, List.getElem?_eq_getElem h, List.map_append]; rfl
theorem midL_snoc (page last : Nat) (xs : List (Nat × Int)) (m : Nat) (h : m < xs.length) : (mid (xs.take (m + 1)) page last).length = (mid (xs.take m) page last).length + (if page ≤ xs[m].1 ∧ xs[m].1 ≤ last then 1 else 0) := by
  rw [mid, List.take_add_one, List.getElem?_eq_getElem h, List.filter_append, List.length_append]
  congr 1
  by_cases c : page ≤ xs[m].1 ∧ xs[m].1 ≤ last <;> simp [c]
theorem protL_eq {xs : List (Nat × Int)} (h : Srt xs) {page last : Nat} (prot : Int) (hl : page ≤ last) : protL page last prot xs = lo xs page ++ (mid xs page last).map (fun x => (x.1, prot)) ++ hi xs last := by
  have e := congrArg (protL page last prot) (parts xs h page last hl)
  rw [e]
  have e1 : (lo xs page).map (protX page last prot) = lo xs page := by
    conv => rhs; rw [← List.map_id (lo xs page)]
    exact List.map_congr_left (fun x hx => by have := (lo_mem.1 hx).2; rw [protX, if_neg (by omega)]; rfl)
  have e2 : (mid xs page last).map (protX page last prot) = (mid xs page last).map (fun x => (x.1, prot)) := List.map_congr_left (fun x hx => by have := (mid_mem.1 hx).2; rw [protX, if_pos (by omega)])
  have e3 : (hi xs last).map (protX page last prot) = hi xs last := by
    conv => rhs; rw [← List.map_id (hi xs last)]
    exact List.map_congr_left (fun x hx => by have := (hi_mem.1 hx).2; rw [protX, if_neg (by omega)]; rfl)
  rw [protL, List.map_append, List.map_append, e1, e2, e3]
end Go.Proofs.Ytpaanfeleeomnaa
namespace Go.Proofs.Ytpaanfeleeomnaa
open Go.RowKit
set_option linter.unusedVariables false
end Go.Proofs.Ytpaanfeleeomnaa
namespace Go.Proofs.Ytpaanfeleeomnaa
open Go.RowKit
set_option maxRecDepth 100000
set_option linter.unusedVariables false
/-- A byte. -/
def peekN (cs : List (Nat × Int)) (a : Nat) : Nat := wordN cs (cellOf a) / 2 ^ (8 * (a % 8)) % 256
set_option maxHeartbeats 1000000 in
theorem peek26 (vm vc : Value) (cs : List (Nat × Int)) (a : Nat) (w : World) (hm : ∃ x n q, vm = .slice x n q) (hc : Sl .u64 w vc cs) (hw : Words cs) (ha : a < 18446744073709551616) :
    Calls Try.prog 24 #[.agg #[vm, vc], .int .u64 (a : Int)] w fun e w' => e = .returned (.int .u8 ((peekN cs a : Nat) : Int)) ∧ Below w.heap.size w w' := by
  obtain ⟨W, hW, hb, hsz, c0, c1, _, _⟩ := box2 w vm vc 25
  obtain ⟨c, hcc⟩ : ∃ c, c = cellOf a := ⟨_, rfl⟩
  obtain ⟨r, hr⟩ : ∃ r, r = a % 8 := ⟨_, rfl⟩
  have K54 : Hid (Calls Try.prog 51 #[.agg #[vm, vc], .int .u64 (c : Int)] W fun e w'' => e = .returned (.int .u64 ((wordN cs c : Nat) : Int)) ∧ Below W.heap.size W w'') := by
    have h := word54 vc vm cs c W (hc.keep hb) hm
    rw [wordOf_eq cs hw] at h
    exact h
  have hwl := wordN_lt cs hw c
  have HP : Hid (peekN cs a = wordN cs c / 2 ^ (8 * r) % 256) := by show _ = _; rw [peekN, hcc, hr]
  obtain ⟨x, n, q, rfl⟩ := hm
  obtain ⟨x', n', q', rfl⟩ : ∃ a n p, vc = .slice a n p := by obtain ⟨a, p, h, _⟩ := hc; exact ⟨_, _, _, h⟩
  generalize wordN cs c = wd at K54 hwl HP
  have x1 : ((a : Int)).tmod 8 = (r : Int) := by rw [Int.tmod_eq_emod_of_nonneg (by omega)]; omega
  have x2 : IntKind.u64.wrap ((a : Int) - (r : Int)) = (c : Int) := by rw [IntKind.wrap_u64, hcc]; unfold cellOf; omega
  have x3 : IntKind.u64.wrap (8 * (r : Int)) = ((8 * r : Nat) : Int) := by rw [IntKind.wrap_u64]; omega
  obtain ⟨s8, hs8⟩ : ∃ s, s = 8 * r := ⟨_, rfl⟩
  rw [← hs8] at x3
  have x4 : (wd : Int) / 2 ^ min s8 64 = ((wd / 2 ^ s8 : Nat) : Int) := shr64 wd s8 (by omega)
  obtain ⟨q8, hq8⟩ : ∃ s, s = wd / 2 ^ s8 := ⟨_, rfl⟩
  rw [← hq8] at x4
  have x5 : IntKind.u8.wrap (q8 : Int) = ((q8 % 256 : Nat) : Int) := by rw [IntKind.wrap_u8]; omega
  obtain ⟨p8, hp8⟩ : ∃ s, s = q8 % 256 := ⟨_, rfl⟩
  rw [← hp8] at x5
  have HR : Hid (peekN cs a = p8) := by show _ = _; rw [HP.out, hp8, hq8, hs8]
  clear hc ha hcc hr hwl HP hs8 hq8 hp8
  go_enter Try.func24, Try.ntmps24
  go_wp2_with fail
  refine K54.out.mono ?_
  rintro e w1 ⟨rfl, hb1⟩
  go_wp2
  go_ret
  exact ⟨by rw [HR.out]; first | rfl | simp, below_tr hb hb1⟩
end Go.Proofs.Ytpaanfeleeomnaa
