/- What is proved here: what a layout's parts are in plain words: how long they are, and that a file's header can be. -/
import Derived.Test.YtgdflobcbhnimaaGreatPkb
import Derived.Test.YtgdflobcbhnimaaGreatNb
import Derived.Test.YtgdflobcbhnimaaGreatEPb
namespace Go.Proofs.YtgdflobcbhnimaaGreat
open Go.RowKit
set_option linter.unusedVariables false
set_option linter.unusedSimpArgs false
set_option maxRecDepth 100000
theorem Ly.Ok.fitY {y : Ly} (ok : y.Ok) : fitL y.placed = true := by
  obtain ⟨h1, h2⟩ := fitL_parts ok.fit.y1
  unfold fitL Ly.placed
  rw [Bool.and_eq_true, decide_eq_true_eq, List.all_eq_true]
  refine ⟨by simpa using h1, fun g hg => ?_⟩
  obtain ⟨s, hs, rfl⟩ := List.mem_map.1 hg
  exact decide_eq_true (h2 s hs)
theorem Ly.Ok.tab {y : Ly} (ok : y.Ok) : y.tab = ⟨symsL y.placed, strsL y.placed, hashB y.placed 3⟩ := by
  unfold Ly.tab wrT okW
  rw [ok.fitY, if_pos (by decide)]
  rfl
theorem strs_placed (y : Ly) : strsL y.placed = strsL y.lib.syms := by
  unfold strsL Ly.placed
  rw [List.flatMap_map]
  rfl
theorem placed_bd (y : Ly) (h : ∀ s ∈ y.lib.syms, s.Bd) : ∀ s ∈ y.placed, s.Bd := by
  intro s hs
  obtain ⟨a, ha, rfl⟩ := List.mem_map.1 hs
  obtain ⟨h1, h2, h3, h4, h5, h6⟩ := h a ha
  exact ⟨y.symV_lt a, h2, h3, h4, h5, h6⟩
theorem Ly.Ok.strs {y : Ly} (ok : y.Ok) : y.tab.strs = strsL y.lib.syms ∧ (strsL y.lib.syms).length ≤ 1921 := by
  rw [ok.tab]
  refine ⟨strs_placed y, ?_⟩
  have h1 := nms_le y.lib.syms (fitL_parts ok.fit.y1).2
  have h2 := ok.fit.y0
  rw [strs_len]
  omega
theorem Ly.Ok.hash {y : Ly} (ok : y.Ok) : y.tab.hash.length = 4 * (y.lib.syms.length + 6) := by
  rw [ok.tab]
  show (hashB y.placed 3).length = _
  unfold hashB Ly.placed
  rw [flat4_len, nums_len, List.length_map]
  omega
theorem Ly.Ok.symsL {y : Ly} (ok : y.Ok) : y.tab.syms.length = 16 * (y.lib.syms.length + 1) := by
  rw [ok.tab]
  show (_root_.Go.Proofs.YtgdflobcbhnimaaGreat.symsL y.placed).length = _
  rw [syms_len]
  unfold Ly.placed
  rw [List.length_map]
theorem segs_bd {y : Ly} (ok : y.Ok) : ∀ g ∈ y.segs, g.Bd := by
  have hb := ok.fit.bs
  have key : ∀ (kind : Int) (first last : Nat) (prot : Int) (align : Nat), 0 ≤ kind → kind ≤ 3 → 0 ≤ prot → prot ≤ 7 → align ≤ 4096 → (y.seg kind first last prot align).Bd := fun kind first last prot align k0 k1 p0 p1 al => by
    have h1 := ok.a first; have h2 := ok.a last; have h3 := ok.s last; have h4 := ok.ad_le first
    unfold Ly.seg
    refine ⟨?_, ?_, ?_, ?_, ?_, ?_, ?_, ?_, ?_⟩ <;> simp only <;> omega
  have k2 : y.second.Bd := by
    have h1 := ok.a 8; have h2 := ok.a 9; have h3 := ok.s 9; have h4 := ok.ad_le 8
    unfold Ly.second
    refine ⟨?_, ?_, ?_, ?_, ?_, ?_, ?_, ?_, ?_⟩ <;> simp only <;> omega
  intro g hg
  unfold Ly.segs Ly.segs3 at hg
  split at hg
  · simp at hg
    rcases hg with rfl | rfl | rfl
    · exact key _ _ _ _ _ (by decide) (by decide) (by decide) (by decide) (by decide)
    · exact k2
    · exact key _ _ _ _ _ (by decide) (by decide) (by decide) (by decide) (by decide)
  · simp at hg
    rcases hg with rfl | rfl | rfl | rfl
    · exact key _ _ _ _ _ (by decide) (by decide) (by decide) (by decide) (by decide)
    · exact k2
    · exact key _ _ _ _ _ (by decide) (by decide) (by decide) (by decide) (by decide)
    · exact key _ _ _ _ _ (by decide) (by decide) (by decide) (by decide) (by decide)
theorem segs_len (y : Ly) : y.segs.length = if y.lib.interp = [] then 3 else 4 := by
  unfold Ly.segs Ly.segs3
  split <;> rfl
theorem entry_lt {y : Ly} (ok : y.Ok) : y.head.entry < 4294967296 := by
  have h1 := ok.ad_le 7; have h2 := ok.fit.en
  show y.ad 7 + y.lib.entry < _
  omega
theorem head_fit {y : Ly} (ok : y.Ok) : E.fitE y.head = true := by
  have hb := ok.fit.bs
  have hm := ok.fit.b0
  have hB := ok.fit.b1
  have key : ∀ (kind : Int) (first last : Nat) (prot : Int) (align : Nat), 0 ≤ prot → prot ≤ 7 → ((kind = 1 ∧ align = 4096) ∨ ((kind = 2 ∨ kind = 3) ∧ align ≤ 4096)) → E.FitS (y.seg kind first last prot align) := fun kind first last prot align p0 p1 hk => by
    have h1 := ok.a first; have h2 := ok.a last; have h3 := ok.s last
    have h4 : y.ad first = y.lib.base + y.at_ first + (if 8 ≤ first then 4096 else 0) := rfl
    unfold Ly.seg E.FitS
    simp only
    refine ⟨p0, p1, Nat.le_refl _, by omega, ?_, ?_⟩
    · split at h4 <;> omega
    · rcases hk with ⟨rfl, rfl⟩ | ⟨hk, ha⟩
      · left
        refine ⟨rfl, rfl, ?_⟩
        split at h4 <;> omega
      · right
        exact ⟨hk, ha⟩
  have k2 : E.FitS y.second := by
    have h1 := ok.a 8; have h2 := ok.a 9; have h3 := ok.s 9
    have h4 : y.ad 8 = y.lib.base + y.at_ 8 + 4096 := rfl
    unfold Ly.second E.FitS
    simp only
    refine ⟨by decide, by decide, by omega, by omega, by omega, Or.inl ⟨by first | rfl | trivial, by first | rfl | trivial, by omega⟩⟩
  unfold E.fitE
  rw [Bool.and_eq_true, decide_eq_true_eq, List.all_eq_true]
  refine ⟨by show y.segs.length ≤ 16; rw [segs_len]; split <;> decide, fun g hg => decide_eq_true ?_⟩
  have hg : g ∈ y.segs := hg
  unfold Ly.segs Ly.segs3 at hg
  split at hg
  · simp at hg
    rcases hg with rfl | rfl | rfl
    · exact key _ _ _ _ _ (by decide) (by decide) (Or.inl ⟨rfl, rfl⟩)
    · exact k2
    · exact key _ _ _ _ _ (by decide) (by decide) (Or.inr ⟨Or.inl rfl, by decide⟩)
  · simp at hg
    rcases hg with rfl | rfl | rfl | rfl
    · exact key _ _ _ _ _ (by decide) (by decide) (Or.inl ⟨rfl, rfl⟩)
    · exact k2
    · exact key _ _ _ _ _ (by decide) (by decide) (Or.inr ⟨Or.inl rfl, by decide⟩)
    · exact key _ _ _ _ _ (by decide) (by decide) (Or.inr ⟨Or.inr rfl, by decide⟩)
theorem head_len {y : Ly} (ok : y.Ok) : (E.wrL y.head).length = 52 + 32 * (if y.lib.interp = [] then 3 else 4) := by
  unfold E.wrL
  rw [if_pos (head_fit ok), List.length_append, E.headB_len, E.flat_len, show y.head.segs = y.segs from rfl, segs_len]
theorem flat2_len {α : Type} (f : α → List Nat) (n : Nat) (h : ∀ a, (f a).length = n) (l : List α) : (l.flatMap f).length = n * l.length := by
  induction l with
  | nil => rfl
  | cons a r ih => rw [List.flatMap_cons, List.length_append, h, ih, List.length_cons, Nat.mul_add, Nat.mul_one, Nat.add_comm]
theorem link_len (y : Ly) (ps : List Nat) (hp : ps.length = y.lib.needed.length + 1) : (y.linkW ps).length = 2 * y.lib.needed.length + (if y.lib.soname = [] then 0 else 2) + 16 + (if y.lib.init = 0 then 0 else 2) + 10 := by
  unfold Ly.linkW needW Ly.soW Ly.adW Ly.lenW Ly.iniW Ly.gotW
  simp only [List.length_append]
  rw [flat2_len (fun p => [1, p]) 2 (fun _ => rfl), List.length_take, hp]
  split <;> split <;> simp only [List.length_cons, List.length_nil] <;> omega
/-- How long each part is, whatever the places. -/
def Lb.len (l : Lb) : Nat → Nat
  | 0 => 52 + 32 * (if l.interp = [] then 3 else 4)
  | 1 => if l.interp = [] then 0 else l.interp.length + 1
  | 2 => 4 * (2 * l.needed.length + (if l.soname = [] then 0 else 2) + 16 + (if l.init = 0 then 0 else 2) + 10)
  | 3 => 4 * (l.syms.length + 6)
  | 4 => 16 * (l.syms.length + 1)
  | 5 => (strsN (strsL l.syms) l.names).length
  | 6 => 8 * l.rels.length
  | 7 => l.code.length
  | 8 => 4 * (2 + l.locals.length + l.global.toNat)
  | 9 => l.data.length
  | _ => 0
theorem part_len {y : Ly} (ok : y.Ok) : ∀ p, (y.part p).length = y.lib.len p
  | 0 => head_len ok
  | 1 => by
    show (if y.lib.interp = [] then ([] : L8) else y.lib.interp ++ [0]).length = if y.lib.interp = [] then 0 else y.lib.interp.length + 1
    split <;> simp
  | 2 => by
    show (wds (y.linkW (plcN y.tab.strs y.lib.names))).length = _
    rw [wds_len, link_len y _ (by rw [plcN_len]; unfold Lb.names; simp)]
    rfl
  | 3 => ok.hash
  | 4 => ok.symsL
  | 5 => by show (strsN y.tab.strs y.lib.names).length = _; rw [ok.strs.1]; rfl
  | 6 => by
    show (wds (y.lib.rels.flatMap y.relW)).length = 8 * y.lib.rels.length
    rw [wds_len, flat2_len y.relW 2 (fun _ => rfl)]
    omega
  | 7 => rfl
  | 8 => by
    have hg := ok.fit.g1
    show (wds y.plW).length = 4 * (2 + y.lib.locals.length + y.lib.global.toNat)
    unfold Ly.plW
    rw [wds_len]
    simp only [List.length_append, List.length_map, List.length_drop, List.length_cons, List.length_nil]
    omega
  | 9 => rfl
  | _ + 10 => rfl
end Go.Proofs.YtgdflobcbhnimaaGreat
