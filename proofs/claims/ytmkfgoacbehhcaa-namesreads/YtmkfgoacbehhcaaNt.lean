/- What is proved here: what symbols and tables that are handed in hold. -/
import Derived.Test.YtmkfgoacbehhcaaNn
import Derived.WalkKit
import Derived.ProofKit
import Derived.OpenShut
import Derived.ShutString
import Derived.ChangeOld
import Derived.Below
import Derived.Deep.Slices
import Derived.Deep.Strs
namespace Go.Proofs.Ytmkfgoacbehhcaa
open Go.ChangeShapes Go.WideShapes Go.ChangeAt Go.RowKit
set_option linter.unusedVariables false
set_option linter.unusedSimpArgs false
set_option maxRecDepth 100000
theorem hc3 : Try.prog.cellsOf 3 = 1 := by kernel_rfl
theorem hc35 : Try.prog.cellsOf 35 = 1 := by kernel_rfl
theorem hc9 : Try.prog.cellsOf 9 = 1 := by kernel_rfl
theorem hc23 : Try.prog.cellsOf 23 = 3 := by kernel_rfl
theorem hc39 : Try.prog.cellsOf 39 = 5 := by kernel_rfl
theorem ba_back (s : ByteArray) : (⟨s.data.toList.toArray⟩ : ByteArray) = s := rfl
theorem spot_none {w : World} {a : Addr} {v : Value} (h : w.cell? a = some v) : a = ⟨a.block, a.off, none⟩ := by
  obtain ⟨b, o, s⟩ := a
  cases s with
  | none => rfl
  | some x =>
    unfold World.cell? at h
    split at h <;> simp at h
theorem list3 {α : Type} (l : List α) (h : (⟨l⟩ : Array α).size = 3) : ∃ a b c, l = [a, b, c] := by
  match l, h with
  | [a, b, c], _ => exact ⟨a, b, c, rfl⟩
theorem add_pl (b o j : Nat) : (⟨b, o, none⟩ : Addr).add j = ⟨b, o + j, none⟩ := by
  unfold Addr.add
  split <;> simp_all
/-- A symbol in five cells that are handed in. -/
theorem openSy {H : Type} {enc : TypeId × Value → H} {W : World} {n : Nat} {cs : List Value} {x : DataW H × List MemPlace} (hl : cs.length = 5)
    (h : DataW.trod enc Try.prog W 0 (fun _ => true) true n 39 cs = some x) : ∃ g : Sy, cs = g.cells ∧ g.Bd := by
  obtain ⟨xs, k, hk, hxy, _, hxl, hf⟩ := DataW.trod_struct Try.underlying39 h
  match xs, hxl, cs, hl with
  | [y0, y1, y2, y3, y4], _, [v0, v1, v2, v3, v4], _ =>
    have g0 := hf 0 _ rfl
    have g1 := hf 1 _ rfl
    have g2 := hf 2 _ rfl
    have g3 := hf 3 _ rfl
    have g4 := hf 4 _ rfl
    simp [hc3, hc35, hc9] at g0 g1 g2 g3 g4
    obtain ⟨s0, e0, _, _⟩ := DataW.trod_string Try.underlying9 g0
    obtain ⟨z1, e1, _, w1⟩ := DataW.trod_int Try.underlying35 g1
    obtain ⟨z2, e2, _, w2⟩ := DataW.trod_int Try.underlying35 g2
    obtain ⟨z3, e3, _, w3⟩ := DataW.trod_int Try.underlying3 g3
    obtain ⟨z4, e4, _, w4⟩ := DataW.trod_int Try.underlying3 g4
    simp at e0 e1 e2 e3 e4
    subst e0 e1 e2 e3 e4
    obtain ⟨a1, b1⟩ := bounds_u32 w1
    obtain ⟨a2, b2⟩ := bounds_u32 w2
    obtain ⟨a3, b3⟩ := bounds_i64 w3
    obtain ⟨a4, b4⟩ := bounds_i64 w4
    obtain ⟨n1, rfl⟩ := Int.eq_ofNat_of_zero_le a1
    obtain ⟨n2, rfl⟩ := Int.eq_ofNat_of_zero_le a2
    exact ⟨⟨s0.data.toList, n1, n2, z3, z4⟩, rfl, ⟨by simp only; omega, by simp only; omega, by simp only; omega, by simp only; omega, by simp only; omega, by simp only; omega⟩⟩
/-- What a slice of symbols that is handed in holds. -/
theorem openSyms {H : Type} {enc : TypeId × Value → H} {W : World} {fuel : Nat} {v : Value} {x : DataW H × List MemPlace}
    (h : DataW.trod enc Try.prog W 0 (fun _ => true) true fuel 26 [v] = some x) : ∃ gs : List Sy, SlY W v gs ∧ ∀ g ∈ gs, g.Bd := by
  rcases Deep.open_slice Try.underlying26 h with ⟨hv, _⟩ | ⟨a, len, cap, m, n, D, Pl, hv, hb, hl, hc, hmm, _, hx⟩
  · simp at hv; subst hv
    exact ⟨[], SlY.nil W, by simp⟩
  simp at hv; subst hv
  have hlm : len ≤ m := by rw [hmm]; simpa using hl
  have each : ∀ i, ∃ g : Sy, i < len → (g.Bd ∧ ∀ j u, (g.cells)[j]? = some u → W.cell? ((a.add (i * 5)).add j) = some u) := by
    intro i
    by_cases hi : i < len
    · obtain ⟨cs', h1, h2⟩ := hx i (by omega)
      rw [hc39] at h1
      obtain ⟨_, hlen, hcell⟩ := World.cells?_some h1
      obtain ⟨g, rfl, hb⟩ := openSy hlen h2
      refine ⟨g, fun _ => ⟨hb, fun j u hj => ?_⟩⟩
      have hj7 : j < 5 := by rw [← hlen]; exact (List.getElem?_eq_some_iff.1 hj).1
      rw [hcell j hj7]
      exact hj
    · exact ⟨⟨[], 0, 0, 0, 0⟩, fun h => absurd h hi⟩
  obtain ⟨G, hG⟩ := Classical.axiomOfChoice each
  refine ⟨(List.range len).map G, ⟨some a, cap, by simp, by simpa using hl, by unfold maxLen at hc; omega, by simp, fun i hi => ?_⟩, ?_⟩
  · simp at hi
    have hcel := (hG i hi).2
    have ha := spot_none (show W.cell? a = some _ from by have := (hG 0 (by omega)).2 0 _ rfl; rw [show (a.add (0 * 5)).add 0 = a from rfl] at this; exact this)
    refine ⟨a.block, a.off, by rw [← ha], ?_⟩
    have key : ∀ j u, ((G i).cells)[j]? = some u → W.cell? ⟨a.block, a.off + i * 5 + j, none⟩ = some u := fun j u hj => by
      have := hcel j u hj
      rw [ha, add_pl, add_pl] at this
      exact this
    rw [List.getElem_map, List.getElem_range]
    exact ⟨key 0 _ rfl, key 1 _ rfl, key 2 _ rfl, key 3 _ rfl, key 4 _ rfl⟩
  · intro g hg
    obtain ⟨i, hi, rfl⟩ := List.mem_map.1 hg
    exact (hG i (List.mem_range.1 hi)).1
theorem openList {H : Type} {enc : TypeId × Value → H} {W : World} {base : Nat} {v : Value} {d : DataW H} {p : List MemPlace} (hv : Value.okWide Try.prog W .any base 26 v) (h : DataW.Trod enc Try.prog W 0 (fun _ => true) true 26 v d p) :
    ∃ gs : List Sy, SlY W v gs ∧ ∀ g ∈ gs, g.Bd := by
  obtain ⟨fuel, hf⟩ := h
  have hc : (Value.cells v).toList = [v] := by
    cases v <;> first | rfl | (exfalso; simp [Value.okWide, Cell.okWide, Try.underlying26] at hv; done) | (exfalso; simp [Value.okWide, Try.underlying26, Cell.okWide] at hv; trace_state; exact hv)
  rw [hc] at hf
  exact openSyms hf
theorem openTable {H : Type} {enc : TypeId × Value → H} {W : World} {base : Nat} {v : Value} {d : DataW H} {p : List MemPlace} (hv : Value.okWide Try.prog W .any base 23 v) (h : DataW.Trod enc Try.prog W 0 (fun _ => true) true 23 v d p) :
    ∃ T : Tb, v = T.val := by
  obtain ⟨cs, rfl, hsz, _⟩ : ∃ cs, v = .agg cs ∧ cs.size = Try.prog.cellsOf 23 ∧ Row.okWide Try.prog W .any base 23 cs := by
    simpa [Value.okWide, Try.underlying23] using hv
  rw [hc23] at hsz
  obtain ⟨l⟩ := cs
  obtain ⟨b, e, s, rfl⟩ := list3 l hsz
  obtain ⟨fuel, hf⟩ := h
  obtain ⟨y0, y1, y2, n, _, _, h0, h1, h2⟩ := Deep.trod_struct3 Try.underlying23 hf
  simp [hc9, Value.cells] at h0 h1 h2
  obtain ⟨z0, e0, _, _⟩ := DataW.trod_string Try.underlying9 h0
  obtain ⟨z1, e1, _, _⟩ := DataW.trod_string Try.underlying9 h1
  obtain ⟨z2, e2, _, _⟩ := DataW.trod_string Try.underlying9 h2
  simp at e0 e1 e2
  subst e0 e1 e2
  exact ⟨⟨z0.data.toList, z1.data.toList, z2.data.toList⟩, rfl⟩
end Go.Proofs.Ytmkfgoacbehhcaa
