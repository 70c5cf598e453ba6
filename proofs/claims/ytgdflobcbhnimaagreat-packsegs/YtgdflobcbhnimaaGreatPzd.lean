/- What is proved here: what libraries that are handed in hold. -/
import Derived.Test.YtgdflobcbhnimaaGreatPzc
import Derived.WalkKit
import Derived.ProofKit
import Derived.OpenShut
import Derived.ShutString
import Derived.ChangeOld
import Derived.Below
import Derived.Deep.Slices
import Derived.Deep.Strs
namespace Go.Proofs.YtgdflobcbhnimaaGreat
open Go.ChangeShapes Go.WideShapes Go.ChangeAt Go.RowKit
set_option linter.unusedVariables false
set_option linter.unusedSimpArgs false
set_option maxRecDepth 100000
theorem hc3 : Tryz.prog.cellsOf 3 = 1 := by kernel_rfl
theorem hc4 : Tryz.prog.cellsOf 4 = 1 := by kernel_rfl
theorem hc22 : Tryz.prog.cellsOf 22 = 1 := by kernel_rfl
theorem hc9 : Tryz.prog.cellsOf 9 = 1 := by kernel_rfl
theorem hc23 : Tryz.prog.cellsOf 23 = 1 := by kernel_rfl
theorem hc24 : Tryz.prog.cellsOf 24 = 1 := by kernel_rfl
theorem hc25 : Tryz.prog.cellsOf 25 = 1 := by kernel_rfl
theorem hc26 : Tryz.prog.cellsOf 26 = 1 := by kernel_rfl
theorem hc28 : Tryz.prog.cellsOf 28 = 14 := by kernel_rfl
theorem hc46 : Tryz.prog.cellsOf 46 = 5 := by kernel_rfl
theorem hc51 : Tryz.prog.cellsOf 51 = 3 := by kernel_rfl
theorem spot_none {w : World} {a : Addr} {v : Value} (h : w.cell? a = some v) : a = ⟨a.block, a.off, none⟩ := by
  obtain ⟨b, o, s⟩ := a
  cases s with
  | none => rfl
  | some x =>
    unfold World.cell? at h
    split at h <;> simp at h
theorem add_pl (b o j : Nat) : (⟨b, o, none⟩ : Addr).add j = ⟨b, o + j, none⟩ := by
  unfold Addr.add
  split <;> simp_all
/-- A text in a cell that is handed in. -/
theorem openTx {H : Type} {enc : TypeId × Value → H} {W : World} {n : Nat} {cs : List Value} {x : DataW H × List MemPlace} (hl : cs.length = 1)
    (h : DataW.trod enc Tryz.prog W 0 (fun _ => true) true n 9 cs = some x) : ∃ g : L8, cs = [.string ⟨g.toArray⟩] ∧ True := by
  obtain ⟨s0, e0, _, _⟩ := DataW.trod_string Tryz.underlying9 h
  exact ⟨s0.data.toList, e0, trivial⟩
/-- A number in a cell that is handed in. -/
theorem openNm {H : Type} {enc : TypeId × Value → H} {W : World} {n : Nat} {cs : List Value} {x : DataW H × List MemPlace} (hl : cs.length = 1)
    (h : DataW.trod enc Tryz.prog W 0 (fun _ => true) true n 22 cs = some x) : ∃ g : Nat, cs = [.int .u32 (g : Int)] ∧ g < 4294967296 := by
  obtain ⟨z1, e1, _, w1⟩ := DataW.trod_int Tryz.underlying22 h
  obtain ⟨a1, b1⟩ := bounds_u32 w1
  obtain ⟨n1, rfl⟩ := Int.eq_ofNat_of_zero_le a1
  exact ⟨n1, e1, by omega⟩
/-- A symbol in five cells that are handed in. -/
theorem openSy {H : Type} {enc : TypeId × Value → H} {W : World} {n : Nat} {cs : List Value} {x : DataW H × List MemPlace} (hl : cs.length = 5)
    (h : DataW.trod enc Tryz.prog W 0 (fun _ => true) true n 46 cs = some x) : ∃ g : Sy, cs = g.cells ∧ g.Bd := by
  obtain ⟨xs, k, hk, hxy, _, hxl, hf⟩ := DataW.trod_struct Tryz.underlying46 h
  match xs, hxl, cs, hl with
  | [y0, y1, y2, y3, y4], _, [v0, v1, v2, v3, v4], _ =>
    have g0 := hf 0 _ rfl
    have g1 := hf 1 _ rfl
    have g2 := hf 2 _ rfl
    have g3 := hf 3 _ rfl
    have g4 := hf 4 _ rfl
    simp [hc3, hc22, hc9] at g0 g1 g2 g3 g4
    obtain ⟨s0, e0, _, _⟩ := DataW.trod_string Tryz.underlying9 g0
    obtain ⟨z1, e1, _, w1⟩ := DataW.trod_int Tryz.underlying22 g1
    obtain ⟨z2, e2, _, w2⟩ := DataW.trod_int Tryz.underlying22 g2
    obtain ⟨z3, e3, _, w3⟩ := DataW.trod_int Tryz.underlying3 g3
    obtain ⟨z4, e4, _, w4⟩ := DataW.trod_int Tryz.underlying3 g4
    simp at e0 e1 e2 e3 e4
    subst e0 e1 e2 e3 e4
    obtain ⟨a1, b1⟩ := bounds_u32 w1
    obtain ⟨a2, b2⟩ := bounds_u32 w2
    obtain ⟨a3, b3⟩ := bounds_i64 w3
    obtain ⟨a4, b4⟩ := bounds_i64 w4
    obtain ⟨n1, rfl⟩ := Int.eq_ofNat_of_zero_le a1
    obtain ⟨n2, rfl⟩ := Int.eq_ofNat_of_zero_le a2
    exact ⟨⟨s0.data.toList, n1, n2, z3, z4⟩, rfl, ⟨by simp only; omega, by simp only; omega, by simp only; omega, by simp only; omega, by simp only; omega, by simp only; omega⟩⟩
def Rl.cells (r : Rl) : List Value := [.int .u32 (r.at_ : Int), .int .i64 r.kind, .int .i64 r.sym]
/-- A relocation in three cells that are handed in. -/
theorem openRl {H : Type} {enc : TypeId × Value → H} {W : World} {n : Nat} {cs : List Value} {x : DataW H × List MemPlace} (hl : cs.length = 3)
    (h : DataW.trod enc Tryz.prog W 0 (fun _ => true) true n 51 cs = some x) : ∃ g : Rl, cs = g.cells ∧ g.Bd := by
  obtain ⟨xs, k, hk, hxy, _, hxl, hf⟩ := DataW.trod_struct Tryz.underlying51 h
  match xs, hxl, cs, hl with
  | [y0, y1, y2], _, [v0, v1, v2], _ =>
    have g0 := hf 0 _ rfl
    have g1 := hf 1 _ rfl
    have g2 := hf 2 _ rfl
    simp [hc3, hc22] at g0 g1 g2
    obtain ⟨z1, e1, _, w1⟩ := DataW.trod_int Tryz.underlying22 g0
    obtain ⟨z3, e3, _, w3⟩ := DataW.trod_int Tryz.underlying3 g1
    obtain ⟨z4, e4, _, w4⟩ := DataW.trod_int Tryz.underlying3 g2
    simp at e1 e3 e4
    subst e1 e3 e4
    obtain ⟨a1, b1⟩ := bounds_u32 w1
    obtain ⟨a3, b3⟩ := bounds_i64 w3
    obtain ⟨a4, b4⟩ := bounds_i64 w4
    obtain ⟨n1, rfl⟩ := Int.eq_ofNat_of_zero_le a1
    exact ⟨⟨n1, z3, z4⟩, rfl, by constructor <;> simp only <;> omega⟩
theorem openTxs {H : Type} {enc : TypeId × Value → H} {W : World} {fuel : Nat} {v : Value} {x : DataW H × List MemPlace}
    (h : DataW.trod enc Tryz.prog W 0 (fun _ => true) true fuel 23 [v] = some x) : ∃ gs : List L8, SlS W v gs ∧ ∀ g ∈ gs, True := by
  rcases Deep.open_slice Tryz.underlying23 h with ⟨hv, _⟩ | ⟨a, len, cap, m, n, D, Pl, hv, hb, hl, hc, hmm, _, hx⟩
  · simp at hv; subst hv
    exact ⟨[], ⟨none, 0, rfl, Nat.le_refl _, by decide, fun _ => rfl, fun i h => absurd h (Nat.not_lt_zero _)⟩, by simp⟩
  simp at hv; subst hv
  have hlm : len ≤ m := by rw [hmm]; simpa using hl
  have each : ∀ i, ∃ g : L8, i < len → (True ∧ ∀ j u, ([Value.string ⟨g.toArray⟩])[j]? = some u → W.cell? ((a.add (i * 1)).add j) = some u) := by
    intro i
    by_cases hi : i < len
    · obtain ⟨cs', h1, h2⟩ := hx i (by omega)
      rw [hc9] at h1
      obtain ⟨_, hlen, hcell⟩ := World.cells?_some h1
      obtain ⟨g, rfl, hb⟩ := openTx hlen h2
      refine ⟨g, fun _ => ⟨hb, fun j u hj => ?_⟩⟩
      have hj7 : j < 1 := by rw [← hlen]; exact (List.getElem?_eq_some_iff.1 hj).1
      rw [hcell j hj7]
      exact hj
    · exact ⟨[], fun h => absurd h hi⟩
  obtain ⟨G, hG⟩ := Classical.axiomOfChoice each
  refine ⟨(List.range len).map G, ⟨some a, cap, by simp, by simpa using hl, by unfold maxLen at hc; omega, by simp, fun i hi => ?_⟩, ?_⟩
  · simp at hi
    have hcel := (hG i hi).2
    have ha := spot_none (show W.cell? a = some _ from by have := (hG 0 (by omega)).2 0 _ rfl; rw [show (a.add (0 * 1)).add 0 = a from rfl] at this; exact this)
    refine ⟨a.block, a.off, by rw [← ha], ?_⟩
    have key : ∀ j u, ([Value.string ⟨(G i).toArray⟩])[j]? = some u → W.cell? ⟨a.block, a.off + i * 1 + j, none⟩ = some u := fun j u hj => by
      have := hcel j u hj
      rw [ha, add_pl, add_pl] at this
      exact this
    rw [List.getElem_map, List.getElem_range]
    exact (by have := key 0 _ rfl; simpa using this)
  · intro g hg
    obtain ⟨i, hi, rfl⟩ := List.mem_map.1 hg
    exact (hG i (List.mem_range.1 hi)).1
theorem openNms {H : Type} {enc : TypeId × Value → H} {W : World} {fuel : Nat} {v : Value} {x : DataW H × List MemPlace}
    (h : DataW.trod enc Tryz.prog W 0 (fun _ => true) true fuel 26 [v] = some x) : ∃ gs : List Nat, SlN W v gs ∧ ∀ g ∈ gs, g < 4294967296 := by
  rcases Deep.open_slice Tryz.underlying26 h with ⟨hv, _⟩ | ⟨a, len, cap, m, n, D, Pl, hv, hb, hl, hc, hmm, _, hx⟩
  · simp at hv; subst hv
    exact ⟨[], ⟨none, 0, rfl, Nat.le_refl _, by decide, fun _ => rfl, fun i h => absurd h (Nat.not_lt_zero _)⟩, by simp⟩
  simp at hv; subst hv
  have hlm : len ≤ m := by rw [hmm]; simpa using hl
  have each : ∀ i, ∃ g : Nat, i < len → (g < 4294967296 ∧ ∀ j u, ([Value.int .u32 (g : Int)])[j]? = some u → W.cell? ((a.add (i * 1)).add j) = some u) := by
    intro i
    by_cases hi : i < len
    · obtain ⟨cs', h1, h2⟩ := hx i (by omega)
      rw [hc22] at h1
      obtain ⟨_, hlen, hcell⟩ := World.cells?_some h1
      obtain ⟨g, rfl, hb⟩ := openNm hlen h2
      refine ⟨g, fun _ => ⟨hb, fun j u hj => ?_⟩⟩
      have hj7 : j < 1 := by rw [← hlen]; exact (List.getElem?_eq_some_iff.1 hj).1
      rw [hcell j hj7]
      exact hj
    · exact ⟨0, fun h => absurd h hi⟩
  obtain ⟨G, hG⟩ := Classical.axiomOfChoice each
  refine ⟨(List.range len).map G, ⟨some a, cap, by simp, by simpa using hl, by unfold maxLen at hc; omega, by simp, fun i hi => ?_⟩, ?_⟩
  · simp at hi
    have hcel := (hG i hi).2
    have ha := spot_none (show W.cell? a = some _ from by have := (hG 0 (by omega)).2 0 _ rfl; rw [show (a.add (0 * 1)).add 0 = a from rfl] at this; exact this)
    refine ⟨a.block, a.off, by rw [← ha], ?_⟩
    have key : ∀ j u, ([Value.int .u32 ((G i : Nat) : Int)])[j]? = some u → W.cell? ⟨a.block, a.off + i * 1 + j, none⟩ = some u := fun j u hj => by
      have := hcel j u hj
      rw [ha, add_pl, add_pl] at this
      exact this
    rw [List.getElem_map, List.getElem_range]
    exact (by have := key 0 _ rfl; simpa using this)
  · intro g hg
    obtain ⟨i, hi, rfl⟩ := List.mem_map.1 hg
    exact (hG i (List.mem_range.1 hi)).1
theorem openSyms {H : Type} {enc : TypeId × Value → H} {W : World} {fuel : Nat} {v : Value} {x : DataW H × List MemPlace}
    (h : DataW.trod enc Tryz.prog W 0 (fun _ => true) true fuel 24 [v] = some x) : ∃ gs : List Sy, SlY W v gs ∧ ∀ g ∈ gs, g.Bd := by
  rcases Deep.open_slice Tryz.underlying24 h with ⟨hv, _⟩ | ⟨a, len, cap, m, n, D, Pl, hv, hb, hl, hc, hmm, _, hx⟩
  · simp at hv; subst hv
    exact ⟨[], ⟨none, 0, rfl, Nat.le_refl _, by decide, fun _ => rfl, fun i h => absurd h (Nat.not_lt_zero _)⟩, by simp⟩
  simp at hv; subst hv
  have hlm : len ≤ m := by rw [hmm]; simpa using hl
  have each : ∀ i, ∃ g : Sy, i < len → (g.Bd ∧ ∀ j u, (g.cells)[j]? = some u → W.cell? ((a.add (i * 5)).add j) = some u) := by
    intro i
    by_cases hi : i < len
    · obtain ⟨cs', h1, h2⟩ := hx i (by omega)
      rw [hc46] at h1
      obtain ⟨_, hlen, hcell⟩ := World.cells?_some h1
      obtain ⟨g, rfl, hb⟩ := openSy hlen h2
      refine ⟨g, fun _ => ⟨hb, fun j u hj => ?_⟩⟩
      have hj7 : j < 5 := by rw [← hlen]; exact (List.getElem?_eq_some_iff.1 hj).1
      rw [hcell j hj7]
      exact hj
    · exact ⟨⟨[], 0, 0, 0, 0⟩, fun h => absurd h hi⟩
  obtain ⟨G, hG⟩ := Classical.axiomOfChoice each
  refine ⟨(List.range len).map G, ⟨some a, cap, by simp, by simpa using hl, by unfold maxLen at hc; omega, by simp, fun i hi => ?_⟩, ?_⟩
  · simp at hi
    have hcel := (hG i hi).2
    have ha := spot_none (show W.cell? a = some _ from by have := (hG 0 (by omega)).2 0 _ rfl; rw [show (a.add (0 * 5)).add 0 = a from rfl] at this; exact this)
    refine ⟨a.block, a.off, by rw [← ha], ?_⟩
    have key : ∀ j u, ((G i).cells)[j]? = some u → W.cell? ⟨a.block, a.off + i * 5 + j, none⟩ = some u := fun j u hj => by
      have := hcel j u hj
      rw [ha, add_pl, add_pl] at this
      exact this
    rw [List.getElem_map, List.getElem_range]
    exact ⟨key 0 _ rfl, key 1 _ rfl, key 2 _ rfl, key 3 _ rfl, key 4 _ rfl⟩
  · intro g hg
    obtain ⟨i, hi, rfl⟩ := List.mem_map.1 hg
    exact (hG i (List.mem_range.1 hi)).1
theorem openRls {H : Type} {enc : TypeId × Value → H} {W : World} {fuel : Nat} {v : Value} {x : DataW H × List MemPlace}
    (h : DataW.trod enc Tryz.prog W 0 (fun _ => true) true fuel 25 [v] = some x) : ∃ gs : List Rl, SlR W v gs ∧ ∀ g ∈ gs, g.Bd := by
  rcases Deep.open_slice Tryz.underlying25 h with ⟨hv, _⟩ | ⟨a, len, cap, m, n, D, Pl, hv, hb, hl, hc, hmm, _, hx⟩
  · simp at hv; subst hv
    exact ⟨[], ⟨none, 0, rfl, Nat.le_refl _, by decide, fun _ => rfl, fun i h => absurd h (Nat.not_lt_zero _)⟩, by simp⟩
  simp at hv; subst hv
  have hlm : len ≤ m := by rw [hmm]; simpa using hl
  have each : ∀ i, ∃ g : Rl, i < len → (g.Bd ∧ ∀ j u, (g.cells)[j]? = some u → W.cell? ((a.add (i * 3)).add j) = some u) := by
    intro i
    by_cases hi : i < len
    · obtain ⟨cs', h1, h2⟩ := hx i (by omega)
      rw [hc51] at h1
      obtain ⟨_, hlen, hcell⟩ := World.cells?_some h1
      obtain ⟨g, rfl, hb⟩ := openRl hlen h2
      refine ⟨g, fun _ => ⟨hb, fun j u hj => ?_⟩⟩
      have hj7 : j < 3 := by rw [← hlen]; exact (List.getElem?_eq_some_iff.1 hj).1
      rw [hcell j hj7]
      exact hj
    · exact ⟨⟨0, 0, 0⟩, fun h => absurd h hi⟩
  obtain ⟨G, hG⟩ := Classical.axiomOfChoice each
  refine ⟨(List.range len).map G, ⟨some a, cap, by simp, by simpa using hl, by unfold maxLen at hc; omega, by simp, fun i hi => ?_⟩, ?_⟩
  · simp at hi
    have hcel := (hG i hi).2
    have ha := spot_none (show W.cell? a = some _ from by have := (hG 0 (by omega)).2 0 _ rfl; rw [show (a.add (0 * 3)).add 0 = a from rfl] at this; exact this)
    refine ⟨a.block, a.off, by rw [← ha], ?_⟩
    have key : ∀ j u, ((G i).cells)[j]? = some u → W.cell? ⟨a.block, a.off + i * 3 + j, none⟩ = some u := fun j u hj => by
      have := hcel j u hj
      rw [ha, add_pl, add_pl] at this
      exact this
    rw [List.getElem_map, List.getElem_range]
    exact ⟨key 0 _ rfl, key 1 _ rfl, key 2 _ rfl⟩
  · intro g hg
    obtain ⟨i, hi, rfl⟩ := List.mem_map.1 hg
    exact (hG i (List.mem_range.1 hi)).1
theorem list14 {α : Type} (l : List α) (h : (⟨l⟩ : Array α).size = 14) : ∃ v0 v1 v2 v3 v4 v5 v6 v7 v8 v9 v10 v11 v12 v13, l = [v0, v1, v2, v3, v4, v5, v6, v7, v8, v9, v10, v11, v12, v13] := by
  match l, h with
  | [v0, v1, v2, v3, v4, v5, v6, v7, v8, v9, v10, v11, v12, v13], _ => exact ⟨v0, v1, v2, v3, v4, v5, v6, v7, v8, v9, v10, v11, v12, v13, rfl⟩
set_option maxHeartbeats 2000000 in
theorem openLib {H : Type} {enc : TypeId × Value → H} {W : World} {base : Nat} {v : Value} {d : DataW H} {p : List MemPlace} (hv : Value.okWide Tryz.prog W .any base 28 v) (h : DataW.Trod enc Tryz.prog W 0 (fun _ => true) true 28 v d p) :
    ∃ (l : Lb) (q : Lv), v = l.val q ∧ LvIs l q W ∧ l.Bd := by
  obtain ⟨cs, rfl, hsz, _⟩ : ∃ cs, v = .agg cs ∧ cs.size = Tryz.prog.cellsOf 28 ∧ Row.okWide Tryz.prog W .any base 28 cs := by
    simpa [Value.okWide, Tryz.underlying28] using hv
  rw [hc28] at hsz
  obtain ⟨cl⟩ := cs
  obtain ⟨v0, v1, v2, v3, v4, v5, v6, v7, v8, v9, v10, v11, v12, v13, rfl⟩ := list14 cl hsz
  obtain ⟨fuel, hf0⟩ := h
  obtain ⟨xs, k, hk, hxy, _, hxl, hf⟩ := DataW.trod_struct Tryz.underlying28 hf0
  simp only [Value.cells] at hf
  match xs, hxl with
  | [y0, y1, y2, y3, y4, y5, y6, y7, y8, y9, y10, y11, y12, y13], _ =>
    have g0 := hf 0 _ rfl
    have g1 := hf 1 _ rfl
    have g2 := hf 2 _ rfl
    have g3 := hf 3 _ rfl
    have g4 := hf 4 _ rfl
    have g5 := hf 5 _ rfl
    have g6 := hf 6 _ rfl
    have g7 := hf 7 _ rfl
    have g8 := hf 8 _ rfl
    have g9 := hf 9 _ rfl
    have g10 := hf 10 _ rfl
    have g11 := hf 11 _ rfl
    have g12 := hf 12 _ rfl
    have g13 := hf 13 _ rfl
    simp [hc3, hc4, hc22, hc9, hc23, hc24, hc25, hc26] at g0 g1 g2 g3 g4 g5 g6 g7 g8 g9 g10 g11 g12 g13
    obtain ⟨z0, e0, _⟩ := DataW.trod_bool Tryz.underlying4 g0
    obtain ⟨z1, e1, _, w1⟩ := DataW.trod_int Tryz.underlying22 g1
    obtain ⟨z2, e2, _, w2⟩ := DataW.trod_int Tryz.underlying22 g2
    obtain ⟨z3, e3, _, _⟩ := DataW.trod_string Tryz.underlying9 g3
    obtain ⟨z4, e4, _, _⟩ := DataW.trod_string Tryz.underlying9 g4
    obtain ⟨z5, e5, _, w5⟩ := DataW.trod_int Tryz.underlying22 g5
    obtain ⟨z7, e7, _, _⟩ := DataW.trod_string Tryz.underlying9 g7
    obtain ⟨z8, e8, _, _⟩ := DataW.trod_string Tryz.underlying9 g8
    obtain ⟨z12, e12, _, w12⟩ := DataW.trod_int Tryz.underlying3 g12
    obtain ⟨z13, e13, _, w13⟩ := DataW.trod_int Tryz.underlying22 g13
    simp at e0 e1 e2 e3 e4 e5 e7 e8 e12 e13
    subst e0 e1 e2 e3 e4 e5 e7 e8 e12 e13
    obtain ⟨a1, b1⟩ := bounds_u32 w1
    obtain ⟨n1, rfl⟩ := Int.eq_ofNat_of_zero_le a1
    obtain ⟨a2, b2⟩ := bounds_u32 w2
    obtain ⟨n2, rfl⟩ := Int.eq_ofNat_of_zero_le a2
    obtain ⟨a5, b5⟩ := bounds_u32 w5
    obtain ⟨n5, rfl⟩ := Int.eq_ofNat_of_zero_le a5
    obtain ⟨a12, b12⟩ := bounds_i64 w12
    obtain ⟨a13, b13⟩ := bounds_u32 w13
    obtain ⟨n13, rfl⟩ := Int.eq_ofNat_of_zero_le a13
    obtain ⟨l6, s6, _⟩ := openTxs g6
    obtain ⟨l9, s9, d9⟩ := openSyms g9
    obtain ⟨l10, s10, d10⟩ := openRls g10
    obtain ⟨l11, s11, d11⟩ := openNms g11
    exact ⟨⟨z0, n1, n2, z3.data.toList, z4.data.toList, n5, l6, z7.data.toList, z8.data.toList, l9, l10, l11, z12, n13⟩, ⟨v6, v9, v10, v11⟩, rfl, ⟨s6, s9, s10, s11⟩, ⟨by simp only; omega, by simp only; omega, by simp only; omega, by simp only; omega, by simp only; omega, by simp only; omega, d9, d10, d11⟩⟩
end Go.Proofs.YtgdflobcbhnimaaGreat
