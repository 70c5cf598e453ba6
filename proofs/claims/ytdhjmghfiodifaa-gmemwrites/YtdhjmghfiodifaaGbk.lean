/- What is proved here: just those of the host's pages within reach are mapped in which one of the guest's is: the program's look. -/
import Derived.Test.YtdhjmghfiodifaaGadd
import Derived.Test.YtdhjmghfiodifaaEach
import Derived.Test.YtdhjmghfiodifaaGagp
import Derived.Test.YtdhjmghfiodifaaHeld
import Derived.RangeFuncBox
import Derived.OwnWalkIn
import Derived.LoopTactic
import Derived.Test.YtdhjmghfiodifaaGfit
import Derived.Test.YtdhjmghfiodifaaGdoc
import Derived.Test.YtdhjmghfiodifaaGs
import Derived.Test.YtdhjmghfiodifaaPokePlain
namespace Go.Proofs.Ytdhjmghfiodifaa
open Go.RowKit
set_option linter.unusedVariables false
set_option linter.unusedSimpArgs false
set_option maxRecDepth 100000
attribute [local go_sem] Oper.semAt_some
theorem wpIn_append_own' {F : Fence} {n : Nat} {P : Program} (w : World) {o : Oper} {a : Act} {K : Act → World → Prop} {Q : Exit → Act → World → Prop}
    (s x : Operand) (t : TypeId) (hop : o.op = Op.call { callee := Callee.builtin Builtin.append, args := #[s, x], argTypes := #[t, t] })
    (base : Nat) (e : TypeId) (i : TypeInfo) (z : Value) (size bytes : Nat) (h1 : P.underlying t = some (.slice e)) (h2 : P.info? e = some i) (h3 : i.zero = some z) (h4 : i.size = size) (h5 : i.bytes = bytes) (h6 : z.cells.size = size) (h7 : 0 < size)
    (v : Value) (k : Nat) (xs : List Value) (hs : a.eval s = v) (hown : w.ownsRow base e size v k xs) (ad : Addr) (m c : Nat) (news : List Value) (hx : a.eval x = .slice (some ad) m c) (hn : news.length = m * size)
    (hc : ∀ j u, news[j]? = some u → w.cell? (ad.add j) = some u) (h1c : ∀ u ∈ news, u.oneCell' = true) (b1 : k + m ≤ maxLen) (b2 : (k + m) * bytes ≤ 140737488355328) (b3 : base ≤ w.heap.size)
    (hK : ∀ v' w', w'.ownsRow base e size v' (k + m) (xs ++ news) → w.grownBy w' v.ownBlock → K (a.put o.dst v') w') :
    Oper.wpIn F n P o a w K Q := by
  obtain ⟨v', w', hrun, r1, r2, r3⟩ := run_append_own (P := P) w base t o.type e i z size bytes h1 h2 h3 h4 h5 h6 h7 v k xs hown ad m c news hn hc h1c b1 b2 b3
  unfold Oper.wpIn
  refine ⟨?_, ?_⟩
  · simp [Oper.about, hop, resolve, Target.leads, Sem.run_pure]
  · rw [Oper.semAt_plain F _ _ (by rw [hop]; intro c hc'; cases hc')]
    simp [execOp, hop, resolve, invoke, builtin, hs, hx, hrun, Result.andThen]
    exact hK v' w' r1 r2
theorem cells2' {w : World} {b : Nat} {x y : Value} (h0 : w.cell? ⟨b, 0, none⟩ = some x) (h1 : w.cell? ⟨b, 1, none⟩ = some y) : ∀ j u, [x, y][j]? = some u → w.cell? ((⟨b, 0, none⟩ : Addr).add j) = some u := by
  intro j u hj
  match j, hj with
  | 0, hj => simp at hj; subst hj; simpa [Addr.add] using h0
  | 1, hj => simp at hj; subst hj; simpa [Addr.add] using h1
/-- What is asked for: the host's pages of the guest's. -/
def askL (bs : Nat) (ks : List K4) : List (Nat × Int) := ks.map (fun k => (hp bs k.val, 3))
theorem askL_snoc (bs : Nat) (ks : List K4) (k : K4) : askL bs (ks ++ [k]) = askL bs ks ++ [(hp bs k.val, 3)] := by simp [askL]
/-- What is there: the host's pages within reach. -/
def inP (bs p : Nat) : Bool := decide (bs / 16384 ≤ p ∧ p < bs / 16384 + 262144)
theorem KeepsOthers.of_below {W W' : World} (h : Below W.heap.size W W') : KeepsOthers W W' := ⟨h.size, fun k o hk _ => (h.block k (Array.getElem?_eq_some_iff.1 hk).1).trans hk⟩
/-- The state of the first loop: what is asked for lies in a row of its own. -/
def AskI (n₀ ab : Nat) (w : World) (xs : List (Nat × Int)) : Prop := ∃ v, Boxed w ab 22 v ∧ w.ownsRow n₀ 80 2 v xs.length (rowOf .i64 xs)
theorem AskI.row {n₀ ab : Nat} {w w' : World} {xs : List (Nat × Int)} {row : Option Nat} (h : AskI n₀ ab w xs) (hg : w.grownBy w' row) (hr : ∀ r, row = some r → ∃ o : Obj, w.heap[r]? = some o ∧ o.isCells = false) : AskI n₀ ab w' xs := by
  obtain ⟨v, hb, ho⟩ := h
  refine ⟨v, hb.kept hg (fun e => ?_), own_row ho hg hr⟩
  obtain ⟨o, h1, h2⟩ := hr ab e.symm
  rw [show w.heap[ab]? = _ from hb] at h1
  cases h1
  simp [Obj.isCells] at h2
end Go.Proofs.Ytdhjmghfiodifaa
namespace Go.Proofs.Ytdhjmghfiodifaa
open Go.RowKit
set_option linter.unusedVariables false
set_option linter.unusedSimpArgs false
set_option maxRecDepth 100000
theorem wanted_undef {ops : Array Oper} {o : Oper} {A : Act} {j t : Nat} {b : Bool} (hg : o.guard = some (j, b)) (hd : (ops[j]?).bind (·.dst) = some t) (hv : A.tmps[t]?.getD undef = undef) : Region.wanted o (yielded ops A.tmps) = false := by
  unfold Region.wanted yielded
  simp only [hg, hd, Option.bind_some]
  cases h : A.tmps[t]? with
  | none => rfl
  | some v => rw [h] at hv; simp at hv; subst hv; rfl
/-- Pages that can be, whatever the host has. -/
def PgOk (ps : List (Nat × Int)) : Prop := ps.length ≤ 256 ∧ (∀ x ∈ ps, x.1 < 1048576 ∧ 0 ≤ x.2 ∧ x.2 ≤ 7) ∧ Srt ps
open Classical in
noncomputable def pgB (ps : List (Nat × Int)) : Bool := decide (PgOk ps)
open Classical in
theorem pgB_no {ps : List (Nat × Int)} (h : ¬ PgOk ps) : pgB ps = false := decide_eq_false h
open Classical in
theorem pgB_yes {ps : List (Nat × Int)} (h : PgOk ps) : pgB ps = true := decide_eq_true h
def GoodAt (ps : List (Nat × Int)) (j : Nat) : Prop := (ps.getD j (0, 0)).1 < 1048576 ∧ 0 ≤ (ps.getD j (0, 0)).2 ∧ (ps.getD j (0, 0)).2 ≤ 7 ∧ (0 < j → (ps.getD (j - 1) (0, 0)).1 < (ps.getD j (0, 0)).1)
theorem pgOk_of {ps : List (Nat × Int)} (hl : ps.length ≤ 256) (h : ∀ j, j < ps.length → GoodAt ps j) : PgOk ps := by
  refine ⟨hl, fun x hx => ?_, srt_of (fun i hi h0 => (h i hi).2.2.2 h0)⟩
  obtain ⟨j, hj, rfl⟩ := List.getElem_of_mem hx
  have := h j hj
  rw [GoodAt, getD_at hj] at this
  exact ⟨this.1, this.2.1, this.2.2.1⟩
theorem good_of {ps : List (Nat × Int)} (h : PgOk ps) {j : Nat} (hj : j < ps.length) : GoodAt ps j := by
  have hx := h.2.1 _ (List.getElem_mem hj)
  refine ⟨by rw [getD_at hj]; exact hx.1, by rw [getD_at hj]; exact hx.2.1, by rw [getD_at hj]; exact hx.2.2, fun h0 => srt_get h.2.2 j hj h0⟩
end Go.Proofs.Ytdhjmghfiodifaa
namespace Go.Proofs.Ytdhjmghfiodifaa
open Go.RowKit
set_option linter.unusedVariables false
set_option linter.unusedSimpArgs false
set_option maxRecDepth 100000
/-- Bytes within reach that are in no page of the guest's are 0. -/
def ZeroE (cs ps : List (Nat × Int)) (bs : Nat) : Prop := ∀ c ∈ cs, inB bs c.1 = true → 0 ≤ protN ps ((c.1 - bs) / 4096)
open Classical in
noncomputable def zeB (cs ps : List (Nat × Int)) (bs : Nat) : Bool := decide (ZeroE cs ps bs)
open Classical in
theorem zeB_no {cs ps : List (Nat × Int)} {bs : Nat} (h : ¬ ZeroE cs ps bs) : zeB cs ps bs = false := decide_eq_false h
open Classical in
theorem zeB_yes {cs ps : List (Nat × Int)} {bs : Nat} (h : ZeroE cs ps bs) : zeB cs ps bs = true := decide_eq_true h
/-- The document's fit, as the program asks it. -/
theorem inP_inB {bs p : Nat} (hal : bs % 16384 = 0) : inP bs p = inB bs (p * 16384) := by
  rw [Bool.eq_iff_iff]; simp only [inP, inB, decide_eq_true_eq]; omega
theorem askL_srt {ps : List (Nat × Int)} {bs : Nat} (hs : Srt ps) (hb : ∀ x ∈ ps, x.1 < 1048576) : Srt (askL bs (ksM ps ps.length)) := by
  have h := (ksM_rise hs hb ps.length (Nat.le_refl _)).1
  unfold Srt askL
  rw [List.pairwise_map]
  exact h.imp (fun {a b} hab => by simp only; unfold hp; omega)
theorem askL_mem {ps : List (Nat × Int)} {bs : Nat} (hs : Srt ps) (hb : ∀ x ∈ ps, x.1 < 1048576) {y : Nat × Int} : y ∈ askL bs (ksM ps ps.length) ↔ ∃ x ∈ ps, y = (hp bs (x.1 / 4), 3) := by
  constructor
  · intro h
    obtain ⟨k, hk, rfl⟩ := List.mem_map.1 h
    obtain ⟨j, hj, e⟩ := (ksM_rise hs hb ps.length (Nat.le_refl _)).2 k hk
    exact ⟨_, List.getElem_mem hj, by rw [e, getD_at hj]⟩
  · rintro ⟨x, hx, rfl⟩
    refine List.mem_map.2 ⟨_, ksM_of hx, ?_⟩
    rw [toK_val (by have := hb x hx; omega)]
theorem fitG_iff {ms cs ps : List (Nat × Int)} {bs : Nat} : FitG ms cs ps bs ↔ FitQ ms cs ∧ bs % 16384 = 0 ∧ bs ≤ 4611686018427387904 ∧ PgOk ps ∧ askL bs (ksM ps ps.length) = by_ (inP bs) ms ∧ ZeroE cs ps bs := by
  constructor
  · intro h
    have hb : ∀ x ∈ ps, x.1 < 1048576 := fun x hx => (h.pg x hx).1
    refine ⟨h.fq, h.al, h.le, ⟨h.lp, fun x hx => ⟨(h.pg x hx).1, (h.pg x hx).2.1, (h.pg x hx).2.2.1⟩, h.sp⟩, ?_, h.rc⟩
    refine srt_ext _ _ (askL_srt h.sp hb) (h.fq.2.2.1.sublist List.filter_sublist) (fun y => ?_)
    rw [askL_mem h.sp hb]
    constructor
    · rintro ⟨x, hx, rfl⟩
      obtain ⟨hx1, _, _, z, hz, e⟩ := h.pg x hx
      have hin : inP bs z.1 = true := by rw [e]; simp only [inP, decide_eq_true_eq]; unfold hp; omega
      have h3 := (h.rm z hz (by rw [← inP_inB h.al]; exact hin)).1
      have : z = (hp bs (x.1 / 4), 3) := by rw [← e, ← h3]
      rw [← this]
      exact List.mem_filter.2 ⟨hz, hin⟩
    · intro hy
      obtain ⟨hy, hin⟩ := List.mem_filter.1 hy
      obtain ⟨h3, ha⟩ := h.rm y hy (by rw [← inP_inB h.al]; exact hin)
      obtain ⟨x, hx, e⟩ := List.any_eq_true.1 ha
      refine ⟨x, hx, ?_⟩
      rw [show hp bs (x.1 / 4) = y.1 by simpa using e, ← h3]
  · rintro ⟨hq, hal, hle, ⟨hl, hpg, hsp⟩, he, hz⟩
    have hb : ∀ x ∈ ps, x.1 < 1048576 := fun x hx => (hpg x hx).1
    refine ⟨hq, hal, hle, hl, hsp, fun x hx => ⟨(hpg x hx).1, (hpg x hx).2.1, (hpg x hx).2.2, ?_⟩, fun y hy hin => ?_, hz⟩
    · have : (hp bs (x.1 / 4), (3 : Int)) ∈ by_ (inP bs) ms := by rw [← he]; exact (askL_mem hsp hb).2 ⟨x, hx, rfl⟩
      exact ⟨_, (List.mem_filter.1 this).1, rfl⟩
    · have : y ∈ askL bs (ksM ps ps.length) := by rw [he]; exact List.mem_filter.2 ⟨hy, by rw [inP_inB hal]; exact hin⟩
      obtain ⟨x, hx, rfl⟩ := (askL_mem hsp hb).1 this
      exact ⟨rfl, List.any_eq_true.2 ⟨x, hx, by simp⟩⟩
end Go.Proofs.Ytdhjmghfiodifaa
namespace Go.Proofs.Ytdhjmghfiodifaa
open Go.RowKit
set_option linter.unusedVariables false
set_option linter.unusedSimpArgs false
set_option maxRecDepth 100000
theorem sameG_id (ms cs ps : List (Nat × Int)) (bs : Nat) : sameG ms cs ps bs ms cs ps bs = true := decide_eq_true ⟨rfl, rfl, rfl, rfl⟩
end Go.Proofs.Ytdhjmghfiodifaa
