/- What is proved here: Same. -/
import Derived.Test.YtolmcbnammhjjaaEqual
namespace Go.Proofs.Ytolmcbnammhjjaa
open Go.RowKit
set_option linter.unusedVariables false
set_option maxHeartbeats 1000000 in
theorem same11 (vm vc vm' vc' : Value) (ms cs ms' cs' : List (Nat × Int)) (w : World) (hm : Sl .i64 w vm ms) (hc : Sl .u64 w vc cs) (hm' : Sl .i64 w vm' ms') (hc' : Sl .u64 w vc' cs') (lm : ms.length ≤ 1073741824) (lc : cs.length ≤ 1073741824) :
    Calls Try.prog 11 #[.agg #[vm, vc], .agg #[vm', vc']] w fun e w' => e = .returned (.bool (decide (ms = ms' ∧ cs = cs'))) ∧ Below w.heap.size w w' := by
  obtain ⟨X, hX, hx, hxs, c0, c1, _, _⟩ := box2 w vm vc 25
  obtain ⟨W, hW, hb, hsz, c2, c3, _, _⟩ := box2 X vm' vc' 25
  rw [hxs] at c2 c3
  have c0 := keep_cell hb c0
  have c1 := keep_cell hb c1
  have hb := below_tr hx hb
  have K34 : Hid (Calls Try.prog 34 #[vm, vm'] W fun e w' => e = .returned (.bool (decide (ms = ms'))) ∧ Below W.heap.size W w') := equal34 vm vm' ms ms' W (hm.keep hb) (hm'.keep hb) lm
  have K35 : Hid (∀ w1, Below W.heap.size W w1 → Calls Try.prog 35 #[vc, vc'] w1 fun e w' => e = .returned (.bool (decide (cs = cs'))) ∧ Below w1.heap.size w1 w') := fun w1 h1 => equal35 vc vc' cs cs' w1 (hc.keep (below_tr hb h1)) (hc'.keep (below_tr hb h1)) lc
  obtain ⟨am, nm, pm, rfl⟩ : ∃ a n p, vm = .slice a n p := by obtain ⟨a, p, h, _⟩ := hm; exact ⟨_, _, _, h⟩
  obtain ⟨ac, nc, pc, rfl⟩ : ∃ a n p, vc = .slice a n p := by obtain ⟨a, p, h, _⟩ := hc; exact ⟨_, _, _, h⟩
  obtain ⟨am', nm', pm', rfl⟩ : ∃ a n p, vm' = .slice a n p := by obtain ⟨a, p, h, _⟩ := hm'; exact ⟨_, _, _, h⟩
  obtain ⟨ac', nc', pc', rfl⟩ : ∃ a n p, vc' = .slice a n p := by obtain ⟨a, p, h, _⟩ := hc'; exact ⟨_, _, _, h⟩
  clear hm hc hm' hc'
  by_cases h1 : ms = ms'
  · rw [decide_eq_true h1] at K34
    have HR : Hid (decide (ms = ms' ∧ cs = cs') = decide (cs = cs')) := by simp [Hid, h1]
    generalize decide (cs = cs') = bb at K35 HR
    clear h1
    go_enter Try.func11, Try.ntmps11
    go_wp2_with fail
    refine K34.out.mono ?_
    rintro e w1 ⟨rfl, hb1⟩
    have c1 := keep_cell hb1 c1
    have c3 := keep_cell hb1 c3
    go_wp2_with fail
    refine (K35.out w1 hb1).mono ?_
    rintro e w2 ⟨rfl, hb2⟩
    go_wp2
    go_ret
    exact ⟨by rw [HR.out]; rfl, below_tr (below_tr hb hb1) hb2⟩
  · rw [decide_eq_false h1] at K34
    have HR : Hid (decide (ms = ms' ∧ cs = cs') = false) := by simp [Hid, h1]
    clear h1
    go_enter Try.func11, Try.ntmps11
    go_wp2_with fail
    refine K34.out.mono ?_
    rintro e w1 ⟨rfl, hb1⟩
    go_wp2
    go_ret
    exact ⟨by rw [HR.out]; rfl, below_tr hb hb1⟩
end Go.Proofs.Ytolmcbnammhjjaa
