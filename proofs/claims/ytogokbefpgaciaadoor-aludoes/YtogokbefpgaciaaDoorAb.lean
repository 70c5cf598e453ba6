/- What is proved here: leading bits are counted. -/
import Derived.Test.YtogokbefpgaciaaDoorAa
import Derived.Test.YtogokbefpgaciaaDoorBase
import Derived.Test.YtogokbefpgaciaaDoorFd
namespace Go.Proofs.YtogokbefpgaciaaDoor
open Go.RowKit
set_option linter.unusedVariables false
set_option linter.unusedSimpArgs false
set_option maxRecDepth 100000
theorem box11 (w : World) (a b : Value) (t u : Nat) : ∃ W, (w.alloc (.cells #[a] t)).alloc (.cells #[b] u) = W ∧ Below w.heap.size w W ∧ W.cell? ⟨w.heap.size, 0, none⟩ = some a ∧ W.cell? ⟨w.heap.size + 1, 0, none⟩ = some b := by
  have hz : w.heap.size + 1 = (w.alloc (.cells #[a] t)).heap.size := by simp
  refine ⟨_, rfl, ((Below.refl _ _).alloc (Nat.le_refl _) _).alloc (by simp) _, ?_, ?_⟩
  · exact cell_old (cell_newA w _ _ _ _ _ rfl rfl) _
  · exact cell_newA _ _ _ _ _ _ hz rfl
set_option maxHeartbeats 1000000 in
theorem leading72 (v k : Nat) (hv : v < 4294967296) (hk : k < 4294967296) (w : World) : Calls Tryd.prog 72 #[.int .u32 (v : Int), .int .u32 (k : Int)] w fun e w' => e = .returned (.int .u32 (leadN v k : Int)) ∧ Below w.heap.size w w' := by
  obtain ⟨W, hW, hb, c0, c1⟩ := box11 w (.int .u32 (v : Int)) (.int .u32 (k : Int)) 22 22
  have KC : Hid (∀ n : Nat, n < 32 → Calls Tryd.prog 92 #[.int .u32 (n : Int), .pointer (some ⟨w.heap.size, 0, none⟩), .pointer (some ⟨w.heap.size + 1, 0, none⟩)] W fun e w' => e = .returned (.bool (topB v k n)) ∧ w' = W) := fun n hn => clo92 v k n hv hk hn _ _ W c0 c1
  have HB : Hid (Below w.heap.size w W) := hb
  obtain ⟨z, hz⟩ : ∃ z, z = leadN v k := ⟨_, rfl⟩
  rw [← hz]
  have HZ : Hid (z = leadF v k 32 0) := hz
  clear hz hb hv hk c0 c1
  go_enter Tryd.func72, Tryd.ntmps72
  go_wp2
  go_loopw [6] (fun i wr => ∃ m : Nat, m ≤ 32 ∧ i = .int .u32 (m : Int) ∧ wr = W ∧ z = leadF v k (32 - m) m) (fun i _ => 32 - (intOf i).toNat)
  case atStart => exact ⟨0, by decide, rfl, rfl, HZ.out⟩
  case round =>
    obtain ⟨m, hm, rfl, rfl, hle⟩ := hrel
    have HL : Hid (z = leadF v k (32 - m) m) := hle
    clear hle
    by_cases hml : m < 32
    · have K := KC.out m hml
      have HT : Hid (topB v k m = true → z = leadF v k (32 - (m + 1)) (m + 1)) := fun h => by
        show _ = _
        rw [HL.out, show 32 - m = (32 - (m + 1)) + 1 from by omega]
        conv => lhs; unfold leadF
        rw [if_pos h]
      have HF : Hid (topB v k m = false → z = m) := fun h => by
        show _ = _
        rw [HL.out, show 32 - m = (32 - (m + 1)) + 1 from by omega]
        unfold leadF
        rw [h]; rfl
      generalize topB v k m = tb at K HT HF
      have hmI : (m : Int) < 32 := by omega
      have hd : decide ((m : Int) < 32) = true := decide_eq_true hmI
      have hmw : ((m : Int) + 1) % 4294967296 = (m : Int) + 1 := by omega
      go_wp2_with fail
      refine K.mono ?_
      rintro e wG ⟨rfl, rfl⟩
      cases tb with
      | true =>
        have HTT : Hid (z = leadF v k (32 - (m + 1)) (m + 1)) := HT.out rfl
        go_wp2
        go_roundw
        case rel => exact ⟨m + 1, by omega, by go_num, trivial, HTT.out⟩
        case measure => simp [intOf]; omega
      | false =>
        have HFF : Hid (z = m) := HF.out rfl
        go_wp2
        go_ret
        exact ⟨by rw [HFF.out]; rfl, HB.out⟩
    · have he : m = 32 := by omega
      subst he
      have HFF : Hid (z = 32) := by show _ = _; rw [HL.out]; rfl
      go_wp2
      go_ret
      exact ⟨by rw [HFF.out]; rfl, HB.out⟩
end Go.Proofs.YtogokbefpgaciaaDoor
