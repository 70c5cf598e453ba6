/- What is proved here: a library that can be: the program's Fit says so. -/
import Derived.Test.YtgdflobcbhnimaaGreatPkw
import Derived.WalkMore
import Derived.WalkKit
namespace Go.Proofs.YtgdflobcbhnimaaGreat
open Go.RowKit 
set_option linter.unusedVariables false
set_option linter.unusedSimpArgs false
set_option maxRecDepth 100000
set_option maxHeartbeats 2000000 in
theorem fit9 (l : Lb) (q : Lv) (w : World) (hf : FitP l) (hv : LvIs l q w) : Calls Tryz.prog 9 #[l.val q] w fun e w' => e = .returned (.bool true) ∧ Below w.heap.size w w' := by
  obtain ⟨W1, hW1, b1, n1, s1⟩ := box14 l q w
  have HC : Hid (Below w.heap.size w W1 ∧ BL l q w.heap.size W1 ∧ LvIs l q W1 ∧ FitP l) := ⟨b1, n1, hv.keep b1, hf⟩
  have K18 : Hid (∀ w', Calls Tryz.prog 18 #[.agg #[.bool l.shared, .int .u32 (l.base : Int), .int .u32 (l.entry : Int), .string ⟨l.code.toArray⟩, .string ⟨l.data.toArray⟩, .int .u32 (l.bss : Int), q.vn, .string ⟨l.soname.toArray⟩, .string ⟨l.interp.toArray⟩, q.vs, q.vr, q.vl, .int .i64 l.global, .int .u32 (l.init : Int)]] w' fun e w'' => e = .returned (.bool true) ∧ Below w'.heap.size w' w'') := fun w' => areBytes18 l q w' hf
  have K19 : Hid (∀ w', Below W1.heap.size W1 w' → Calls Tryz.prog 19 #[.agg #[.bool l.shared, .int .u32 (l.base : Int), .int .u32 (l.entry : Int), .string ⟨l.code.toArray⟩, .string ⟨l.data.toArray⟩, .int .u32 (l.bss : Int), q.vn, .string ⟨l.soname.toArray⟩, .string ⟨l.interp.toArray⟩, q.vs, q.vr, q.vl, .int .i64 l.global, .int .u32 (l.init : Int)]] w' fun e w'' => e = .returned (.bool true) ∧ Below w'.heap.size w' w'') := fun w' hw => areTexts19 l q w' hf (HC.out.2.2.1.keep hw)
  have K20 : Hid (∀ w', Below W1.heap.size W1 w' → Calls Tryz.prog 20 #[.agg #[.bool l.shared, .int .u32 (l.base : Int), .int .u32 (l.entry : Int), .string ⟨l.code.toArray⟩, .string ⟨l.data.toArray⟩, .int .u32 (l.bss : Int), q.vn, .string ⟨l.soname.toArray⟩, .string ⟨l.interp.toArray⟩, q.vs, q.vr, q.vl, .int .i64 l.global, .int .u32 (l.init : Int)]] w' fun e w'' => e = .returned (.bool true) ∧ Below w'.heap.size w' w'') := fun w' hw => areTables20 l q w' hf (HC.out.2.2.1.keep hw)
  obtain ⟨na, nc, hvn, _⟩ := hv.n
  obtain ⟨ya, yc, hvy, _⟩ := hv.s
  obtain ⟨ra, rc, hvr, _⟩ := hv.r
  obtain ⟨la, lc, hvl, _⟩ := hv.l
  obtain ⟨vn, vs, vr, vl⟩ := q
  simp only at hvn hvy hvr hvl
  subst hvn hvy hvr hvl
  have HN : Hid (∀ w', Below W1.heap.size W1 w' → BL l ⟨.slice na l.needed.length nc, .slice ya l.syms.length yc, .slice ra l.rels.length rc, .slice la l.locals.length lc⟩ w.heap.size w') := fun w' hw => HC.out.2.1.keep hw
  have nn := HN.out W1 (Below.refl _ _)
  have c0 : W1.cell? ⟨w.heap.size, 0, none⟩ = some (.bool l.shared) := blk_at nn 0 rfl
  have c1 : W1.cell? ⟨w.heap.size, 1, none⟩ = some (.int .u32 (l.base : Int)) := blk_at nn 1 rfl
  have c2 : W1.cell? ⟨w.heap.size, 2, none⟩ = some (.int .u32 (l.entry : Int)) := blk_at nn 2 rfl
  have c3 : W1.cell? ⟨w.heap.size, 3, none⟩ = some (.string ⟨l.code.toArray⟩) := blk_at nn 3 rfl
  have c4 : W1.cell? ⟨w.heap.size, 4, none⟩ = some (.string ⟨l.data.toArray⟩) := blk_at nn 4 rfl
  have c5 : W1.cell? ⟨w.heap.size, 5, none⟩ = some (.int .u32 (l.bss : Int)) := blk_at nn 5 rfl
  have c6 : W1.cell? ⟨w.heap.size, 6, none⟩ = some (.slice na l.needed.length nc) := blk_at nn 6 rfl
  have c7 : W1.cell? ⟨w.heap.size, 7, none⟩ = some (.string ⟨l.soname.toArray⟩) := blk_at nn 7 rfl
  have c8 : W1.cell? ⟨w.heap.size, 8, none⟩ = some (.string ⟨l.interp.toArray⟩) := blk_at nn 8 rfl
  have c9 : W1.cell? ⟨w.heap.size, 9, none⟩ = some (.slice ya l.syms.length yc) := blk_at nn 9 rfl
  have c10 : W1.cell? ⟨w.heap.size, 10, none⟩ = some (.slice ra l.rels.length rc) := blk_at nn 10 rfl
  have c11 : W1.cell? ⟨w.heap.size, 11, none⟩ = some (.slice la l.locals.length lc) := blk_at nn 11 rfl
  have c12 : W1.cell? ⟨w.heap.size, 12, none⟩ = some (.int .i64 l.global) := blk_at nn 12 rfl
  have c13 : W1.cell? ⟨w.heap.size, 13, none⟩ = some (.int .u32 (l.init : Int)) := blk_at nn 13 rfl
  clear nn
  have j1 : l.base % 4096 = 0 := hf.b0
  have j2 : l.base ≤ 1073741824 := hf.b1
  have i1 : (l.base : Int) % 4096 = 0 := by omega
  have i1t : (l.base : Int).tmod 4096 = 0 := by rw [Int.tmod_eq_emod_of_nonneg (by omega)]; exact i1
  have i2 : (l.base : Int) ≤ 1073741824 := by omega
  have i3 : (l.entry : Int) ≤ 4096 := by have := hf.en; omega
  have i4 : (l.init : Int) ≤ 4096 := by have := hf.ini; omega
  have d2 := decide_eq_true i2
  have d3 := decide_eq_true i3
  have d4 := decide_eq_true i4
  unfold Lb.val Lb.cells
  unfold Lb.cells at hW1
  simp only at hW1 ⊢ K18 K19 K20
  clear hf hv b1 n1 j1 j2
  go_enter Tryz.func9, Tryz.ntmps9
  go_wp2_with fail
  refine (K18.out W1).mono ?_
  rintro e w2 ⟨rfl, hb2⟩
  have H2 : Hid (Below W1.heap.size W1 w2) := hb2
  clear hb2 hW1 c0 c1 c2 c3 c4 c5 c6 c7 c8 c9 c10 c11 c12 c13
  have nn := HN.out w2 H2.out
  have c0 : w2.cell? ⟨w.heap.size, 0, none⟩ = some (.bool l.shared) := blk_at nn 0 rfl
  have c1 : w2.cell? ⟨w.heap.size, 1, none⟩ = some (.int .u32 (l.base : Int)) := blk_at nn 1 rfl
  have c2 : w2.cell? ⟨w.heap.size, 2, none⟩ = some (.int .u32 (l.entry : Int)) := blk_at nn 2 rfl
  have c3 : w2.cell? ⟨w.heap.size, 3, none⟩ = some (.string ⟨l.code.toArray⟩) := blk_at nn 3 rfl
  have c4 : w2.cell? ⟨w.heap.size, 4, none⟩ = some (.string ⟨l.data.toArray⟩) := blk_at nn 4 rfl
  have c5 : w2.cell? ⟨w.heap.size, 5, none⟩ = some (.int .u32 (l.bss : Int)) := blk_at nn 5 rfl
  have c6 : w2.cell? ⟨w.heap.size, 6, none⟩ = some (.slice na l.needed.length nc) := blk_at nn 6 rfl
  have c7 : w2.cell? ⟨w.heap.size, 7, none⟩ = some (.string ⟨l.soname.toArray⟩) := blk_at nn 7 rfl
  have c8 : w2.cell? ⟨w.heap.size, 8, none⟩ = some (.string ⟨l.interp.toArray⟩) := blk_at nn 8 rfl
  have c9 : w2.cell? ⟨w.heap.size, 9, none⟩ = some (.slice ya l.syms.length yc) := blk_at nn 9 rfl
  have c10 : w2.cell? ⟨w.heap.size, 10, none⟩ = some (.slice ra l.rels.length rc) := blk_at nn 10 rfl
  have c11 : w2.cell? ⟨w.heap.size, 11, none⟩ = some (.slice la l.locals.length lc) := blk_at nn 11 rfl
  have c12 : w2.cell? ⟨w.heap.size, 12, none⟩ = some (.int .i64 l.global) := blk_at nn 12 rfl
  have c13 : w2.cell? ⟨w.heap.size, 13, none⟩ = some (.int .u32 (l.init : Int)) := blk_at nn 13 rfl
  clear nn
  go_wp2_with fail
  refine (K19.out w2 H2.out).mono ?_
  rintro e w3 ⟨rfl, hb3⟩
  have H3 : Hid (Below W1.heap.size W1 w3) := below_tr H2.out hb3
  clear hb3 c0 c1 c2 c3 c4 c5 c6 c7 c8 c9 c10 c11 c12 c13
  have nn := HN.out w3 H3.out
  have c0 : w3.cell? ⟨w.heap.size, 0, none⟩ = some (.bool l.shared) := blk_at nn 0 rfl
  have c1 : w3.cell? ⟨w.heap.size, 1, none⟩ = some (.int .u32 (l.base : Int)) := blk_at nn 1 rfl
  have c2 : w3.cell? ⟨w.heap.size, 2, none⟩ = some (.int .u32 (l.entry : Int)) := blk_at nn 2 rfl
  have c3 : w3.cell? ⟨w.heap.size, 3, none⟩ = some (.string ⟨l.code.toArray⟩) := blk_at nn 3 rfl
  have c4 : w3.cell? ⟨w.heap.size, 4, none⟩ = some (.string ⟨l.data.toArray⟩) := blk_at nn 4 rfl
  have c5 : w3.cell? ⟨w.heap.size, 5, none⟩ = some (.int .u32 (l.bss : Int)) := blk_at nn 5 rfl
  have c6 : w3.cell? ⟨w.heap.size, 6, none⟩ = some (.slice na l.needed.length nc) := blk_at nn 6 rfl
  have c7 : w3.cell? ⟨w.heap.size, 7, none⟩ = some (.string ⟨l.soname.toArray⟩) := blk_at nn 7 rfl
  have c8 : w3.cell? ⟨w.heap.size, 8, none⟩ = some (.string ⟨l.interp.toArray⟩) := blk_at nn 8 rfl
  have c9 : w3.cell? ⟨w.heap.size, 9, none⟩ = some (.slice ya l.syms.length yc) := blk_at nn 9 rfl
  have c10 : w3.cell? ⟨w.heap.size, 10, none⟩ = some (.slice ra l.rels.length rc) := blk_at nn 10 rfl
  have c11 : w3.cell? ⟨w.heap.size, 11, none⟩ = some (.slice la l.locals.length lc) := blk_at nn 11 rfl
  have c12 : w3.cell? ⟨w.heap.size, 12, none⟩ = some (.int .i64 l.global) := blk_at nn 12 rfl
  have c13 : w3.cell? ⟨w.heap.size, 13, none⟩ = some (.int .u32 (l.init : Int)) := blk_at nn 13 rfl
  clear nn
  go_wp2_with fail
  refine (K20.out w3 H3.out).mono ?_
  rintro e w4 ⟨rfl, hb4⟩
  go_wp2
  go_ret
  exact ⟨rfl, below_tr (below_tr HC.out.1 H3.out) hb4⟩
end Go.Proofs.YtgdflobcbhnimaaGreat
namespace Go.Proofs.YtgdflobcbhnimaaGreat
open Go.RowKit 
set_option linter.unusedVariables false
set_option linter.unusedSimpArgs false
set_option maxRecDepth 100000
def textB (s : L8) : Bool := decide (s.length ≤ 31) && s.all (fun c => c != 0)
theorem textB_is {s : L8} (h : textB s = true) : textP s := by
  unfold textB at h
  rw [Bool.and_eq_true, decide_eq_true_eq, List.all_eq_true] at h
  refine ⟨h.1, fun h0 => ?_⟩
  have := h.2 0 h0
  cases this
set_option maxHeartbeats 1000000 in
theorem fitName21 (S : ByteArray) (w : World) : Calls Tryz.prog 21 #[.string S] w fun e w' => e = .returned (.bool (textB S.toList)) ∧ w' = w := by
  have HF : Hid (textB S.toList = (decide (S.size ≤ 31) && S.toList.all (fun c => c != 0))) := by unfold textB; rw [Hid, bt_len]
  generalize textB S.toList = F at HF ⊢
  by_cases c1 : (31 : Int) < (S.size : Int)
  · have dc1 := decide_eq_true c1
    have HQ : Hid (F = false) := by
      show F = false
      have := HF.out
      rw [this]
      simp [show ¬ S.size ≤ 31 by omega]
    rw [HQ.out]
    go_enter Tryz.func21, Tryz.ntmps21
    go_wp2
    go_ret
    exact ⟨rfl, rfl⟩
  · have dc1 := decide_eq_false c1
    have HQ : Hid (F = S.toList.all (fun c => c != 0)) := by
      show F = S.toList.all (fun c => c != 0)
      have := HF.out
      rw [this]
      simp [show S.size ≤ 31 by omega]
    have hms : S.size ≤ 31 := by omega
    go_enter Tryz.func21, Tryz.ntmps21
    go_wp2
    go_loop [3] (fun i => ∃ k : Nat, k ≤ S.size ∧ i = .int .i64 k ∧ (S.toList.take k).all (fun c => c != 0) = true) (fun i => S.size - (intOf i).toNat)
    case atStart => exact ⟨0, Nat.zero_le _, rfl, rfl⟩
    case round =>
      obtain ⟨k, hk, rfl, hall⟩ := hrel
      by_cases hlt : k < S.size
      · obtain ⟨c, hc⟩ : ∃ c : Nat, c = (S[k]).toNat := ⟨_, rfl⟩
        have hk2 : k < S.toList.length := by rw [bt_len]; exact hlt
        have hgt : S[k] = S.toList[k] := bt_get S k hlt hk2
        have HA : Hid ((S.toList.take (k + 1)).all (fun c => c != 0) = (S[k] != 0) ∧ ((S[k] != 0) = false → S.toList.all (fun c => c != 0) = false)) := by
          refine ⟨?_, fun h => ?_⟩
          · rw [List.take_succ_eq_append_getElem hk2, List.all_append, hall, hgt]; simp
          · cases hh : S.toList.all (fun c => c != 0) with
            | false => rfl
            | true =>
              rw [List.all_eq_true] at hh
              have := hh _ (List.getElem_mem hk2)
              rw [← hgt, h] at this
              cases this
        have hcs : (S[k]).toNat = c := hc.symm
        by_cases h0 : c = 0
        · have HZ : Hid ((S[k] != 0) = false) := by
            have : S[k] = 0 := UInt8.toNat_inj.1 (by rw [hcs, h0]; rfl)
            rw [Hid, this]; rfl
          clear hc hgt hk2 hall
          subst h0
          go_wp2
          go_ret
          exact ⟨by rw [HQ.out, HA.out.2 HZ.out]; rfl, rfl⟩
        · have HZ : Hid ((S[k] != 0) = true) := by
            have : ¬ S[k] = 0 := fun e => h0 (by rw [← hcs, e]; rfl)
            simpa [Hid] using this
          have h0i : ¬ (c : Int) = 0 := by omega
          clear hc hgt hk2 hall
          go_wp2
          go_round
          case rel => exact ⟨k + 1, by omega, by go_num, by rw [HA.out.1, HZ.out]⟩
          case measure => simp [intOf]; omega
      · have HT : Hid (S.toList.all (fun c => c != 0) = true) := by rw [List.take_of_length_le (by rw [bt_len]; omega)] at hall; exact hall
        obtain rfl : k = S.size := by omega
        clear hall
        go_wp2
        go_ret
        exact ⟨by rw [HQ.out, HT.out]; rfl, rfl⟩
end Go.Proofs.YtgdflobcbhnimaaGreat
