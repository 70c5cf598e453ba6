/- What is proved here: chapter 8's examples, and the walk of AsmLines. -/
import Derived.Test.YtglkkeelocdanaaDoorNv
import Derived.Test.YtglkkeelocdanaaDoorEach
namespace Go.Proofs.YtglkkeelocdanaaDoor
open Go.RowKit
set_option linter.unusedVariables false
set_option linter.unusedSimpArgs false
set_option maxRecDepth 100000
theorem it (n : Nat) (h : n < 10) : Lib.itoa (n : Int) = [UInt8.ofNat (48 + n)] := by
  unfold Lib.itoa
  rw [if_neg (by omega), Int.toNat_natCast]
  exact dec_one n h
theorem it2 (n : Nat) (h : 10 ≤ n) (h' : n < 100) : Lib.itoa (n : Int) = [UInt8.ofNat (48 + n / 10), UInt8.ofNat (48 + n % 10)] := by
  unfold Lib.itoa
  rw [if_neg (by omega), Int.toNat_natCast, dec_step n h, dec_one (n / 10) (by omega)]
  rfl
theorem itm4 : Lib.itoa (-4) = [45, 52] := by
  unfold Lib.itoa
  rw [if_pos (by decide), show (-4 : Int).natAbs = 4 from rfl, dec_one 4 (by decide)]
  rfl
def lwI : In := ⟨⟨#[108, 119]⟩, 29, 8, 0, 0, 65532⟩
def adI : In := ⟨⟨#[97, 100, 100, 117]⟩, 4, 5, 2, 0, 0⟩
theorem lw_ok : isIns lwI = true ∧ formL8 lwI.name = [116, 109] := by decide +kernel
theorem ad_ok : isIns adI = true ∧ formL8 adI.name = [100, 115, 116] := by decide +kernel
theorem lw_line : lineL lwI = [108, 119, 32, 36, 56, 44, 32, 45, 52, 40, 36, 50, 57, 41] := by
  unfold lineL tailL
  rw [lw_ok.1, lw_ok.2]
  have e : partsL (patL lwI.name.toList [116, 109] (lwI.imm == 0)) = [[32, 36], [116], [44, 32], [105], [40, 36], [115], [41]] := by decide +kernel
  rw [e]
  have h8 : Lib.itoa 8 = [56] := it 8 (by decide)
  have h29 : Lib.itoa 29 = [50, 57] := it2 29 (by decide) (by decide)
  have hs : sgn 65532 = -4 := by decide
  have hn : lwI.name.toList = [108, 119] := by decide +kernel
  simp [toldL, lwI, h8, h29, hs, itm4] at hn ⊢
theorem ad_line : lineL adI = [97, 100, 100, 117, 32, 36, 50, 44, 32, 36, 52, 44, 32, 36, 53] := by
  unfold lineL tailL
  rw [ad_ok.1, ad_ok.2]
  have e : partsL (patL adI.name.toList [100, 115, 116] (adI.imm == 0)) = [[32, 36], [100], [44, 32, 36], [115], [44, 32, 36], [116]] := by decide +kernel
  rw [e]
  have h2 : Lib.itoa 2 = [50] := it 2 (by decide)
  have h4 : Lib.itoa 4 = [52] := it 4 (by decide)
  have h5 : Lib.itoa 5 = [53] := it 5 (by decide)
  have hn : adI.name.toList = [97, 100, 100, 117] := by decide +kernel
  simp [toldL, adI, h2, h4, h5] at hn ⊢
theorem lw_par : parI [108, 119, 32, 36, 56, 44, 32, 45, 52, 40, 36, 50, 57, 41] = lwI ∧ parE [108, 119, 32, 36, 56, 44, 32, 45, 52, 40, 36, 50, 57, 41] = 0 := by
  have h : insR [108, 119, 32, 36, 56, 44, 32, 45, 52, 40, 36, 50, 57, 41] = some lwI := (insR_iff _ _).2 ⟨lw_ok.1, lw_line⟩
  unfold parI parE
  rw [h]
  exact ⟨rfl, rfl⟩
theorem ff_list : lstL [255] 0 = [48, 48, 48, 48, 48, 48, 48, 48, 58, 32, 46, 119, 111, 114, 100, 32, 48, 120, 102, 102, 10] := by
  unfold lstL outL
  have e : ckN [255] = 1 := by decide
  rw [e]
  have e2 : (⟨(ck [255] 0).toArray⟩ : ByteArray) = ⟨#[255]⟩ := by decide +kernel
  have e3 : wdL ⟨#[255]⟩ = [46, 119, 111, 114, 100, 32, 48, 120, 102, 102] := by
    unfold wdL
    rw [if_neg (by rw [show decide (4 ≤ (⟨#[255]⟩ : ByteArray).size) = false from by decide]; simp)]
    decide +kernel
  have e4 : hexL (W.putBeS ((0 + 4 * 0) % 4294967296) 4).toList = [48, 48, 48, 48, 48, 48, 48, 48] := by decide +kernel
  simp only [List.range_one, List.flatMap_cons, List.flatMap_nil, List.append_nil]
  unfold lnL
  rw [e2, e3, e4]
  rfl
set_option maxHeartbeats 1000000 in
theorem awake6 (w : World) (hl : Lw w) : Calls Tryd.prog 4 #[] w fun e w' => e = .returned (.bool true) ∧ Below w.heap.size w w' := by
  have K7 := parse7 [108, 119, 32, 36, 56, 44, 32, 45, 52, 40, 36, 50, 57, 41] (by decide) w hl
  rw [lw_par.1, lw_par.2] at K7
  have K9 : Hid (∀ w', Below w.heap.size w w' → Calls Tryd.prog 7 #[.agg #[.string ⟨#[97, 100, 100, 117]⟩, .int .i64 4, .int .i64 5, .int .i64 2, .int .i64 0, .int .u32 0]] w' fun e w'' => e = .returned (.string ⟨#[97, 100, 100, 117, 32, 36, 50, 44, 32, 36, 52, 44, 32, 36, 53]⟩) ∧ Below w'.heap.size w' w'') := fun w' h => by
    have := line9 adI (by decide) w' (hl.keep h)
    rw [ad_line] at this
    exact this
  have K13 : Hid (∀ w', Below w.heap.size w w' → Calls Tryd.prog 8 #[.string ⟨#[255]⟩, .int .u32 0] w' fun e w'' => e = .returned (.string ⟨#[48, 48, 48, 48, 48, 48, 48, 48, 58, 32, 46, 119, 111, 114, 100, 32, 48, 120, 102, 102, 10]⟩) ∧ Below w'.heap.size w' w'') := fun w' h => by
    have := listing13 [255] (by decide) 0 (by decide) w' (hl.keep h)
    rw [ff_list] at this
    exact this
  have heq : ∀ wx, (binOp .eql 29 (.agg #[.string ⟨#[108, 119]⟩, .int .i64 29, .int .i64 8, .int .i64 0, .int .i64 0, .int .u32 65532]) (.agg #[.string ⟨#[108, 119]⟩, .int .i64 29, .int .i64 8, .int .i64 0, .int .i64 0, .int .u32 65532])).run Tryd.prog wx = .ok (.bool true) wx := fun wx => by
    have := eq24 lwI lwI wx
    rw [inEq_refl] at this
    exact this
  have K7 : Calls Tryd.prog 6 #[.string ⟨#[108, 119, 32, 36, 56, 44, 32, 45, 52, 40, 36, 50, 57, 41]⟩] w fun e w' => e = .returned (.tuple #[.agg #[.string ⟨#[108, 119]⟩, .int .i64 29, .int .i64 8, .int .i64 0, .int .i64 0, .int .u32 65532], .int .i64 0]) ∧ Below w.heap.size w w' := K7
  clear hl
  go_enter Tryd.func4, Tryd.ntmps4
  go_wp2_with fail
  refine K7.mono ?_
  rintro e w1 ⟨rfl, hb1⟩
  clear K7
  have hb2 : Below w.heap.size w (w1.alloc (.cells #[.string ⟨#[108, 119]⟩, .int .i64 29, .int .i64 8, .int .i64 0, .int .i64 0, .int .u32 65532] 29)) := hb1.alloc hb1.size _
  have K9 := K9.out _ hb2
  have i2 := In6.new lwI w1
  have HB2 : Hid _ := hb2
  clear hb1 hb2
  go_wp2_with fail
  refine K9.mono ?_
  rintro e w3 ⟨rfl, hb3⟩
  have i3 := i2.keep hb3
  have HB3 : Hid (Below w.heap.size w w3) := below_tr HB2.out hb3
  obtain ⟨c0, c1, c2, c3, c4, c5⟩ := i3.cells
  have d0 : w3.cell? ⟨w1.heap.size, 0, none⟩ = some (.string ⟨#[108, 119]⟩) := c0
  have d1 : w3.cell? ⟨w1.heap.size, 1, none⟩ = some (.int .i64 29) := c1
  have d2 : w3.cell? ⟨w1.heap.size, 2, none⟩ = some (.int .i64 8) := c2
  have d3 : w3.cell? ⟨w1.heap.size, 3, none⟩ = some (.int .i64 0) := c3
  have d4 : w3.cell? ⟨w1.heap.size, 4, none⟩ = some (.int .i64 0) := c4
  have d5 : w3.cell? ⟨w1.heap.size, 5, none⟩ = some (.int .u32 65532) := c5
  have K13 := K13.out w3 HB3.out
  clear K9 i2 i3 hb3 c0 c1 c2 c3 c4 c5
  go_wp2_with fail
  refine K13.mono ?_
  rintro e w4 ⟨rfl, hb4⟩
  go_wp2
  go_ret
  exact ⟨by first | rfl | (simp; done) | decide, below_tr HB3.out hb4⟩
end Go.Proofs.YtglkkeelocdanaaDoor
