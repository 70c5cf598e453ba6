/- What is proved here: strings.Repeat of a text of one byte 0. -/
import Derived.Test.YtgdflobcbhnimaaGreatPkS
import Derived.Test.YtgdflobcbhnimaaGreatNb
import Derived.Lib.Agree
namespace Go.Proofs.YtgdflobcbhnimaaGreat
open Go.Shelf Go.RowKit
set_option linter.unusedVariables false
set_option linter.unusedSimpArgs false
set_option maxRecDepth 100000
theorem repExtra : Builder.Extra Tryz.prog Tryz.laysRepeat_ren := {
  sizeBuilder := by kernel_rfl
  liesBuilder := by kernel_rfl
  t5 := Tryz.laysRepeat.t5
  a5 := Tryz.laysRepeat.a5
  z5 := Tryz.laysRepeat.z5
  v5 := Tryz.laysRepeat.v5
  infoByte := by kernel_rfl
  cellsByte := by kernel_rfl
  sizeByte := by kernel_rfl
  neB5 := by decide }
theorem fRepeat : Tryz.laysRepeat_ren.f 105 = 29 := by kernel_rfl
theorem repeat29 (c : Nat) (hc : c ≤ 1000000) (w : World) : Calls Tryz.prog 29 #[.string ⟨#[0]⟩, .int .i64 (c : Int)] w fun e w' => e = .returned (.string ⟨(List.replicate c (0 : UInt8)).toArray⟩) ∧ Below w.heap.size w w' := by
  have h := Any.strings_Repeat Tryz.laysRepeat repExtra ⟨#[0]⟩ c w (by omega) (by show 1 * c ≤ _; omega)
  rw [fRepeat] at h
  refine h.mono fun e w' ⟨he, hw⟩ => ⟨?_, hw⟩
  rw [he]
  have e1 : Lib.repeatL (ByteArray.mk #[0]).data.toList c = List.replicate c (0 : UInt8) := by
    have := Lib.repeatL_replicate 0 1 c
    rw [Nat.mul_one] at this
    exact this
  rw [e1]
end Go.Proofs.YtgdflobcbhnimaaGreat
