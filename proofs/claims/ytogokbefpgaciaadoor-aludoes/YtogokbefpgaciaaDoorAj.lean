/- What is proved here: plain words on what Do makes of names. -/
import Derived.Test.YtogokbefpgaciaaDoorAi
namespace Go.Proofs.YtogokbefpgaciaaDoor
open Go.RowKit
set_option linter.unusedVariables false
set_option linter.unusedSimpArgs false
set_option maxRecDepth 100000
theorem doR_at {i : In} {k : Nat} (s t : Nat) (h : isIns i = true) (hk : aIdx i.name = some k) : doR i s t = workN k (tkOf i s t) := by
  rw [doR, if_pos h, hk]
/-- An instruction of a name alone. -/
def ofI (n : ByteArray) : In := ⟨n, 0, 0, 0, 0, 0⟩
theorem of_add (s t : Nat) : doR (ofI ⟨#[97, 100, 100]⟩) s t = workN 0 (tkOf (ofI ⟨#[97, 100, 100]⟩) s t) := doR_at s t (by decide +kernel) (by decide +kernel)
theorem of_sub (s t : Nat) : doR (ofI ⟨#[115, 117, 98]⟩) s t = workN 1 (tkOf (ofI ⟨#[115, 117, 98]⟩) s t) := doR_at s t (by decide +kernel) (by decide +kernel)
theorem of_addu (s t : Nat) : doR (ofI ⟨#[97, 100, 100, 117]⟩) s t = workN 3 (tkOf (ofI ⟨#[97, 100, 100, 117]⟩) s t) := doR_at s t (by decide +kernel) (by decide +kernel)
theorem of_subu (s t : Nat) : doR (ofI ⟨#[115, 117, 98, 117]⟩) s t = workN 4 (tkOf (ofI ⟨#[115, 117, 98, 117]⟩) s t) := doR_at s t (by decide +kernel) (by decide +kernel)
theorem of_or (s t : Nat) : doR (ofI ⟨#[111, 114]⟩) s t = workN 7 (tkOf (ofI ⟨#[111, 114]⟩) s t) := doR_at s t (by decide +kernel) (by decide +kernel)
theorem of_nor (s t : Nat) : doR (ofI ⟨#[110, 111, 114]⟩) s t = workN 9 (tkOf (ofI ⟨#[110, 111, 114]⟩) s t) := doR_at s t (by decide +kernel) (by decide +kernel)
theorem of_slt (s t : Nat) : doR (ofI ⟨#[115, 108, 116]⟩) s t = workN 13 (tkOf (ofI ⟨#[115, 108, 116]⟩) s t) := doR_at s t (by decide +kernel) (by decide +kernel)
theorem of_sltu (s t : Nat) : doR (ofI ⟨#[115, 108, 116, 117]⟩) s t = workN 14 (tkOf (ofI ⟨#[115, 108, 116, 117]⟩) s t) := doR_at s t (by decide +kernel) (by decide +kernel)
theorem of_clz (s t : Nat) : doR (ofI ⟨#[99, 108, 122]⟩) s t = workN 27 (tkOf (ofI ⟨#[99, 108, 122]⟩) s t) := doR_at s t (by decide +kernel) (by decide +kernel)
theorem of_clo (s t : Nat) : doR (ofI ⟨#[99, 108, 111]⟩) s t = workN 28 (tkOf (ofI ⟨#[99, 108, 111]⟩) s t) := doR_at s t (by decide +kernel) (by decide +kernel)
theorem of_wsbh (s t : Nat) : doR (ofI ⟨#[119, 115, 98, 104]⟩) s t = workN 31 (tkOf (ofI ⟨#[119, 115, 98, 104]⟩) s t) := doR_at s t (by decide +kernel) (by decide +kernel)
theorem sh_ok : (List.range 32).all (fun k => isIns ⟨⟨#[115, 108, 108]⟩, 0, 0, 0, (k : Int), 0⟩ && (isIns ⟨⟨#[115, 114, 108]⟩, 0, 0, 0, (k : Int), 0⟩ && (isIns ⟨⟨#[114, 111, 116, 114]⟩, 0, 0, 0, (k : Int), 0⟩ && isIns ⟨⟨#[115, 114, 97]⟩, 0, 0, 0, (k : Int), 0⟩))) = true := by decide +kernel
theorem fld_ok : (List.range 32).all (fun h => (List.range (h + 1)).all (fun l => isIns ⟨⟨#[105, 110, 115]⟩, 0, 0, (h : Int), (l : Int), 0⟩ && isIns ⟨⟨#[101, 120, 116]⟩, 0, 0, ((h - l : Nat) : Int), (l : Int), 0⟩)) = true := by decide +kernel
end Go.Proofs.YtogokbefpgaciaaDoor
