/- What is proved here: what asm asks of the library, in plain words. -/
import Derived.Test.YtglkkeelocdanaaDoorSf
import Derived.Test.YtglkkeelocdanaaDoorNc
import Derived.Lib.AppendIntMem
import Derived.Lib.AtoiErrMem
import Derived.WalkKit
import Derived.WalkSmall
namespace Go.Proofs.YtglkkeelocdanaaDoor
open Go.RowKit
set_option linter.unusedVariables false
set_option linter.unusedSimpArgs false
set_option maxRecDepth 100000
/-- What the library's variables hold. -/
structure Lw (w : World) : Prop where
  tab : Tab w
  mx : ∃ m : Int, w.cell? ⟨1, 0, none⟩ = some (.int .i64 m)
  es : ∃ ev, w.cell? ⟨2, 0, none⟩ = some ev ∧ (ev = .nilIface ∨ ∃ te pe, ev = .iface te pe)
  er : ∃ ev, w.cell? ⟨3, 0, none⟩ = some ev ∧ (ev = .nilIface ∨ ∃ te pe, ev = .iface te pe)
  pw : Lib.TabIs Tryd.prog w "internal/strconv.uint64pow10" .u64 Lib.pow10Tab
theorem Lw.keep {w w' : World} (h : Lw w) (hb : Below w.heap.size w w') : Lw w' := by
  obtain ⟨h1, ⟨m, h2⟩, ⟨ev, h3, h4⟩, ⟨ev', h5, h6⟩, h7⟩ := h
  exact ⟨h1.keep hb, ⟨m, keep_cell hb h2⟩, ⟨ev, keep_cell hb h3, h4⟩, ⟨ev', keep_cell hb h5, h6⟩, Lib.tabBelow_of_tabIs h7 w' hb⟩
theorem itoa56 (n : Int) (h0 : -9223372036854775808 ≤ n) (h1 : n ≤ 9223372036854775807) (w : World) (hl : Lw w) : Calls Tryd.prog 41 #[.int .i64 n] w fun e w' => e = .returned (.string ⟨(Lib.itoa n).toArray⟩) ∧ Below w.heap.size w w' := by
  refine (Tryd.strconv_Itoa n h0 h1 w hl.pw).mono ?_
  rintro e w' ⟨rfl, k, os, rfl⟩
  exact ⟨rfl, Lib.below_grow _ _ (Nat.le_refl _) _ _⟩
theorem cut62 (s sep : ByteArray) (hs : s.size < 4294967281) (w : World) (hl : Lw w) : Calls Tryd.prog 24 #[.string s, .string sep] w fun e w' => e = .returned (.tuple #[.string ⟨(Lib.cut s.toList sep.toList).1.toArray⟩, .string ⟨(Lib.cut s.toList sep.toList).2.1.toArray⟩, .bool (Lib.cut s.toList sep.toList).2.2]) ∧ Below w.heap.size w w' := by
  obtain ⟨m, hm⟩ := hl.mx
  rw [ByteArray.toList_eq, ByteArray.toList_eq]
  refine (Tryd.strings_Cut s sep m w hs hm).mono ?_
  rintro e w' ⟨rfl, n, rfl⟩
  exact ⟨rfl, below_drewN (Below.refl _ _) n⟩
theorem prefix64 (s p : ByteArray) (w : World) : Calls Tryd.prog 26 #[.string s, .string p] w fun e w' => e = .returned (.tuple #[.string ⟨(Lib.trimPrefix s.toList p.toList).toArray⟩, .bool (p.toList.isPrefixOf s.toList)]) ∧ w' = w := by
  rw [ByteArray.toList_eq, ByteArray.toList_eq]
  exact Tryd.strings_CutPrefix s p w
theorem index78 (s : ByteArray) (c : Nat) (w : World) : Calls Tryd.prog 50 #[.string s, .int .u8 (c : Int)] w fun e w' => e = .returned (.int .i64 (Lib.indexByte s.toList (UInt8.ofNat c))) ∧ w' = w := by
  rw [ByteArray.toList_eq]
  exact Tryd.strings_IndexByte s c w
/-- What Atoi tells: a number and no error, or an error. -/
def AtoiT (l : L8) (v : Value) : Prop := match Lib.atoiAll l with
  | .ok n => v = .tuple #[.int .i64 n, .nilIface]
  | _ => ∃ (n : Int) (N : Nat), v = .tuple #[.int .i64 n, .iface 116 (.pointer (some ⟨N, 0, none⟩))]
theorem atoi79 (s : ByteArray) (hs : s.size ≤ 100000) (w : World) (hl : Lw w) : Calls Tryd.prog 51 #[.string s] w fun e w' => (∃ v, e = .returned v ∧ AtoiT s.toList v) ∧ Below w.heap.size w w' := by
  rw [ByteArray.toList_eq]
  unfold AtoiT
  cases h : Lib.atoiAll s.data.toList with
  | ok n =>
    refine (Tryd.strconv_Atoi_ok s (by omega) n h w).mono ?_
    rintro e w' ⟨rfl, hw⟩
    refine ⟨⟨_, rfl, rfl⟩, ?_⟩
    rcases hw with rfl | ⟨t, rfl⟩
    · exact Below.refl _ _
    · exact Lib.bytesWorld_below _ _ _
  | «syntax» =>
    obtain ⟨ev, h1, h2⟩ := hl.es
    refine (Tryd.strconv_Atoi_syntax s (by omega) h ev w h1 h2).mono ?_
    rintro e w' ⟨N, rfl, _, _, hb⟩
    exact ⟨⟨_, rfl, _, N, rfl⟩, hb⟩
  | range =>
    obtain ⟨ev, h1, h2⟩ := hl.er
    refine (Tryd.strconv_Atoi_range s (by omega) h ev w h1 h2).mono ?_
    rintro e w' ⟨N, rfl, _, _, hb⟩
    exact ⟨⟨_, rfl, _, N, rfl⟩, hb⟩
/-- A number of 16 bits with its sign, as one of 32 bits. -/
def sx (v : Nat) : Nat := (sgn v % 4294967296).toNat
theorem sext57 (v : Nat) (hv : v < 4294967296) (w : World) : Calls Tryd.prog 42 #[.int .u32 (v : Int), .int .i64 16] w fun e w' => e = .returned (.int .u32 (sx v : Int)) ∧ w' = w := by
  have hk : wrap32 ((v : Int) * 65536 % 4294967296) / 65536 % 4294967296 = (sx v : Int) := by unfold sx sgn wrap32; split <;> omega
  go_enter Tryd.func42, Tryd.ntmps42
  go_wp2
  go_ret
  exact ⟨by first | rfl | (rw [← hk]; rfl), rfl⟩
theorem sgn_w64 (v : Nat) : wrap64 (sgn v) = sgn v := by
  have h : -32768 ≤ sgn v ∧ sgn v < 32768 := by unfold sgn; split <;> omega
  generalize sgn v = z at h ⊢
  unfold wrap64
  omega
theorem sx_back (v : Nat) : wrap32 (sx v : Int) = sgn v := by unfold sx sgn wrap32; split <;> omega
end Go.Proofs.YtglkkeelocdanaaDoor
