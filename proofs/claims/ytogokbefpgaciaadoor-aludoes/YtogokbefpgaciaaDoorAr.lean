/- What is proved here: the document's shifts, and which names it knows. -/
import Derived.Test.YtogokbefpgaciaaDoorAq
namespace Go.Proofs.YtogokbefpgaciaaDoor
open Go.RowKit
set_option linter.unusedVariables false
set_option linter.unusedSimpArgs false
set_option maxRecDepth 100000
set_option maxHeartbeats 1000000 in
theorem s25_sll (rs rt rd sa : Int) (imm s t : Nat) (hi : imm < 4294967296) (hs : s < 4294967296) (ht : t < 4294967296) (hsa : 0 ≤ sa ∧ sa < 32) (hrd : 0 ≤ rd ∧ rd < 32) (hle : sa ≤ rd ∨ True) (w : World) : Calls Tryd.prog 25 #[.agg #[.string ⟨#[115, 108, 108]⟩, .int .i64 rs, .int .i64 rt, .int .i64 rd, .int .i64 sa, .int .u32 (imm : Int)], .int .u32 (s : Int), .int .u32 (t : Int)] w fun e w' => e = .returned (.int .u32 ((t * 2 ^ sa.toNat % 4294967296) : Nat)) ∧ Below w.heap.size w w' := by
  obtain ⟨g1, g2⟩ := hsa
  obtain ⟨n, rfl⟩ := Int.eq_ofNat_of_zero_le g1
  have hn : n < 32 := by omega
  have hn2 : min n 64 = n := by omega
  rw [Int.toNat_natCast]
  have hwu : IntKind.u64.wrap (n : Int) = (n : Int) := by rw [IntKind.wrap_u64]; omega
  have hm : (s : Int).tmod 32 = ((s % 32 : Nat) : Int) := by rw [Int.tmod_eq_emod_of_nonneg (by omega)]; omega
  obtain ⟨W, hW, hb, hz, d0, d1, d2, d3, d4, d5⟩ := box6 w (.string ⟨#[115, 108, 108]⟩) (.int .i64 rs) (.int .i64 rt) (.int .i64 rd) (.int .i64 (n : Int)) (.int .u32 (imm : Int)) 24
  have HB : Hid (Below w.heap.size w W) := hb
  generalize s % 32 = y at hm
  have h : Hid ((t : Int) * 2 ^ n % 4294967296 = ((t * 2 ^ n % 4294967296 : Nat) : Int)) := by show _ = _; simp
  clear g1 g2
  clear hb hz hi hs ht hle
  go_enter Tryd.func25, Tryd.ntmps25
  go_wp2
  go_ret
  exact ⟨ret_u32 h.out, HB.out⟩
set_option maxHeartbeats 1000000 in
theorem s25_srl (rs rt rd sa : Int) (imm s t : Nat) (hi : imm < 4294967296) (hs : s < 4294967296) (ht : t < 4294967296) (hsa : 0 ≤ sa ∧ sa < 32) (hrd : 0 ≤ rd ∧ rd < 32) (hle : sa ≤ rd ∨ True) (w : World) : Calls Tryd.prog 25 #[.agg #[.string ⟨#[115, 114, 108]⟩, .int .i64 rs, .int .i64 rt, .int .i64 rd, .int .i64 sa, .int .u32 (imm : Int)], .int .u32 (s : Int), .int .u32 (t : Int)] w fun e w' => e = .returned (.int .u32 ((t / 2 ^ sa.toNat) : Nat)) ∧ Below w.heap.size w w' := by
  obtain ⟨g1, g2⟩ := hsa
  obtain ⟨n, rfl⟩ := Int.eq_ofNat_of_zero_le g1
  have hn : n < 32 := by omega
  have hn2 : min n 64 = n := by omega
  rw [Int.toNat_natCast]
  have hwu : IntKind.u64.wrap (n : Int) = (n : Int) := by rw [IntKind.wrap_u64]; omega
  have hm : (s : Int).tmod 32 = ((s % 32 : Nat) : Int) := by rw [Int.tmod_eq_emod_of_nonneg (by omega)]; omega
  obtain ⟨W, hW, hb, hz, d0, d1, d2, d3, d4, d5⟩ := box6 w (.string ⟨#[115, 114, 108]⟩) (.int .i64 rs) (.int .i64 rt) (.int .i64 rd) (.int .i64 (n : Int)) (.int .u32 (imm : Int)) 24
  have HB : Hid (Below w.heap.size w W) := hb
  generalize s % 32 = y at hm
  have h : Hid ((t : Int) / 2 ^ n = ((t / 2 ^ n : Nat) : Int)) := by show _ = _; simp
  clear g1 g2
  clear hb hz hi hs ht hle
  go_enter Tryd.func25, Tryd.ntmps25
  go_wp2
  go_ret
  exact ⟨ret_u32 h.out, HB.out⟩
set_option maxHeartbeats 1000000 in
theorem s25_sra (rs rt rd sa : Int) (imm s t : Nat) (hi : imm < 4294967296) (hs : s < 4294967296) (ht : t < 4294967296) (hsa : 0 ≤ sa ∧ sa < 32) (hrd : 0 ≤ rd ∧ rd < 32) (hle : sa ≤ rd ∨ True) (w : World) : Calls Tryd.prog 25 #[.agg #[.string ⟨#[115, 114, 97]⟩, .int .i64 rs, .int .i64 rt, .int .i64 rd, .int .i64 sa, .int .u32 (imm : Int)], .int .u32 (s : Int), .int .u32 (t : Int)] w fun e w' => e = .returned (.int .u32 ((outN (sg t / 2 ^ sa.toNat)) : Nat)) ∧ Below w.heap.size w w' := by
  obtain ⟨g1, g2⟩ := hsa
  obtain ⟨n, rfl⟩ := Int.eq_ofNat_of_zero_le g1
  have hn : n < 32 := by omega
  have hn2 : min n 64 = n := by omega
  rw [Int.toNat_natCast]
  have hwu : IntKind.u64.wrap (n : Int) = (n : Int) := by rw [IntKind.wrap_u64]; omega
  have hm : (s : Int).tmod 32 = ((s % 32 : Nat) : Int) := by rw [Int.tmod_eq_emod_of_nonneg (by omega)]; omega
  obtain ⟨W, hW, hb, hz, d0, d1, d2, d3, d4, d5⟩ := box6 w (.string ⟨#[115, 114, 97]⟩) (.int .i64 rs) (.int .i64 rt) (.int .i64 rd) (.int .i64 (n : Int)) (.int .u32 (imm : Int)) 24
  have HB : Hid (Below w.heap.size w W) := hb
  generalize s % 32 = y at hm
  have K := right38 t n ht hn W
  generalize outN (sg t / 2 ^ n) = o at K ⊢
  clear g1 g2
  clear hb hz hi hs ht hle
  go_enter Tryd.func25, Tryd.ntmps25
  go_wp2_with fail
  refine K.mono ?_
  rintro e w3 ⟨rfl, rfl⟩
  go_wp2
  go_ret
  exact ⟨rfl, HB.out⟩
set_option maxHeartbeats 1000000 in
theorem s25_rotr (rs rt rd sa : Int) (imm s t : Nat) (hi : imm < 4294967296) (hs : s < 4294967296) (ht : t < 4294967296) (hsa : 0 ≤ sa ∧ sa < 32) (hrd : 0 ≤ rd ∧ rd < 32) (hle : sa ≤ rd ∨ True) (w : World) : Calls Tryd.prog 25 #[.agg #[.string ⟨#[114, 111, 116, 114]⟩, .int .i64 rs, .int .i64 rt, .int .i64 rd, .int .i64 sa, .int .u32 (imm : Int)], .int .u32 (s : Int), .int .u32 (t : Int)] w fun e w' => e = .returned (.int .u32 ((Sw.rotI t sa) : Nat)) ∧ Below w.heap.size w w' := by
  obtain ⟨g1, g2⟩ := hsa
  obtain ⟨n, rfl⟩ := Int.eq_ofNat_of_zero_le g1
  have hwu : IntKind.u64.wrap (n : Int) = (n : Int) := by rw [IntKind.wrap_u64]; omega
  have hm : (s : Int).tmod 32 = ((s % 32 : Nat) : Int) := by rw [Int.tmod_eq_emod_of_nonneg (by omega)]; omega
  obtain ⟨W, hW, hb, hz, d0, d1, d2, d3, d4, d5⟩ := box6 w (.string ⟨#[114, 111, 116, 114]⟩) (.int .i64 rs) (.int .i64 rt) (.int .i64 rd) (.int .i64 (n : Int)) (.int .u32 (imm : Int)) 24
  have HB : Hid (Below w.heap.size w W) := hb
  generalize s % 32 = y at hm
  have K := Sw.rrot_any t ht (n : Int) W
  generalize Sw.rotI t (n : Int) = o at K ⊢
  clear g1 g2
  clear hb hz hi hs ht hle
  go_enter Tryd.func25, Tryd.ntmps25
  go_wp2_with fail
  refine K.mono ?_
  rintro e w3 ⟨rfl, rfl⟩
  go_wp2
  go_ret
  exact ⟨rfl, HB.out⟩
set_option maxHeartbeats 1000000 in
theorem s25_sllv (rs rt rd sa : Int) (imm s t : Nat) (hi : imm < 4294967296) (hs : s < 4294967296) (ht : t < 4294967296) (hsa : 0 ≤ sa ∧ sa < 32) (hrd : 0 ≤ rd ∧ rd < 32) (hle : sa ≤ rd ∨ True) (w : World) : Calls Tryd.prog 25 #[.agg #[.string ⟨#[115, 108, 108, 118]⟩, .int .i64 rs, .int .i64 rt, .int .i64 rd, .int .i64 sa, .int .u32 (imm : Int)], .int .u32 (s : Int), .int .u32 (t : Int)] w fun e w' => e = .returned (.int .u32 ((t * 2 ^ (s % 32) % 4294967296) : Nat)) ∧ Below w.heap.size w w' := by
  obtain ⟨g1, g2⟩ := hsa
  obtain ⟨n, rfl⟩ := Int.eq_ofNat_of_zero_le g1
  have hwu : IntKind.u64.wrap (n : Int) = (n : Int) := by rw [IntKind.wrap_u64]; omega
  have hm : (s : Int).tmod 32 = ((s % 32 : Nat) : Int) := by rw [Int.tmod_eq_emod_of_nonneg (by omega)]; omega
  have hyl : s % 32 < 32 := by omega
  obtain ⟨W, hW, hb, hz, d0, d1, d2, d3, d4, d5⟩ := box6 w (.string ⟨#[115, 108, 108, 118]⟩) (.int .i64 rs) (.int .i64 rt) (.int .i64 rd) (.int .i64 (n : Int)) (.int .u32 (imm : Int)) 24
  have HB : Hid (Below w.heap.size w W) := hb
  generalize s % 32 = y at hm hyl ⊢
  have hy2 : min y 64 = y := by omega
  have hyu : IntKind.u64.wrap (y : Int) = (y : Int) := by rw [IntKind.wrap_u64]; omega
  have h : Hid ((t : Int) * 2 ^ y % 4294967296 = ((t * 2 ^ y % 4294967296 : Nat) : Int)) := by show _ = _; simp
  clear g1 g2
  clear hb hz hi hs ht hle
  go_enter Tryd.func25, Tryd.ntmps25
  go_wp2
  go_ret
  exact ⟨ret_u32 h.out, HB.out⟩
set_option maxHeartbeats 1000000 in
theorem s25_srlv (rs rt rd sa : Int) (imm s t : Nat) (hi : imm < 4294967296) (hs : s < 4294967296) (ht : t < 4294967296) (hsa : 0 ≤ sa ∧ sa < 32) (hrd : 0 ≤ rd ∧ rd < 32) (hle : sa ≤ rd ∨ True) (w : World) : Calls Tryd.prog 25 #[.agg #[.string ⟨#[115, 114, 108, 118]⟩, .int .i64 rs, .int .i64 rt, .int .i64 rd, .int .i64 sa, .int .u32 (imm : Int)], .int .u32 (s : Int), .int .u32 (t : Int)] w fun e w' => e = .returned (.int .u32 ((t / 2 ^ (s % 32)) : Nat)) ∧ Below w.heap.size w w' := by
  obtain ⟨g1, g2⟩ := hsa
  obtain ⟨n, rfl⟩ := Int.eq_ofNat_of_zero_le g1
  have hwu : IntKind.u64.wrap (n : Int) = (n : Int) := by rw [IntKind.wrap_u64]; omega
  have hm : (s : Int).tmod 32 = ((s % 32 : Nat) : Int) := by rw [Int.tmod_eq_emod_of_nonneg (by omega)]; omega
  have hyl : s % 32 < 32 := by omega
  obtain ⟨W, hW, hb, hz, d0, d1, d2, d3, d4, d5⟩ := box6 w (.string ⟨#[115, 114, 108, 118]⟩) (.int .i64 rs) (.int .i64 rt) (.int .i64 rd) (.int .i64 (n : Int)) (.int .u32 (imm : Int)) 24
  have HB : Hid (Below w.heap.size w W) := hb
  generalize s % 32 = y at hm hyl ⊢
  have hy2 : min y 64 = y := by omega
  have hyu : IntKind.u64.wrap (y : Int) = (y : Int) := by rw [IntKind.wrap_u64]; omega
  have h : Hid ((t : Int) / 2 ^ y = ((t / 2 ^ y : Nat) : Int)) := by show _ = _; simp
  clear g1 g2
  clear hb hz hi hs ht hle
  go_enter Tryd.func25, Tryd.ntmps25
  go_wp2
  go_ret
  exact ⟨ret_u32 h.out, HB.out⟩
set_option maxHeartbeats 1000000 in
theorem s25_srav (rs rt rd sa : Int) (imm s t : Nat) (hi : imm < 4294967296) (hs : s < 4294967296) (ht : t < 4294967296) (hsa : 0 ≤ sa ∧ sa < 32) (hrd : 0 ≤ rd ∧ rd < 32) (hle : sa ≤ rd ∨ True) (w : World) : Calls Tryd.prog 25 #[.agg #[.string ⟨#[115, 114, 97, 118]⟩, .int .i64 rs, .int .i64 rt, .int .i64 rd, .int .i64 sa, .int .u32 (imm : Int)], .int .u32 (s : Int), .int .u32 (t : Int)] w fun e w' => e = .returned (.int .u32 ((outN (sg t / 2 ^ (s % 32))) : Nat)) ∧ Below w.heap.size w w' := by
  obtain ⟨g1, g2⟩ := hsa
  obtain ⟨n, rfl⟩ := Int.eq_ofNat_of_zero_le g1
  have hwu : IntKind.u64.wrap (n : Int) = (n : Int) := by rw [IntKind.wrap_u64]; omega
  have hm : (s : Int).tmod 32 = ((s % 32 : Nat) : Int) := by rw [Int.tmod_eq_emod_of_nonneg (by omega)]; omega
  have hyl : s % 32 < 32 := by omega
  obtain ⟨W, hW, hb, hz, d0, d1, d2, d3, d4, d5⟩ := box6 w (.string ⟨#[115, 114, 97, 118]⟩) (.int .i64 rs) (.int .i64 rt) (.int .i64 rd) (.int .i64 (n : Int)) (.int .u32 (imm : Int)) 24
  have HB : Hid (Below w.heap.size w W) := hb
  generalize s % 32 = y at hm hyl ⊢
  have hy2 : min y 64 = y := by omega
  have hyu : IntKind.u64.wrap (y : Int) = (y : Int) := by rw [IntKind.wrap_u64]; omega
  have K := right38 t y ht hyl W
  generalize outN (sg t / 2 ^ y) = o at K ⊢
  clear g1 g2
  clear hb hz hi hs ht hle
  go_enter Tryd.func25, Tryd.ntmps25
  go_wp2_with fail
  refine K.mono ?_
  rintro e w3 ⟨rfl, rfl⟩
  go_wp2
  go_ret
  exact ⟨rfl, HB.out⟩
set_option maxHeartbeats 1000000 in
theorem s25_rotrv (rs rt rd sa : Int) (imm s t : Nat) (hi : imm < 4294967296) (hs : s < 4294967296) (ht : t < 4294967296) (hsa : 0 ≤ sa ∧ sa < 32) (hrd : 0 ≤ rd ∧ rd < 32) (hle : sa ≤ rd ∨ True) (w : World) : Calls Tryd.prog 25 #[.agg #[.string ⟨#[114, 111, 116, 114, 118]⟩, .int .i64 rs, .int .i64 rt, .int .i64 rd, .int .i64 sa, .int .u32 (imm : Int)], .int .u32 (s : Int), .int .u32 (t : Int)] w fun e w' => e = .returned (.int .u32 ((Sw.rotI t ((s % 32 : Nat) : Int)) : Nat)) ∧ Below w.heap.size w w' := by
  obtain ⟨g1, g2⟩ := hsa
  obtain ⟨n, rfl⟩ := Int.eq_ofNat_of_zero_le g1
  have hwu : IntKind.u64.wrap (n : Int) = (n : Int) := by rw [IntKind.wrap_u64]; omega
  have hm : (s : Int).tmod 32 = ((s % 32 : Nat) : Int) := by rw [Int.tmod_eq_emod_of_nonneg (by omega)]; omega
  have hyl : s % 32 < 32 := by omega
  obtain ⟨W, hW, hb, hz, d0, d1, d2, d3, d4, d5⟩ := box6 w (.string ⟨#[114, 111, 116, 114, 118]⟩) (.int .i64 rs) (.int .i64 rt) (.int .i64 rd) (.int .i64 (n : Int)) (.int .u32 (imm : Int)) 24
  have HB : Hid (Below w.heap.size w W) := hb
  generalize s % 32 = y at hm hyl ⊢
  have hy2 : min y 64 = y := by omega
  have hyu : IntKind.u64.wrap (y : Int) = (y : Int) := by rw [IntKind.wrap_u64]; omega
  have K := Sw.rrot_any t ht (y : Int) W
  have hyw : wrap64 (y : Int) = (y : Int) := by unfold wrap64; omega
  generalize Sw.rotI t (y : Int) = o at K ⊢
  clear g1 g2
  clear hb hz hi hs ht hle
  go_enter Tryd.func25, Tryd.ntmps25
  go_wp2_with fail
  refine K.mono ?_
  rintro e w3 ⟨rfl, rfl⟩
  go_wp2
  go_ret
  exact ⟨rfl, HB.out⟩
set_option maxHeartbeats 1000000 in
theorem s25_ext (rs rt rd sa : Int) (imm s t : Nat) (hi : imm < 4294967296) (hs : s < 4294967296) (ht : t < 4294967296) (hsa : 0 ≤ sa ∧ sa < 32) (hrd : 0 ≤ rd ∧ rd < 32) (hle : sa ≤ rd ∨ True) (w : World) : Calls Tryd.prog 25 #[.agg #[.string ⟨#[101, 120, 116]⟩, .int .i64 rs, .int .i64 rt, .int .i64 rd, .int .i64 sa, .int .u32 (imm : Int)], .int .u32 (s : Int), .int .u32 (t : Int)] w fun e w' => e = .returned (.int .u32 ((s / 2 ^ sa.toNat &&& lowN (rd.toNat + 1)) : Nat)) ∧ Below w.heap.size w w' := by
  have K : Hid (∀ w, Calls Tryd.prog 40 #[.agg #[.string ⟨#[101, 120, 116]⟩, .int .i64 rs, .int .i64 rt, .int .i64 rd, .int .i64 sa, .int .u32 (imm : Int)], .int .u32 (s : Int), .int .u32 (t : Int)] w fun e w' => e = .returned (.int .u32 ((s / 2 ^ sa.toNat &&& lowN (rd.toNat + 1)) : Nat)) ∧ Below w.heap.size w w') := fun w => f40_ext rs rt rd sa imm s t hi hs ht hsa hrd hle w
  obtain ⟨o, ho⟩ : ∃ o, o = (s / 2 ^ sa.toNat &&& lowN (rd.toNat + 1)) := ⟨_, rfl⟩
  rw [← ho] at K ⊢
  clear ho
  obtain ⟨g1, g2⟩ := hsa
  obtain ⟨n, rfl⟩ := Int.eq_ofNat_of_zero_le g1
  have hwu : IntKind.u64.wrap (n : Int) = (n : Int) := by rw [IntKind.wrap_u64]; omega
  have hm : (s : Int).tmod 32 = ((s % 32 : Nat) : Int) := by rw [Int.tmod_eq_emod_of_nonneg (by omega)]; omega
  obtain ⟨W, hW, hb, hz, d0, d1, d2, d3, d4, d5⟩ := box6 w (.string ⟨#[101, 120, 116]⟩) (.int .i64 rs) (.int .i64 rt) (.int .i64 rd) (.int .i64 (n : Int)) (.int .u32 (imm : Int)) 24
  have HB : Hid (Below w.heap.size w W) := hb
  generalize s % 32 = y at hm
  clear g1 g2
  clear hb hz hi hs ht hle
  go_enter Tryd.func25, Tryd.ntmps25
  go_wp2_with fail
  refine (K.out _).mono ?_
  rintro e w3 ⟨rfl, hb3⟩
  have HB3 : Hid (Below w.heap.size w w3) := below_tr HB.out hb3
  clear hb3
  go_wp2
  go_ret
  exact ⟨rfl, HB3.out⟩
set_option maxHeartbeats 1000000 in
theorem s25_ins (rs rt rd sa : Int) (imm s t : Nat) (hi : imm < 4294967296) (hs : s < 4294967296) (ht : t < 4294967296) (hsa : 0 ≤ sa ∧ sa < 32) (hrd : 0 ≤ rd ∧ rd < 32) (hle : sa ≤ rd) (w : World) : Calls Tryd.prog 25 #[.agg #[.string ⟨#[105, 110, 115]⟩, .int .i64 rs, .int .i64 rt, .int .i64 rd, .int .i64 sa, .int .u32 (imm : Int)], .int .u32 (s : Int), .int .u32 (t : Int)] w fun e w' => e = .returned (.int .u32 ((insM t (s * 2 ^ sa.toNat % 4294967296) (lowN (rd.toNat - sa.toNat + 1) * 2 ^ sa.toNat % 4294967296)) : Nat)) ∧ Below w.heap.size w w' := by
  have K : Hid (∀ w, Calls Tryd.prog 40 #[.agg #[.string ⟨#[105, 110, 115]⟩, .int .i64 rs, .int .i64 rt, .int .i64 rd, .int .i64 sa, .int .u32 (imm : Int)], .int .u32 (s : Int), .int .u32 (t : Int)] w fun e w' => e = .returned (.int .u32 ((insM t (s * 2 ^ sa.toNat % 4294967296) (lowN (rd.toNat - sa.toNat + 1) * 2 ^ sa.toNat % 4294967296)) : Nat)) ∧ Below w.heap.size w w') := fun w => f40_ins rs rt rd sa imm s t hi hs ht hsa hrd hle w
  obtain ⟨o, ho⟩ : ∃ o, o = (insM t (s * 2 ^ sa.toNat % 4294967296) (lowN (rd.toNat - sa.toNat + 1) * 2 ^ sa.toNat % 4294967296)) := ⟨_, rfl⟩
  rw [← ho] at K ⊢
  clear ho
  obtain ⟨g1, g2⟩ := hsa
  obtain ⟨n, rfl⟩ := Int.eq_ofNat_of_zero_le g1
  have hwu : IntKind.u64.wrap (n : Int) = (n : Int) := by rw [IntKind.wrap_u64]; omega
  have hm : (s : Int).tmod 32 = ((s % 32 : Nat) : Int) := by rw [Int.tmod_eq_emod_of_nonneg (by omega)]; omega
  obtain ⟨W, hW, hb, hz, d0, d1, d2, d3, d4, d5⟩ := box6 w (.string ⟨#[105, 110, 115]⟩) (.int .i64 rs) (.int .i64 rt) (.int .i64 rd) (.int .i64 (n : Int)) (.int .u32 (imm : Int)) 24
  have HB : Hid (Below w.heap.size w W) := hb
  generalize s % 32 = y at hm
  clear g1 g2
  clear hb hz hi hs ht hle
  go_enter Tryd.func25, Tryd.ntmps25
  go_wp2_with fail
  refine (K.out _).mono ?_
  rintro e w3 ⟨rfl, hb3⟩
  have HB3 : Hid (Below w.heap.size w w3) := below_tr HB.out hb3
  clear hb3
  go_wp2
  go_ret
  exact ⟨rfl, HB3.out⟩
set_option maxHeartbeats 1000000 in
theorem s25_wsbh (rs rt rd sa : Int) (imm s t : Nat) (hi : imm < 4294967296) (hs : s < 4294967296) (ht : t < 4294967296) (hsa : 0 ≤ sa ∧ sa < 32) (hrd : 0 ≤ rd ∧ rd < 32) (hle : sa ≤ rd ∨ True) (w : World) : Calls Tryd.prog 25 #[.agg #[.string ⟨#[119, 115, 98, 104]⟩, .int .i64 rs, .int .i64 rt, .int .i64 rd, .int .i64 sa, .int .u32 (imm : Int)], .int .u32 (s : Int), .int .u32 (t : Int)] w fun e w' => e = .returned (.int .u32 ((((t &&& 16711935) * 256 % 4294967296) ||| (t / 256 &&& 16711935)) : Nat)) ∧ Below w.heap.size w w' := by
  have K : Hid (∀ w, Calls Tryd.prog 40 #[.agg #[.string ⟨#[119, 115, 98, 104]⟩, .int .i64 rs, .int .i64 rt, .int .i64 rd, .int .i64 sa, .int .u32 (imm : Int)], .int .u32 (s : Int), .int .u32 (t : Int)] w fun e w' => e = .returned (.int .u32 ((((t &&& 16711935) * 256 % 4294967296) ||| (t / 256 &&& 16711935)) : Nat)) ∧ Below w.heap.size w w') := fun w => f40_wsbh rs rt rd sa imm s t hi hs ht hsa hrd hle w
  obtain ⟨o, ho⟩ : ∃ o, o = (((t &&& 16711935) * 256 % 4294967296) ||| (t / 256 &&& 16711935)) := ⟨_, rfl⟩
  rw [← ho] at K ⊢
  clear ho
  obtain ⟨g1, g2⟩ := hsa
  obtain ⟨n, rfl⟩ := Int.eq_ofNat_of_zero_le g1
  have hwu : IntKind.u64.wrap (n : Int) = (n : Int) := by rw [IntKind.wrap_u64]; omega
  have hm : (s : Int).tmod 32 = ((s % 32 : Nat) : Int) := by rw [Int.tmod_eq_emod_of_nonneg (by omega)]; omega
  obtain ⟨W, hW, hb, hz, d0, d1, d2, d3, d4, d5⟩ := box6 w (.string ⟨#[119, 115, 98, 104]⟩) (.int .i64 rs) (.int .i64 rt) (.int .i64 rd) (.int .i64 (n : Int)) (.int .u32 (imm : Int)) 24
  have HB : Hid (Below w.heap.size w W) := hb
  generalize s % 32 = y at hm
  clear g1 g2
  clear hb hz hi hs ht hle
  go_enter Tryd.func25, Tryd.ntmps25
  go_wp2_with fail
  refine (K.out _).mono ?_
  rintro e w3 ⟨rfl, hb3⟩
  have HB3 : Hid (Below w.heap.size w w3) := below_tr HB.out hb3
  clear hb3
  go_wp2
  go_ret
  exact ⟨rfl, HB3.out⟩
set_option maxHeartbeats 1000000 in
theorem s25_seb (rs rt rd sa : Int) (imm s t : Nat) (hi : imm < 4294967296) (hs : s < 4294967296) (ht : t < 4294967296) (hsa : 0 ≤ sa ∧ sa < 32) (hrd : 0 ≤ rd ∧ rd < 32) (hle : sa ≤ rd ∨ True) (w : World) : Calls Tryd.prog 25 #[.agg #[.string ⟨#[115, 101, 98]⟩, .int .i64 rs, .int .i64 rt, .int .i64 rd, .int .i64 sa, .int .u32 (imm : Int)], .int .u32 (s : Int), .int .u32 (t : Int)] w fun e w' => e = .returned (.int .u32 ((Sw.sextI t 8) : Nat)) ∧ Below w.heap.size w w' := by
  have K : Hid (∀ w, Calls Tryd.prog 40 #[.agg #[.string ⟨#[115, 101, 98]⟩, .int .i64 rs, .int .i64 rt, .int .i64 rd, .int .i64 sa, .int .u32 (imm : Int)], .int .u32 (s : Int), .int .u32 (t : Int)] w fun e w' => e = .returned (.int .u32 ((Sw.sextI t 8) : Nat)) ∧ Below w.heap.size w w') := fun w => f40_seb rs rt rd sa imm s t hi hs ht hsa hrd hle w
  obtain ⟨o, ho⟩ : ∃ o, o = (Sw.sextI t 8) := ⟨_, rfl⟩
  rw [← ho] at K ⊢
  clear ho
  obtain ⟨g1, g2⟩ := hsa
  obtain ⟨n, rfl⟩ := Int.eq_ofNat_of_zero_le g1
  have hwu : IntKind.u64.wrap (n : Int) = (n : Int) := by rw [IntKind.wrap_u64]; omega
  have hm : (s : Int).tmod 32 = ((s % 32 : Nat) : Int) := by rw [Int.tmod_eq_emod_of_nonneg (by omega)]; omega
  obtain ⟨W, hW, hb, hz, d0, d1, d2, d3, d4, d5⟩ := box6 w (.string ⟨#[115, 101, 98]⟩) (.int .i64 rs) (.int .i64 rt) (.int .i64 rd) (.int .i64 (n : Int)) (.int .u32 (imm : Int)) 24
  have HB : Hid (Below w.heap.size w W) := hb
  generalize s % 32 = y at hm
  clear g1 g2
  clear hb hz hi hs ht hle
  go_enter Tryd.func25, Tryd.ntmps25
  go_wp2_with fail
  refine (K.out _).mono ?_
  rintro e w3 ⟨rfl, hb3⟩
  have HB3 : Hid (Below w.heap.size w w3) := below_tr HB.out hb3
  clear hb3
  go_wp2
  go_ret
  exact ⟨rfl, HB3.out⟩
set_option maxHeartbeats 1000000 in
theorem s25_seh (rs rt rd sa : Int) (imm s t : Nat) (hi : imm < 4294967296) (hs : s < 4294967296) (ht : t < 4294967296) (hsa : 0 ≤ sa ∧ sa < 32) (hrd : 0 ≤ rd ∧ rd < 32) (hle : sa ≤ rd ∨ True) (w : World) : Calls Tryd.prog 25 #[.agg #[.string ⟨#[115, 101, 104]⟩, .int .i64 rs, .int .i64 rt, .int .i64 rd, .int .i64 sa, .int .u32 (imm : Int)], .int .u32 (s : Int), .int .u32 (t : Int)] w fun e w' => e = .returned (.int .u32 ((Sw.sextI t 16) : Nat)) ∧ Below w.heap.size w w' := by
  have K : Hid (∀ w, Calls Tryd.prog 40 #[.agg #[.string ⟨#[115, 101, 104]⟩, .int .i64 rs, .int .i64 rt, .int .i64 rd, .int .i64 sa, .int .u32 (imm : Int)], .int .u32 (s : Int), .int .u32 (t : Int)] w fun e w' => e = .returned (.int .u32 ((Sw.sextI t 16) : Nat)) ∧ Below w.heap.size w w') := fun w => f40_seh rs rt rd sa imm s t hi hs ht hsa hrd hle w
  obtain ⟨o, ho⟩ : ∃ o, o = (Sw.sextI t 16) := ⟨_, rfl⟩
  rw [← ho] at K ⊢
  clear ho
  obtain ⟨g1, g2⟩ := hsa
  obtain ⟨n, rfl⟩ := Int.eq_ofNat_of_zero_le g1
  have hwu : IntKind.u64.wrap (n : Int) = (n : Int) := by rw [IntKind.wrap_u64]; omega
  have hm : (s : Int).tmod 32 = ((s % 32 : Nat) : Int) := by rw [Int.tmod_eq_emod_of_nonneg (by omega)]; omega
  obtain ⟨W, hW, hb, hz, d0, d1, d2, d3, d4, d5⟩ := box6 w (.string ⟨#[115, 101, 104]⟩) (.int .i64 rs) (.int .i64 rt) (.int .i64 rd) (.int .i64 (n : Int)) (.int .u32 (imm : Int)) 24
  have HB : Hid (Below w.heap.size w W) := hb
  generalize s % 32 = y at hm
  clear g1 g2
  clear hb hz hi hs ht hle
  go_enter Tryd.func25, Tryd.ntmps25
  go_wp2_with fail
  refine (K.out _).mono ?_
  rintro e w3 ⟨rfl, hb3⟩
  have HB3 : Hid (Below w.heap.size w w3) := below_tr HB.out hb3
  clear hb3
  go_wp2
  go_ret
  exact ⟨rfl, HB3.out⟩
set_option maxHeartbeats 1000000 in
theorem s25_clz (rs rt rd sa : Int) (imm s t : Nat) (hi : imm < 4294967296) (hs : s < 4294967296) (ht : t < 4294967296) (hsa : 0 ≤ sa ∧ sa < 32) (hrd : 0 ≤ rd ∧ rd < 32) (hle : sa ≤ rd ∨ True) (w : World) : Calls Tryd.prog 25 #[.agg #[.string ⟨#[99, 108, 122]⟩, .int .i64 rs, .int .i64 rt, .int .i64 rd, .int .i64 sa, .int .u32 (imm : Int)], .int .u32 (s : Int), .int .u32 (t : Int)] w fun e w' => e = .returned (.int .u32 ((leadN s 0) : Nat)) ∧ Below w.heap.size w w' := by
  have K : Hid (∀ w, Calls Tryd.prog 40 #[.agg #[.string ⟨#[99, 108, 122]⟩, .int .i64 rs, .int .i64 rt, .int .i64 rd, .int .i64 sa, .int .u32 (imm : Int)], .int .u32 (s : Int), .int .u32 (t : Int)] w fun e w' => e = .returned (.int .u32 ((leadN s 0) : Nat)) ∧ Below w.heap.size w w') := fun w => f40_clz rs rt rd sa imm s t hi hs ht hsa hrd hle w
  obtain ⟨o, ho⟩ : ∃ o, o = (leadN s 0) := ⟨_, rfl⟩
  rw [← ho] at K ⊢
  clear ho
  obtain ⟨g1, g2⟩ := hsa
  obtain ⟨n, rfl⟩ := Int.eq_ofNat_of_zero_le g1
  have hwu : IntKind.u64.wrap (n : Int) = (n : Int) := by rw [IntKind.wrap_u64]; omega
  have hm : (s : Int).tmod 32 = ((s % 32 : Nat) : Int) := by rw [Int.tmod_eq_emod_of_nonneg (by omega)]; omega
  obtain ⟨W, hW, hb, hz, d0, d1, d2, d3, d4, d5⟩ := box6 w (.string ⟨#[99, 108, 122]⟩) (.int .i64 rs) (.int .i64 rt) (.int .i64 rd) (.int .i64 (n : Int)) (.int .u32 (imm : Int)) 24
  have HB : Hid (Below w.heap.size w W) := hb
  generalize s % 32 = y at hm
  clear g1 g2
  clear hb hz hi hs ht hle
  go_enter Tryd.func25, Tryd.ntmps25
  go_wp2_with fail
  refine (K.out _).mono ?_
  rintro e w3 ⟨rfl, hb3⟩
  have HB3 : Hid (Below w.heap.size w w3) := below_tr HB.out hb3
  clear hb3
  go_wp2
  go_ret
  exact ⟨rfl, HB3.out⟩
set_option maxHeartbeats 1000000 in
theorem s25_clo (rs rt rd sa : Int) (imm s t : Nat) (hi : imm < 4294967296) (hs : s < 4294967296) (ht : t < 4294967296) (hsa : 0 ≤ sa ∧ sa < 32) (hrd : 0 ≤ rd ∧ rd < 32) (hle : sa ≤ rd ∨ True) (w : World) : Calls Tryd.prog 25 #[.agg #[.string ⟨#[99, 108, 111]⟩, .int .i64 rs, .int .i64 rt, .int .i64 rd, .int .i64 sa, .int .u32 (imm : Int)], .int .u32 (s : Int), .int .u32 (t : Int)] w fun e w' => e = .returned (.int .u32 ((leadN s 1) : Nat)) ∧ Below w.heap.size w w' := by
  have K : Hid (∀ w, Calls Tryd.prog 40 #[.agg #[.string ⟨#[99, 108, 111]⟩, .int .i64 rs, .int .i64 rt, .int .i64 rd, .int .i64 sa, .int .u32 (imm : Int)], .int .u32 (s : Int), .int .u32 (t : Int)] w fun e w' => e = .returned (.int .u32 ((leadN s 1) : Nat)) ∧ Below w.heap.size w w') := fun w => f40_clo rs rt rd sa imm s t hi hs ht hsa hrd hle w
  obtain ⟨o, ho⟩ : ∃ o, o = (leadN s 1) := ⟨_, rfl⟩
  rw [← ho] at K ⊢
  clear ho
  obtain ⟨g1, g2⟩ := hsa
  obtain ⟨n, rfl⟩ := Int.eq_ofNat_of_zero_le g1
  have hwu : IntKind.u64.wrap (n : Int) = (n : Int) := by rw [IntKind.wrap_u64]; omega
  have hm : (s : Int).tmod 32 = ((s % 32 : Nat) : Int) := by rw [Int.tmod_eq_emod_of_nonneg (by omega)]; omega
  obtain ⟨W, hW, hb, hz, d0, d1, d2, d3, d4, d5⟩ := box6 w (.string ⟨#[99, 108, 111]⟩) (.int .i64 rs) (.int .i64 rt) (.int .i64 rd) (.int .i64 (n : Int)) (.int .u32 (imm : Int)) 24
  have HB : Hid (Below w.heap.size w W) := hb
  generalize s % 32 = y at hm
  clear g1 g2
  clear hb hz hi hs ht hle
  go_enter Tryd.func25, Tryd.ntmps25
  go_wp2_with fail
  refine (K.out _).mono ?_
  rintro e w3 ⟨rfl, hb3⟩
  have HB3 : Hid (Below w.heap.size w w3) := below_tr HB.out hb3
  clear hb3
  go_wp2
  go_ret
  exact ⟨rfl, HB3.out⟩
set_option maxHeartbeats 1000000 in
theorem s25_mul (rs rt rd sa : Int) (imm s t : Nat) (hi : imm < 4294967296) (hs : s < 4294967296) (ht : t < 4294967296) (hsa : 0 ≤ sa ∧ sa < 32) (hrd : 0 ≤ rd ∧ rd < 32) (hle : sa ≤ rd ∨ True) (w : World) : Calls Tryd.prog 25 #[.agg #[.string ⟨#[109, 117, 108]⟩, .int .i64 rs, .int .i64 rt, .int .i64 rd, .int .i64 sa, .int .u32 (imm : Int)], .int .u32 (s : Int), .int .u32 (t : Int)] w fun e w' => e = .returned (.int .u32 ((s * t % 4294967296) : Nat)) ∧ Below w.heap.size w w' := by
  have K : Hid (∀ w, Calls Tryd.prog 40 #[.agg #[.string ⟨#[109, 117, 108]⟩, .int .i64 rs, .int .i64 rt, .int .i64 rd, .int .i64 sa, .int .u32 (imm : Int)], .int .u32 (s : Int), .int .u32 (t : Int)] w fun e w' => e = .returned (.int .u32 ((s * t % 4294967296) : Nat)) ∧ Below w.heap.size w w') := fun w => f40_mul rs rt rd sa imm s t hi hs ht hsa hrd hle w
  obtain ⟨o, ho⟩ : ∃ o, o = (s * t % 4294967296) := ⟨_, rfl⟩
  rw [← ho] at K ⊢
  clear ho
  obtain ⟨g1, g2⟩ := hsa
  obtain ⟨n, rfl⟩ := Int.eq_ofNat_of_zero_le g1
  have hwu : IntKind.u64.wrap (n : Int) = (n : Int) := by rw [IntKind.wrap_u64]; omega
  have hm : (s : Int).tmod 32 = ((s % 32 : Nat) : Int) := by rw [Int.tmod_eq_emod_of_nonneg (by omega)]; omega
  obtain ⟨W, hW, hb, hz, d0, d1, d2, d3, d4, d5⟩ := box6 w (.string ⟨#[109, 117, 108]⟩) (.int .i64 rs) (.int .i64 rt) (.int .i64 rd) (.int .i64 (n : Int)) (.int .u32 (imm : Int)) 24
  have HB : Hid (Below w.heap.size w W) := hb
  generalize s % 32 = y at hm
  clear g1 g2
  clear hb hz hi hs ht hle
  go_enter Tryd.func25, Tryd.ntmps25
  go_wp2_with fail
  refine (K.out _).mono ?_
  rintro e w3 ⟨rfl, hb3⟩
  have HB3 : Hid (Below w.heap.size w w3) := below_tr HB.out hb3
  clear hb3
  go_wp2
  go_ret
  exact ⟨rfl, HB3.out⟩
theorem aidx_lit {n : ByteArray} {k : Nat} (h : aIdx n = some k) : ∃ hk : k < aL.length, n = aL[k].1 := by
  obtain ⟨hk, hn⟩ := aidx_name h
  exact ⟨hk, toList_inj hn.symm⟩
theorem aidx_ne {n : ByteArray} (h : aIdx n = none) {k : Nat} (hk : k < aL.length) : ¬ n = aL[k].1 := fun e => by
  have h1 := List.findIdx?_eq_none_iff.1 h aL[k] (List.getElem_mem hk)
  rw [aNm, e] at h1
  exact absurd h1 (by rw [beq_self_eq_true]; decide)
theorem kn_add (w : World) : Calls Tryd.prog 11 #[.string ⟨#[97, 100, 100]⟩] w fun e w' => e = .returned (.bool true) ∧ w' = w := by
  go_enter Tryd.func11, Tryd.ntmps11
  go_wp2
  go_ret
  exact ⟨rfl, rfl⟩
theorem kn_sub (w : World) : Calls Tryd.prog 11 #[.string ⟨#[115, 117, 98]⟩] w fun e w' => e = .returned (.bool true) ∧ w' = w := by
  go_enter Tryd.func11, Tryd.ntmps11
  go_wp2
  go_ret
  exact ⟨rfl, rfl⟩
theorem kn_addi (w : World) : Calls Tryd.prog 11 #[.string ⟨#[97, 100, 100, 105]⟩] w fun e w' => e = .returned (.bool true) ∧ w' = w := by
  go_enter Tryd.func11, Tryd.ntmps11
  go_wp2
  go_ret
  exact ⟨rfl, rfl⟩
theorem kn_addu (w : World) : Calls Tryd.prog 11 #[.string ⟨#[97, 100, 100, 117]⟩] w fun e w' => e = .returned (.bool true) ∧ w' = w := by
  go_enter Tryd.func11, Tryd.ntmps11
  go_wp2
  go_ret
  exact ⟨rfl, rfl⟩
theorem kn_subu (w : World) : Calls Tryd.prog 11 #[.string ⟨#[115, 117, 98, 117]⟩] w fun e w' => e = .returned (.bool true) ∧ w' = w := by
  go_enter Tryd.func11, Tryd.ntmps11
  go_wp2
  go_ret
  exact ⟨rfl, rfl⟩
theorem kn_addiu (w : World) : Calls Tryd.prog 11 #[.string ⟨#[97, 100, 100, 105, 117]⟩] w fun e w' => e = .returned (.bool true) ∧ w' = w := by
  go_enter Tryd.func11, Tryd.ntmps11
  go_wp2
  go_ret
  exact ⟨rfl, rfl⟩
theorem kn_and (w : World) : Calls Tryd.prog 11 #[.string ⟨#[97, 110, 100]⟩] w fun e w' => e = .returned (.bool true) ∧ w' = w := by
  go_enter Tryd.func11, Tryd.ntmps11
  go_wp2
  go_ret
  exact ⟨rfl, rfl⟩
theorem kn_or (w : World) : Calls Tryd.prog 11 #[.string ⟨#[111, 114]⟩] w fun e w' => e = .returned (.bool true) ∧ w' = w := by
  go_enter Tryd.func11, Tryd.ntmps11
  go_wp2
  go_ret
  exact ⟨rfl, rfl⟩
theorem kn_xor (w : World) : Calls Tryd.prog 11 #[.string ⟨#[120, 111, 114]⟩] w fun e w' => e = .returned (.bool true) ∧ w' = w := by
  go_enter Tryd.func11, Tryd.ntmps11
  go_wp2
  go_ret
  exact ⟨rfl, rfl⟩
theorem kn_nor (w : World) : Calls Tryd.prog 11 #[.string ⟨#[110, 111, 114]⟩] w fun e w' => e = .returned (.bool true) ∧ w' = w := by
  go_enter Tryd.func11, Tryd.ntmps11
  go_wp2
  go_ret
  exact ⟨rfl, rfl⟩
theorem kn_andi (w : World) : Calls Tryd.prog 11 #[.string ⟨#[97, 110, 100, 105]⟩] w fun e w' => e = .returned (.bool true) ∧ w' = w := by
  go_enter Tryd.func11, Tryd.ntmps11
  go_wp2
  go_ret
  exact ⟨rfl, rfl⟩
theorem kn_ori (w : World) : Calls Tryd.prog 11 #[.string ⟨#[111, 114, 105]⟩] w fun e w' => e = .returned (.bool true) ∧ w' = w := by
  go_enter Tryd.func11, Tryd.ntmps11
  go_wp2
  go_ret
  exact ⟨rfl, rfl⟩
theorem kn_xori (w : World) : Calls Tryd.prog 11 #[.string ⟨#[120, 111, 114, 105]⟩] w fun e w' => e = .returned (.bool true) ∧ w' = w := by
  go_enter Tryd.func11, Tryd.ntmps11
  go_wp2
  go_ret
  exact ⟨rfl, rfl⟩
theorem kn_slt (w : World) : Calls Tryd.prog 11 #[.string ⟨#[115, 108, 116]⟩] w fun e w' => e = .returned (.bool true) ∧ w' = w := by
  go_enter Tryd.func11, Tryd.ntmps11
  go_wp2
  go_ret
  exact ⟨rfl, rfl⟩
theorem kn_sltu (w : World) : Calls Tryd.prog 11 #[.string ⟨#[115, 108, 116, 117]⟩] w fun e w' => e = .returned (.bool true) ∧ w' = w := by
  go_enter Tryd.func11, Tryd.ntmps11
  go_wp2
  go_ret
  exact ⟨rfl, rfl⟩
theorem kn_slti (w : World) : Calls Tryd.prog 11 #[.string ⟨#[115, 108, 116, 105]⟩] w fun e w' => e = .returned (.bool true) ∧ w' = w := by
  go_enter Tryd.func11, Tryd.ntmps11
  go_wp2
  go_ret
  exact ⟨rfl, rfl⟩
theorem kn_sltiu (w : World) : Calls Tryd.prog 11 #[.string ⟨#[115, 108, 116, 105, 117]⟩] w fun e w' => e = .returned (.bool true) ∧ w' = w := by
  go_enter Tryd.func11, Tryd.ntmps11
  go_wp2
  go_ret
  exact ⟨rfl, rfl⟩
theorem kn_lui (w : World) : Calls Tryd.prog 11 #[.string ⟨#[108, 117, 105]⟩] w fun e w' => e = .returned (.bool true) ∧ w' = w := by
  go_enter Tryd.func11, Tryd.ntmps11
  go_wp2
  go_ret
  exact ⟨rfl, rfl⟩
theorem kn_sll (w : World) : Calls Tryd.prog 11 #[.string ⟨#[115, 108, 108]⟩] w fun e w' => e = .returned (.bool true) ∧ w' = w := by
  go_enter Tryd.func11, Tryd.ntmps11
  go_wp2
  go_ret
  exact ⟨rfl, rfl⟩
theorem kn_srl (w : World) : Calls Tryd.prog 11 #[.string ⟨#[115, 114, 108]⟩] w fun e w' => e = .returned (.bool true) ∧ w' = w := by
  go_enter Tryd.func11, Tryd.ntmps11
  go_wp2
  go_ret
  exact ⟨rfl, rfl⟩
theorem kn_sra (w : World) : Calls Tryd.prog 11 #[.string ⟨#[115, 114, 97]⟩] w fun e w' => e = .returned (.bool true) ∧ w' = w := by
  go_enter Tryd.func11, Tryd.ntmps11
  go_wp2
  go_ret
  exact ⟨rfl, rfl⟩
theorem kn_sllv (w : World) : Calls Tryd.prog 11 #[.string ⟨#[115, 108, 108, 118]⟩] w fun e w' => e = .returned (.bool true) ∧ w' = w := by
  go_enter Tryd.func11, Tryd.ntmps11
  go_wp2
  go_ret
  exact ⟨rfl, rfl⟩
theorem kn_srlv (w : World) : Calls Tryd.prog 11 #[.string ⟨#[115, 114, 108, 118]⟩] w fun e w' => e = .returned (.bool true) ∧ w' = w := by
  go_enter Tryd.func11, Tryd.ntmps11
  go_wp2
  go_ret
  exact ⟨rfl, rfl⟩
theorem kn_srav (w : World) : Calls Tryd.prog 11 #[.string ⟨#[115, 114, 97, 118]⟩] w fun e w' => e = .returned (.bool true) ∧ w' = w := by
  go_enter Tryd.func11, Tryd.ntmps11
  go_wp2
  go_ret
  exact ⟨rfl, rfl⟩
theorem kn_rotr (w : World) : Calls Tryd.prog 11 #[.string ⟨#[114, 111, 116, 114]⟩] w fun e w' => e = .returned (.bool true) ∧ w' = w := by
  go_enter Tryd.func11, Tryd.ntmps11
  go_wp2
  go_ret
  exact ⟨rfl, rfl⟩
theorem kn_rotrv (w : World) : Calls Tryd.prog 11 #[.string ⟨#[114, 111, 116, 114, 118]⟩] w fun e w' => e = .returned (.bool true) ∧ w' = w := by
  go_enter Tryd.func11, Tryd.ntmps11
  go_wp2
  go_ret
  exact ⟨rfl, rfl⟩
theorem kn_mul (w : World) : Calls Tryd.prog 11 #[.string ⟨#[109, 117, 108]⟩] w fun e w' => e = .returned (.bool true) ∧ w' = w := by
  go_enter Tryd.func11, Tryd.ntmps11
  go_wp2
  go_ret
  exact ⟨rfl, rfl⟩
theorem kn_clz (w : World) : Calls Tryd.prog 11 #[.string ⟨#[99, 108, 122]⟩] w fun e w' => e = .returned (.bool true) ∧ w' = w := by
  go_enter Tryd.func11, Tryd.ntmps11
  go_wp2
  go_ret
  exact ⟨rfl, rfl⟩
theorem kn_clo (w : World) : Calls Tryd.prog 11 #[.string ⟨#[99, 108, 111]⟩] w fun e w' => e = .returned (.bool true) ∧ w' = w := by
  go_enter Tryd.func11, Tryd.ntmps11
  go_wp2
  go_ret
  exact ⟨rfl, rfl⟩
theorem kn_ext (w : World) : Calls Tryd.prog 11 #[.string ⟨#[101, 120, 116]⟩] w fun e w' => e = .returned (.bool true) ∧ w' = w := by
  go_enter Tryd.func11, Tryd.ntmps11
  go_wp2
  go_ret
  exact ⟨rfl, rfl⟩
theorem kn_ins (w : World) : Calls Tryd.prog 11 #[.string ⟨#[105, 110, 115]⟩] w fun e w' => e = .returned (.bool true) ∧ w' = w := by
  go_enter Tryd.func11, Tryd.ntmps11
  go_wp2
  go_ret
  exact ⟨rfl, rfl⟩
theorem kn_wsbh (w : World) : Calls Tryd.prog 11 #[.string ⟨#[119, 115, 98, 104]⟩] w fun e w' => e = .returned (.bool true) ∧ w' = w := by
  go_enter Tryd.func11, Tryd.ntmps11
  go_wp2
  go_ret
  exact ⟨rfl, rfl⟩
theorem kn_seb (w : World) : Calls Tryd.prog 11 #[.string ⟨#[115, 101, 98]⟩] w fun e w' => e = .returned (.bool true) ∧ w' = w := by
  go_enter Tryd.func11, Tryd.ntmps11
  go_wp2
  go_ret
  exact ⟨rfl, rfl⟩
theorem kn_seh (w : World) : Calls Tryd.prog 11 #[.string ⟨#[115, 101, 104]⟩] w fun e w' => e = .returned (.bool true) ∧ w' = w := by
  go_enter Tryd.func11, Tryd.ntmps11
  go_wp2
  go_ret
  exact ⟨rfl, rfl⟩
set_option maxHeartbeats 2000000 in
theorem kn_none (n : ByteArray) (h : aIdx n = none) (w : World) : Calls Tryd.prog 11 #[.string n] w fun e w' => e = .returned (.bool false) ∧ w' = w := by
  have e_add : (n.toList == [97, 100, 100]) = false := ne_lit (aidx_ne h (k := 0) (by rw [aL_len]; decide)) (by decide +kernel)
  have e_sub : (n.toList == [115, 117, 98]) = false := ne_lit (aidx_ne h (k := 1) (by rw [aL_len]; decide)) (by decide +kernel)
  have e_addi : (n.toList == [97, 100, 100, 105]) = false := ne_lit (aidx_ne h (k := 2) (by rw [aL_len]; decide)) (by decide +kernel)
  have e_addu : (n.toList == [97, 100, 100, 117]) = false := ne_lit (aidx_ne h (k := 3) (by rw [aL_len]; decide)) (by decide +kernel)
  have e_subu : (n.toList == [115, 117, 98, 117]) = false := ne_lit (aidx_ne h (k := 4) (by rw [aL_len]; decide)) (by decide +kernel)
  have e_addiu : (n.toList == [97, 100, 100, 105, 117]) = false := ne_lit (aidx_ne h (k := 5) (by rw [aL_len]; decide)) (by decide +kernel)
  have e_and : (n.toList == [97, 110, 100]) = false := ne_lit (aidx_ne h (k := 6) (by rw [aL_len]; decide)) (by decide +kernel)
  have e_or : (n.toList == [111, 114]) = false := ne_lit (aidx_ne h (k := 7) (by rw [aL_len]; decide)) (by decide +kernel)
  have e_xor : (n.toList == [120, 111, 114]) = false := ne_lit (aidx_ne h (k := 8) (by rw [aL_len]; decide)) (by decide +kernel)
  have e_nor : (n.toList == [110, 111, 114]) = false := ne_lit (aidx_ne h (k := 9) (by rw [aL_len]; decide)) (by decide +kernel)
  have e_andi : (n.toList == [97, 110, 100, 105]) = false := ne_lit (aidx_ne h (k := 10) (by rw [aL_len]; decide)) (by decide +kernel)
  have e_ori : (n.toList == [111, 114, 105]) = false := ne_lit (aidx_ne h (k := 11) (by rw [aL_len]; decide)) (by decide +kernel)
  have e_xori : (n.toList == [120, 111, 114, 105]) = false := ne_lit (aidx_ne h (k := 12) (by rw [aL_len]; decide)) (by decide +kernel)
  have e_slt : (n.toList == [115, 108, 116]) = false := ne_lit (aidx_ne h (k := 13) (by rw [aL_len]; decide)) (by decide +kernel)
  have e_sltu : (n.toList == [115, 108, 116, 117]) = false := ne_lit (aidx_ne h (k := 14) (by rw [aL_len]; decide)) (by decide +kernel)
  have e_slti : (n.toList == [115, 108, 116, 105]) = false := ne_lit (aidx_ne h (k := 15) (by rw [aL_len]; decide)) (by decide +kernel)
  have e_sltiu : (n.toList == [115, 108, 116, 105, 117]) = false := ne_lit (aidx_ne h (k := 16) (by rw [aL_len]; decide)) (by decide +kernel)
  have e_lui : (n.toList == [108, 117, 105]) = false := ne_lit (aidx_ne h (k := 17) (by rw [aL_len]; decide)) (by decide +kernel)
  have e_sll : (n.toList == [115, 108, 108]) = false := ne_lit (aidx_ne h (k := 18) (by rw [aL_len]; decide)) (by decide +kernel)
  have e_srl : (n.toList == [115, 114, 108]) = false := ne_lit (aidx_ne h (k := 19) (by rw [aL_len]; decide)) (by decide +kernel)
  have e_sra : (n.toList == [115, 114, 97]) = false := ne_lit (aidx_ne h (k := 20) (by rw [aL_len]; decide)) (by decide +kernel)
  have e_sllv : (n.toList == [115, 108, 108, 118]) = false := ne_lit (aidx_ne h (k := 21) (by rw [aL_len]; decide)) (by decide +kernel)
  have e_srlv : (n.toList == [115, 114, 108, 118]) = false := ne_lit (aidx_ne h (k := 22) (by rw [aL_len]; decide)) (by decide +kernel)
  have e_srav : (n.toList == [115, 114, 97, 118]) = false := ne_lit (aidx_ne h (k := 23) (by rw [aL_len]; decide)) (by decide +kernel)
  have e_rotr : (n.toList == [114, 111, 116, 114]) = false := ne_lit (aidx_ne h (k := 24) (by rw [aL_len]; decide)) (by decide +kernel)
  have e_rotrv : (n.toList == [114, 111, 116, 114, 118]) = false := ne_lit (aidx_ne h (k := 25) (by rw [aL_len]; decide)) (by decide +kernel)
  have e_mul : (n.toList == [109, 117, 108]) = false := ne_lit (aidx_ne h (k := 26) (by rw [aL_len]; decide)) (by decide +kernel)
  have e_clz : (n.toList == [99, 108, 122]) = false := ne_lit (aidx_ne h (k := 27) (by rw [aL_len]; decide)) (by decide +kernel)
  have e_clo : (n.toList == [99, 108, 111]) = false := ne_lit (aidx_ne h (k := 28) (by rw [aL_len]; decide)) (by decide +kernel)
  have e_ext : (n.toList == [101, 120, 116]) = false := ne_lit (aidx_ne h (k := 29) (by rw [aL_len]; decide)) (by decide +kernel)
  have e_ins : (n.toList == [105, 110, 115]) = false := ne_lit (aidx_ne h (k := 30) (by rw [aL_len]; decide)) (by decide +kernel)
  have e_wsbh : (n.toList == [119, 115, 98, 104]) = false := ne_lit (aidx_ne h (k := 31) (by rw [aL_len]; decide)) (by decide +kernel)
  have e_seb : (n.toList == [115, 101, 98]) = false := ne_lit (aidx_ne h (k := 32) (by rw [aL_len]; decide)) (by decide +kernel)
  have e_seh : (n.toList == [115, 101, 104]) = false := ne_lit (aidx_ne h (k := 33) (by rw [aL_len]; decide)) (by decide +kernel)
  clear h
  go_enter Tryd.func11, Tryd.ntmps11
  go_wp2
  go_ret
  exact ⟨rfl, rfl⟩
theorem known11 (n : ByteArray) (w : World) : Calls Tryd.prog 11 #[.string n] w fun e w' => e = .returned (.bool (aIdx n).isSome) ∧ w' = w := by
  cases h : aIdx n with
  | none => exact kn_none n h w
  | some k =>
    obtain ⟨hk, e⟩ := aidx_lit h
    clear h
    subst e
    match k, hk with
    | 0, _ => exact kn_add w
    | 1, _ => exact kn_sub w
    | 2, _ => exact kn_addi w
    | 3, _ => exact kn_addu w
    | 4, _ => exact kn_subu w
    | 5, _ => exact kn_addiu w
    | 6, _ => exact kn_and w
    | 7, _ => exact kn_or w
    | 8, _ => exact kn_xor w
    | 9, _ => exact kn_nor w
    | 10, _ => exact kn_andi w
    | 11, _ => exact kn_ori w
    | 12, _ => exact kn_xori w
    | 13, _ => exact kn_slt w
    | 14, _ => exact kn_sltu w
    | 15, _ => exact kn_slti w
    | 16, _ => exact kn_sltiu w
    | 17, _ => exact kn_lui w
    | 18, _ => exact kn_sll w
    | 19, _ => exact kn_srl w
    | 20, _ => exact kn_sra w
    | 21, _ => exact kn_sllv w
    | 22, _ => exact kn_srlv w
    | 23, _ => exact kn_srav w
    | 24, _ => exact kn_rotr w
    | 25, _ => exact kn_rotrv w
    | 26, _ => exact kn_mul w
    | 27, _ => exact kn_clz w
    | 28, _ => exact kn_clo w
    | 29, _ => exact kn_ext w
    | 30, _ => exact kn_ins w
    | 31, _ => exact kn_wsbh w
    | 32, _ => exact kn_seb w
    | 33, _ => exact kn_seh w
    | k + 34, h => exact absurd h (by rw [aL_len]; omega)
end Go.Proofs.YtogokbefpgaciaaDoor
