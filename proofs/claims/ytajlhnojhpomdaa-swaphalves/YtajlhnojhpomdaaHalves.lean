/- What is proved here: the walk of the law SwapHalves over any two texts of four bytes. -/
import Derived.Deep.QuietTactic
import Derived.BigQuiet
import Derived.RegionTactic
import Derived.Test.YtajlhnojhpomdaaAwake
import Derived.Test.YtajlhnojhpomdaaBackPlain
namespace Go.Proofs.Ytajlhnojhpomdaa
open Go.RowKit Go.Shelf

/-- The world behind the two boxes. -/
theorem conv4 (W : World) (B : Nat) (a0 a1 a2 a3 : UInt8) (h : W.heap[B]? = some (.cells #[.int .u8 (a0.toNat : Int), .int .u8 (a1.toNat : Int), .int .u8 (a2.toNat : Int), .int .u8 (a3.toNat : Int)] 35 (0, 0))) :
    (convert 36 9 (.slice (some ⟨B, 0, none⟩) 4 4)).run Try.prog W = .ok (.string ⟨#[a0, a1, a2, a3]⟩) W := by
  refine run_convert_bytes_back (P := Try.prog) W 36 9 5 ⟨B, 0, none⟩ 4 [a0, a1, a2, a3] Try.underlying36 Try.underlying5 Try.underlying9 ?_
  intro j hj
  have ha : (Addr.add ⟨B, 0, none⟩ j) = ⟨B, j, none⟩ := by unfold Addr.add; split <;> simp_all
  rw [ha]
  have hc : j = 0 ∨ j = 1 ∨ j = 2 ∨ j = 3 := by simp at hj; omega
  rcases hc with rfl | rfl | rfl | rfl <;> simp [World.cell?, h]

set_option maxHeartbeats 1000000 in
theorem halves_walk (a0 a1 a2 a3 b0 b1 b2 b3 : UInt8) (w : World) :
    Calls Try.prog 7 #[.agg #[byteC a0, byteC a1, byteC a2, byteC a3], .agg #[byteC b0, byteC b1, byteC b2, byteC b3]] w fun e w' => e = .returned (.bool true) ∧ Below w.heap.size w w' := by
  simp only [byteC]
  have hA := conv4 (((w.alloc (.cells #[.int .u8 (a0.toNat : Int), .int .u8 (a1.toNat : Int), .int .u8 (a2.toNat : Int), .int .u8 (a3.toNat : Int)] 35)).alloc (.cells #[.int .u8 (b0.toNat : Int), .int .u8 (b1.toNat : Int), .int .u8 (b2.toNat : Int), .int .u8 (b3.toNat : Int)] 35)).drew) w.heap.size a0 a1 a2 a3 ((Below.heap_alloc _ _ _ (by simp)).trans (World.alloc_heap_new w _))
  have hB := conv4 (((w.alloc (.cells #[.int .u8 (a0.toNat : Int), .int .u8 (a1.toNat : Int), .int .u8 (a2.toNat : Int), .int .u8 (a3.toNat : Int)] 35)).alloc (.cells #[.int .u8 (b0.toNat : Int), .int .u8 (b1.toNat : Int), .int .u8 (b2.toNat : Int), .int .u8 (b3.toNat : Int)] 35)).drew) (w.heap.size + 1) b0 b1 b2 b3 (by
    have h := World.alloc_heap_new (w.alloc (.cells #[.int .u8 (a0.toNat : Int), .int .u8 (a1.toNat : Int), .int .u8 (a2.toNat : Int), .int .u8 (a3.toNat : Int)] 35)) (.cells #[.int .u8 (b0.toNat : Int), .int .u8 (b1.toNat : Int), .int .u8 (b2.toNat : Int), .int .u8 (b3.toNat : Int)] 35)
    rw [World.size_alloc] at h
    exact h)
  go_enter Try.func7, Try.ntmps7
  go_wp2
  go_region
  all_goals
    have hb0 : Below w.heap.size w ((w.alloc (.cells #[.int .u8 (a0.toNat : Int), .int .u8 (a1.toNat : Int), .int .u8 (a2.toNat : Int), .int .u8 (a3.toNat : Int)] 35)).alloc (.cells #[.int .u8 (b0.toNat : Int), .int .u8 (b1.toNat : Int), .int .u8 (b2.toNat : Int), .int .u8 (b3.toNat : Int)] 35)).drew := (((Below.refl _ _).alloc (Nat.le_refl _) _).alloc (by simp) _).drew
    clear hA hB
    generalize ((w.alloc (.cells #[.int .u8 (a0.toNat : Int), .int .u8 (a1.toNat : Int), .int .u8 (a2.toNat : Int), .int .u8 (a3.toNat : Int)] 35)).alloc (.cells #[.int .u8 (b0.toNat : Int), .int .u8 (b1.toNat : Int), .int .u8 (b2.toNat : Int), .int .u8 (b3.toNat : Int)] 35)).drew = w0 at *
    have hS : (ByteArray.mk #[a0, a1, a2, a3]).size = 4 := rfl
    have hT : (ByteArray.mk #[b0, b1, b2, b3]).size = 4 := rfl
    generalize ByteArray.mk #[a0, a1, a2, a3] = S at *
    generalize ByteArray.mk #[b0, b1, b2, b3] = T at *
    have c9a : Hid (∀ w, Calls Try.prog 9 #[.string (S ++ T)] w fun e w' => e = .returned (.int .u64 ((beS (S ++ T) : Nat) : Int)) ∧ Below w.heap.size w w') := fun w => be_any (S ++ T) w
    have c11a : Hid (∀ w, Calls Try.prog 11 #[.string (S ++ T)] w fun e w' => e = .returned (.int .u64 ((leS (S ++ T) : Nat) : Int)) ∧ Below w.heap.size w w') := fun w => le_any (S ++ T) w
    have c13 : Hid (∀ w, Calls Try.prog 13 #[.int .u64 ((beS (S ++ T) : Nat) : Int), .int .i64 4] w fun e w' => e = .returned (.string T) ∧ Below w.heap.size w w') := fun w => by
      have h := putBe_any (beS (S ++ T)) 4 w
      rw [(halves_put S T hS hT).1] at h
      exact h
    have c15 : Hid (∀ w, Calls Try.prog 15 #[.int .u64 ((leS (S ++ T) : Nat) : Int), .int .i64 4] w fun e w' => e = .returned (.string S) ∧ Below w.heap.size w w') := fun w => by
      have h := putLe_any (leS (S ++ T)) 4 w
      rw [(halves_put S T hS hT).2] at h
      exact h
    obtain ⟨-, -, s3, s4, -⟩ := beS_four S hS
    obtain ⟨-, -, t3, t4, -⟩ := beS_four T hT
    have hor1 := or_halves _ _ s3 t3
    have hor2 := or_halves _ _ t4 s4
    rw [← (halves_be S T hS hT).1] at hor1
    rw [← (halves_be S T hS hT).2] at hor2
    generalize beS (S ++ T) = BB at *
    generalize leS (S ++ T) = LL at *
    clear s3 s4 t3 t4
    go_wp2_with fail
    refine (c9a.out _).mono ?_
    rintro e w1 ⟨rfl, hb1⟩
    go_wp2_with fail
    refine (be_any S _).mono ?_
    rintro e w2 ⟨rfl, hb2⟩
    go_wp2_with fail
    refine (be_any T _).mono ?_
    rintro e w3 ⟨rfl, hb3⟩
    go_wp2_with fail
    refine (c11a.out _).mono ?_
    rintro e w4 ⟨rfl, hb4⟩
    go_wp2_with fail
    refine (le_any T _).mono ?_
    rintro e w5 ⟨rfl, hb5⟩
    go_wp2_with fail
    refine (le_any S _).mono ?_
    rintro e w6 ⟨rfl, hb6⟩
    go_wp2_with fail
    refine (c9a.out _).mono ?_
    rintro e w7 ⟨rfl, hb7⟩
    go_wp2_with fail
    refine (c13.out _).mono ?_
    rintro e w8 ⟨rfl, hb8⟩
    go_wp2_with fail
    refine (c11a.out _).mono ?_
    rintro e w9 ⟨rfl, hb9⟩
    go_wp2_with fail
    refine (c15.out _).mono ?_
    rintro e w10 ⟨rfl, hb10⟩
    go_wp2_with fail
    refine (awake_any _).mono ?_
    rintro e w11 ⟨rfl, hb11⟩
    go_wp2
    go_ret
    have h1 := hb0.trans (hb1.mono hb0.size)
    have h2 := h1.trans (hb2.mono h1.size)
    have h3 := h2.trans (hb3.mono h2.size)
    have h4 := h3.trans (hb4.mono h3.size)
    have h5 := h4.trans (hb5.mono h4.size)
    have h6 := h5.trans (hb6.mono h5.size)
    have h7 := h6.trans (hb7.mono h6.size)
    have h8 := h7.trans (hb8.mono h7.size)
    have h9 := h8.trans (hb9.mono h8.size)
    have h10 := h9.trans (hb10.mono h9.size)
    exact ⟨rfl, h10.trans (hb11.mono h10.size)⟩
end Go.Proofs.Ytajlhnojhpomdaa
