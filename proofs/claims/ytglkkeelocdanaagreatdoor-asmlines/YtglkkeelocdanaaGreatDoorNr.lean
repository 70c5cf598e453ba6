/- What is proved here: an instruction made of a line's numbers: the document's. -/
import Derived.Test.YtglkkeelocdanaaGreatDoorNp
import Derived.Test.YtglkkeelocdanaaGreatDoorNn
import Derived.LoopTactic
namespace Go.Proofs.YtglkkeelocdanaaGreatDoor
open Go.RowKit
set_option linter.unusedVariables false
set_option linter.unusedSimpArgs false
set_option maxRecDepth 100000
def imJ (v : Int) : Nat := (v % 67108864).toNat
theorem imJ_and (v : Int) : bits .and .u32 (v % 4294967296) 67108863 = (imJ v : Int) := by
  obtain ⟨m, hm⟩ : ∃ m : Nat, v % 4294967296 = (m : Int) := ⟨(v % 4294967296).toNat, by omega⟩
  rw [hm]
  have e := and_u32 m 67108863 (by omega) (by decide)
  rw [show (67108863 : Int) = ((67108863 : Nat) : Int) from rfl, e]
  have e2 : m &&& 67108863 = m % 67108864 := Nat.and_two_pow_sub_one_eq_mod m 26
  rw [e2]
  unfold imJ
  omega
/-- An instruction of numbers in their order. -/
def madeI (n : ByteArray) (f : L8) (a b c x : Int) : In :=
  if f = [100, 115, 116] then ⟨n, b, c, a, 0, 0⟩ else
  if f = [100, 116, 97] then ⟨n, 0, b, a, c, 0⟩ else
  if f = [100, 116, 114] then ⟨n, 0, b, a, c, 0⟩ else
  if f = [100, 116, 115] then ⟨n, c, b, a, 0, 0⟩ else
  if f = [100, 116, 118] then ⟨n, c, b, a, 0, 0⟩ else
  if f = [100, 115] then ⟨n, b, 0, a, 0, 0⟩ else
  if f = [100, 115, 100] then ⟨n, b, 0, a, 0, 0⟩ else
  if f = [100, 116] then ⟨n, 0, b, a, 0, 0⟩ else
  if f = [116, 100] then ⟨n, 0, a, b, 0, 0⟩ else
  if f = [100] then ⟨n, 0, 0, a, 0, 0⟩ else
  if f = [115] then ⟨n, a, 0, 0, 0, 0⟩ else
  if f = [115, 116] then ⟨n, a, b, 0, 0, 0⟩ else
  if f = [99] then ⟨n, 0, 0, 0, 0, imJ a⟩ else
  if f = [106] then ⟨n, 0, 0, 0, 0, imJ a⟩ else
  if f = [115, 111] then ⟨n, a, 0, 0, 0, imI b⟩ else
  if f = [115, 116, 111] then ⟨n, a, b, 0, 0, imI c⟩ else
  if f = [116, 115, 105] then ⟨n, b, a, 0, 0, imI c⟩ else
  if f = [116, 105] then ⟨n, 0, a, 0, 0, imI b⟩ else
  if f = [116, 109] then ⟨n, c, a, 0, 0, imI b⟩ else
  if f = [116, 115, 120] then ⟨n, b, a, x, c, 0⟩ else
  ⟨n, 0, 0, 0, 0, 0⟩
set_option maxHeartbeats 1000000 in
theorem made_dst (n : ByteArray) (v : Value) (l : List Int) (w : World) (h : Ints w v l) : Calls Tryz.prog 18 #[.string n, .string ⟨#[100, 115, 116]⟩, v] w fun e w' => e = .returned (madeI n [100, 115, 116] (l.getD 0 0) (l.getD 1 0) (l.getD 2 0) (l.getD 3 0)).val ∧ Below w.heap.size w w' := by
  obtain ⟨W, hW⟩ : ∃ z, w.alloc (.cells #[.string ⟨#[]⟩, .int .i64 0, .int .i64 0, .int .i64 0, .int .i64 0, .int .u32 0] 24) = z := ⟨_, rfl⟩
  have hb : Below w.heap.size w W := by rw [← hW]; exact (Below.refl _ _).alloc (Nat.le_refl _) _
  have K0 := field47 v l 0 (by decide) W (h.keep hb)
  have K1 := field47 v l 1 (by decide) W (h.keep hb)
  have K2 := field47 v l 2 (by decide) W (h.keep hb)
  have HK3 : Hid (∀ w', Below w.heap.size w w' → Calls Tryz.prog 47 #[v, .int .i64 3] w' fun e w'' => e = .returned (.int .i64 (l.getD 3 0)) ∧ w'' = w') := fun w' h' => field47 v l 3 (by decide) w' (h.keep h')
  rw [show madeI n [100, 115, 116] (l.getD 0 0) (l.getD 1 0) (l.getD 2 0) (l.getD 3 0) = ⟨n, (l.getD 1 0), (l.getD 2 0),  (l.getD 0 0), 0, 0⟩ from rfl]
  have hsh : (∃ ad m c, v = .slice ad m c) := by rcases h with ⟨rfl, _⟩ | ⟨g, cap, rfl, _⟩ <;> exact ⟨_, _, _, rfl⟩
  obtain ⟨ad, m, cp, rfl⟩ := hsh
  generalize l.getD 0 0 = a at K0 ⊢
  generalize l.getD 1 0 = b at K1 ⊢
  generalize l.getD 2 0 = c at K2 ⊢
  generalize l.getD 3 0 = x at HK3 ⊢
  unfold In.val
  simp only
  clear h
  go_enter Tryz.func18, Tryz.ntmps18
  go_wp2_with fail
  refine K0.mono ?_
  rintro e w1 ⟨rfl, rfl⟩
  clear K0
  go_wp2_with fail
  refine K1.mono ?_
  rintro e w2 ⟨rfl, rfl⟩
  clear K1
  go_wp2_with fail
  refine K2.mono ?_
  rintro e w3 ⟨rfl, rfl⟩
  clear K2
  subst hW
  clear HK3 hb
  go_wp2
  refine bodyPost_ret (v := .agg #[.string n, .int .i64 (b), .int .i64 (c), .int .i64 (a), .int .i64 (0), .int .u32 ((0 : Nat) : Int)]) ?_ rfl ⟨rfl, ((Below.refl _ _).alloc (Nat.le_refl _) _).alloc (by simp) _⟩
  rw [results_cell1 rfl]; simp [go_sem]
set_option maxHeartbeats 1000000 in
theorem made_dta (n : ByteArray) (v : Value) (l : List Int) (w : World) (h : Ints w v l) : Calls Tryz.prog 18 #[.string n, .string ⟨#[100, 116, 97]⟩, v] w fun e w' => e = .returned (madeI n [100, 116, 97] (l.getD 0 0) (l.getD 1 0) (l.getD 2 0) (l.getD 3 0)).val ∧ Below w.heap.size w w' := by
  obtain ⟨W, hW⟩ : ∃ z, w.alloc (.cells #[.string ⟨#[]⟩, .int .i64 0, .int .i64 0, .int .i64 0, .int .i64 0, .int .u32 0] 24) = z := ⟨_, rfl⟩
  have hb : Below w.heap.size w W := by rw [← hW]; exact (Below.refl _ _).alloc (Nat.le_refl _) _
  have K0 := field47 v l 0 (by decide) W (h.keep hb)
  have K1 := field47 v l 1 (by decide) W (h.keep hb)
  have K2 := field47 v l 2 (by decide) W (h.keep hb)
  have HK3 : Hid (∀ w', Below w.heap.size w w' → Calls Tryz.prog 47 #[v, .int .i64 3] w' fun e w'' => e = .returned (.int .i64 (l.getD 3 0)) ∧ w'' = w') := fun w' h' => field47 v l 3 (by decide) w' (h.keep h')
  rw [show madeI n [100, 116, 97] (l.getD 0 0) (l.getD 1 0) (l.getD 2 0) (l.getD 3 0) = ⟨n, 0, (l.getD 1 0),  (l.getD 0 0), (l.getD 2 0), 0⟩ from rfl]
  have hsh : (∃ ad m c, v = .slice ad m c) := by rcases h with ⟨rfl, _⟩ | ⟨g, cap, rfl, _⟩ <;> exact ⟨_, _, _, rfl⟩
  obtain ⟨ad, m, cp, rfl⟩ := hsh
  generalize l.getD 0 0 = a at K0 ⊢
  generalize l.getD 1 0 = b at K1 ⊢
  generalize l.getD 2 0 = c at K2 ⊢
  generalize l.getD 3 0 = x at HK3 ⊢
  unfold In.val
  simp only
  clear h
  go_enter Tryz.func18, Tryz.ntmps18
  go_wp2_with fail
  refine K0.mono ?_
  rintro e w1 ⟨rfl, rfl⟩
  clear K0
  go_wp2_with fail
  refine K1.mono ?_
  rintro e w2 ⟨rfl, rfl⟩
  clear K1
  go_wp2_with fail
  refine K2.mono ?_
  rintro e w3 ⟨rfl, rfl⟩
  clear K2
  subst hW
  clear HK3 hb
  go_wp2
  refine bodyPost_ret (v := .agg #[.string n, .int .i64 (0), .int .i64 (b), .int .i64 (a), .int .i64 (c), .int .u32 ((0 : Nat) : Int)]) ?_ rfl ⟨rfl, ((Below.refl _ _).alloc (Nat.le_refl _) _).alloc (by simp) _⟩
  rw [results_cell1 rfl]; simp [go_sem]
set_option maxHeartbeats 1000000 in
theorem made_dtr (n : ByteArray) (v : Value) (l : List Int) (w : World) (h : Ints w v l) : Calls Tryz.prog 18 #[.string n, .string ⟨#[100, 116, 114]⟩, v] w fun e w' => e = .returned (madeI n [100, 116, 114] (l.getD 0 0) (l.getD 1 0) (l.getD 2 0) (l.getD 3 0)).val ∧ Below w.heap.size w w' := by
  obtain ⟨W, hW⟩ : ∃ z, w.alloc (.cells #[.string ⟨#[]⟩, .int .i64 0, .int .i64 0, .int .i64 0, .int .i64 0, .int .u32 0] 24) = z := ⟨_, rfl⟩
  have hb : Below w.heap.size w W := by rw [← hW]; exact (Below.refl _ _).alloc (Nat.le_refl _) _
  have K0 := field47 v l 0 (by decide) W (h.keep hb)
  have K1 := field47 v l 1 (by decide) W (h.keep hb)
  have K2 := field47 v l 2 (by decide) W (h.keep hb)
  have HK3 : Hid (∀ w', Below w.heap.size w w' → Calls Tryz.prog 47 #[v, .int .i64 3] w' fun e w'' => e = .returned (.int .i64 (l.getD 3 0)) ∧ w'' = w') := fun w' h' => field47 v l 3 (by decide) w' (h.keep h')
  rw [show madeI n [100, 116, 114] (l.getD 0 0) (l.getD 1 0) (l.getD 2 0) (l.getD 3 0) = ⟨n, 0, (l.getD 1 0),  (l.getD 0 0), (l.getD 2 0), 0⟩ from rfl]
  have hsh : (∃ ad m c, v = .slice ad m c) := by rcases h with ⟨rfl, _⟩ | ⟨g, cap, rfl, _⟩ <;> exact ⟨_, _, _, rfl⟩
  obtain ⟨ad, m, cp, rfl⟩ := hsh
  generalize l.getD 0 0 = a at K0 ⊢
  generalize l.getD 1 0 = b at K1 ⊢
  generalize l.getD 2 0 = c at K2 ⊢
  generalize l.getD 3 0 = x at HK3 ⊢
  unfold In.val
  simp only
  clear h
  go_enter Tryz.func18, Tryz.ntmps18
  go_wp2_with fail
  refine K0.mono ?_
  rintro e w1 ⟨rfl, rfl⟩
  clear K0
  go_wp2_with fail
  refine K1.mono ?_
  rintro e w2 ⟨rfl, rfl⟩
  clear K1
  go_wp2_with fail
  refine K2.mono ?_
  rintro e w3 ⟨rfl, rfl⟩
  clear K2
  subst hW
  clear HK3 hb
  go_wp2
  refine bodyPost_ret (v := .agg #[.string n, .int .i64 (0), .int .i64 (b), .int .i64 (a), .int .i64 (c), .int .u32 ((0 : Nat) : Int)]) ?_ rfl ⟨rfl, ((Below.refl _ _).alloc (Nat.le_refl _) _).alloc (by simp) _⟩
  rw [results_cell1 rfl]; simp [go_sem]
set_option maxHeartbeats 1000000 in
theorem made_dts (n : ByteArray) (v : Value) (l : List Int) (w : World) (h : Ints w v l) : Calls Tryz.prog 18 #[.string n, .string ⟨#[100, 116, 115]⟩, v] w fun e w' => e = .returned (madeI n [100, 116, 115] (l.getD 0 0) (l.getD 1 0) (l.getD 2 0) (l.getD 3 0)).val ∧ Below w.heap.size w w' := by
  obtain ⟨W, hW⟩ : ∃ z, w.alloc (.cells #[.string ⟨#[]⟩, .int .i64 0, .int .i64 0, .int .i64 0, .int .i64 0, .int .u32 0] 24) = z := ⟨_, rfl⟩
  have hb : Below w.heap.size w W := by rw [← hW]; exact (Below.refl _ _).alloc (Nat.le_refl _) _
  have K0 := field47 v l 0 (by decide) W (h.keep hb)
  have K1 := field47 v l 1 (by decide) W (h.keep hb)
  have K2 := field47 v l 2 (by decide) W (h.keep hb)
  have HK3 : Hid (∀ w', Below w.heap.size w w' → Calls Tryz.prog 47 #[v, .int .i64 3] w' fun e w'' => e = .returned (.int .i64 (l.getD 3 0)) ∧ w'' = w') := fun w' h' => field47 v l 3 (by decide) w' (h.keep h')
  rw [show madeI n [100, 116, 115] (l.getD 0 0) (l.getD 1 0) (l.getD 2 0) (l.getD 3 0) = ⟨n, (l.getD 2 0), (l.getD 1 0),  (l.getD 0 0), 0, 0⟩ from rfl]
  have hsh : (∃ ad m c, v = .slice ad m c) := by rcases h with ⟨rfl, _⟩ | ⟨g, cap, rfl, _⟩ <;> exact ⟨_, _, _, rfl⟩
  obtain ⟨ad, m, cp, rfl⟩ := hsh
  generalize l.getD 0 0 = a at K0 ⊢
  generalize l.getD 1 0 = b at K1 ⊢
  generalize l.getD 2 0 = c at K2 ⊢
  generalize l.getD 3 0 = x at HK3 ⊢
  unfold In.val
  simp only
  clear h
  go_enter Tryz.func18, Tryz.ntmps18
  go_wp2_with fail
  refine K0.mono ?_
  rintro e w1 ⟨rfl, rfl⟩
  clear K0
  go_wp2_with fail
  refine K1.mono ?_
  rintro e w2 ⟨rfl, rfl⟩
  clear K1
  go_wp2_with fail
  refine K2.mono ?_
  rintro e w3 ⟨rfl, rfl⟩
  clear K2
  subst hW
  clear HK3 hb
  go_wp2
  refine bodyPost_ret (v := .agg #[.string n, .int .i64 (c), .int .i64 (b), .int .i64 (a), .int .i64 (0), .int .u32 ((0 : Nat) : Int)]) ?_ rfl ⟨rfl, ((Below.refl _ _).alloc (Nat.le_refl _) _).alloc (by simp) _⟩
  rw [results_cell1 rfl]; simp [go_sem]
set_option maxHeartbeats 1000000 in
theorem made_dtv (n : ByteArray) (v : Value) (l : List Int) (w : World) (h : Ints w v l) : Calls Tryz.prog 18 #[.string n, .string ⟨#[100, 116, 118]⟩, v] w fun e w' => e = .returned (madeI n [100, 116, 118] (l.getD 0 0) (l.getD 1 0) (l.getD 2 0) (l.getD 3 0)).val ∧ Below w.heap.size w w' := by
  obtain ⟨W, hW⟩ : ∃ z, w.alloc (.cells #[.string ⟨#[]⟩, .int .i64 0, .int .i64 0, .int .i64 0, .int .i64 0, .int .u32 0] 24) = z := ⟨_, rfl⟩
  have hb : Below w.heap.size w W := by rw [← hW]; exact (Below.refl _ _).alloc (Nat.le_refl _) _
  have K0 := field47 v l 0 (by decide) W (h.keep hb)
  have K1 := field47 v l 1 (by decide) W (h.keep hb)
  have K2 := field47 v l 2 (by decide) W (h.keep hb)
  have HK3 : Hid (∀ w', Below w.heap.size w w' → Calls Tryz.prog 47 #[v, .int .i64 3] w' fun e w'' => e = .returned (.int .i64 (l.getD 3 0)) ∧ w'' = w') := fun w' h' => field47 v l 3 (by decide) w' (h.keep h')
  rw [show madeI n [100, 116, 118] (l.getD 0 0) (l.getD 1 0) (l.getD 2 0) (l.getD 3 0) = ⟨n, (l.getD 2 0), (l.getD 1 0),  (l.getD 0 0), 0, 0⟩ from rfl]
  have hsh : (∃ ad m c, v = .slice ad m c) := by rcases h with ⟨rfl, _⟩ | ⟨g, cap, rfl, _⟩ <;> exact ⟨_, _, _, rfl⟩
  obtain ⟨ad, m, cp, rfl⟩ := hsh
  generalize l.getD 0 0 = a at K0 ⊢
  generalize l.getD 1 0 = b at K1 ⊢
  generalize l.getD 2 0 = c at K2 ⊢
  generalize l.getD 3 0 = x at HK3 ⊢
  unfold In.val
  simp only
  clear h
  go_enter Tryz.func18, Tryz.ntmps18
  go_wp2_with fail
  refine K0.mono ?_
  rintro e w1 ⟨rfl, rfl⟩
  clear K0
  go_wp2_with fail
  refine K1.mono ?_
  rintro e w2 ⟨rfl, rfl⟩
  clear K1
  go_wp2_with fail
  refine K2.mono ?_
  rintro e w3 ⟨rfl, rfl⟩
  clear K2
  subst hW
  clear HK3 hb
  go_wp2
  refine bodyPost_ret (v := .agg #[.string n, .int .i64 (c), .int .i64 (b), .int .i64 (a), .int .i64 (0), .int .u32 ((0 : Nat) : Int)]) ?_ rfl ⟨rfl, ((Below.refl _ _).alloc (Nat.le_refl _) _).alloc (by simp) _⟩
  rw [results_cell1 rfl]; simp [go_sem]
set_option maxHeartbeats 1000000 in
theorem made_ds (n : ByteArray) (v : Value) (l : List Int) (w : World) (h : Ints w v l) : Calls Tryz.prog 18 #[.string n, .string ⟨#[100, 115]⟩, v] w fun e w' => e = .returned (madeI n [100, 115] (l.getD 0 0) (l.getD 1 0) (l.getD 2 0) (l.getD 3 0)).val ∧ Below w.heap.size w w' := by
  obtain ⟨W, hW⟩ : ∃ z, w.alloc (.cells #[.string ⟨#[]⟩, .int .i64 0, .int .i64 0, .int .i64 0, .int .i64 0, .int .u32 0] 24) = z := ⟨_, rfl⟩
  have hb : Below w.heap.size w W := by rw [← hW]; exact (Below.refl _ _).alloc (Nat.le_refl _) _
  have K0 := field47 v l 0 (by decide) W (h.keep hb)
  have K1 := field47 v l 1 (by decide) W (h.keep hb)
  have K2 := field47 v l 2 (by decide) W (h.keep hb)
  have HK3 : Hid (∀ w', Below w.heap.size w w' → Calls Tryz.prog 47 #[v, .int .i64 3] w' fun e w'' => e = .returned (.int .i64 (l.getD 3 0)) ∧ w'' = w') := fun w' h' => field47 v l 3 (by decide) w' (h.keep h')
  rw [show madeI n [100, 115] (l.getD 0 0) (l.getD 1 0) (l.getD 2 0) (l.getD 3 0) = ⟨n, (l.getD 1 0), 0,  (l.getD 0 0), 0, 0⟩ from rfl]
  have hsh : (∃ ad m c, v = .slice ad m c) := by rcases h with ⟨rfl, _⟩ | ⟨g, cap, rfl, _⟩ <;> exact ⟨_, _, _, rfl⟩
  obtain ⟨ad, m, cp, rfl⟩ := hsh
  generalize l.getD 0 0 = a at K0 ⊢
  generalize l.getD 1 0 = b at K1 ⊢
  generalize l.getD 2 0 = c at K2 ⊢
  generalize l.getD 3 0 = x at HK3 ⊢
  unfold In.val
  simp only
  clear h
  go_enter Tryz.func18, Tryz.ntmps18
  go_wp2_with fail
  refine K0.mono ?_
  rintro e w1 ⟨rfl, rfl⟩
  clear K0
  go_wp2_with fail
  refine K1.mono ?_
  rintro e w2 ⟨rfl, rfl⟩
  clear K1
  go_wp2_with fail
  refine K2.mono ?_
  rintro e w3 ⟨rfl, rfl⟩
  clear K2
  subst hW
  clear HK3 hb
  go_wp2
  refine bodyPost_ret (v := .agg #[.string n, .int .i64 (b), .int .i64 (0), .int .i64 (a), .int .i64 (0), .int .u32 ((0 : Nat) : Int)]) ?_ rfl ⟨rfl, ((Below.refl _ _).alloc (Nat.le_refl _) _).alloc (by simp) _⟩
  rw [results_cell1 rfl]; simp [go_sem]
set_option maxHeartbeats 1000000 in
theorem made_dsd (n : ByteArray) (v : Value) (l : List Int) (w : World) (h : Ints w v l) : Calls Tryz.prog 18 #[.string n, .string ⟨#[100, 115, 100]⟩, v] w fun e w' => e = .returned (madeI n [100, 115, 100] (l.getD 0 0) (l.getD 1 0) (l.getD 2 0) (l.getD 3 0)).val ∧ Below w.heap.size w w' := by
  obtain ⟨W, hW⟩ : ∃ z, w.alloc (.cells #[.string ⟨#[]⟩, .int .i64 0, .int .i64 0, .int .i64 0, .int .i64 0, .int .u32 0] 24) = z := ⟨_, rfl⟩
  have hb : Below w.heap.size w W := by rw [← hW]; exact (Below.refl _ _).alloc (Nat.le_refl _) _
  have K0 := field47 v l 0 (by decide) W (h.keep hb)
  have K1 := field47 v l 1 (by decide) W (h.keep hb)
  have K2 := field47 v l 2 (by decide) W (h.keep hb)
  have HK3 : Hid (∀ w', Below w.heap.size w w' → Calls Tryz.prog 47 #[v, .int .i64 3] w' fun e w'' => e = .returned (.int .i64 (l.getD 3 0)) ∧ w'' = w') := fun w' h' => field47 v l 3 (by decide) w' (h.keep h')
  rw [show madeI n [100, 115, 100] (l.getD 0 0) (l.getD 1 0) (l.getD 2 0) (l.getD 3 0) = ⟨n, (l.getD 1 0), 0,  (l.getD 0 0), 0, 0⟩ from rfl]
  have hsh : (∃ ad m c, v = .slice ad m c) := by rcases h with ⟨rfl, _⟩ | ⟨g, cap, rfl, _⟩ <;> exact ⟨_, _, _, rfl⟩
  obtain ⟨ad, m, cp, rfl⟩ := hsh
  generalize l.getD 0 0 = a at K0 ⊢
  generalize l.getD 1 0 = b at K1 ⊢
  generalize l.getD 2 0 = c at K2 ⊢
  generalize l.getD 3 0 = x at HK3 ⊢
  unfold In.val
  simp only
  clear h
  go_enter Tryz.func18, Tryz.ntmps18
  go_wp2_with fail
  refine K0.mono ?_
  rintro e w1 ⟨rfl, rfl⟩
  clear K0
  go_wp2_with fail
  refine K1.mono ?_
  rintro e w2 ⟨rfl, rfl⟩
  clear K1
  go_wp2_with fail
  refine K2.mono ?_
  rintro e w3 ⟨rfl, rfl⟩
  clear K2
  subst hW
  clear HK3 hb
  go_wp2
  refine bodyPost_ret (v := .agg #[.string n, .int .i64 (b), .int .i64 (0), .int .i64 (a), .int .i64 (0), .int .u32 ((0 : Nat) : Int)]) ?_ rfl ⟨rfl, ((Below.refl _ _).alloc (Nat.le_refl _) _).alloc (by simp) _⟩
  rw [results_cell1 rfl]; simp [go_sem]
set_option maxHeartbeats 1000000 in
theorem made_dt (n : ByteArray) (v : Value) (l : List Int) (w : World) (h : Ints w v l) : Calls Tryz.prog 18 #[.string n, .string ⟨#[100, 116]⟩, v] w fun e w' => e = .returned (madeI n [100, 116] (l.getD 0 0) (l.getD 1 0) (l.getD 2 0) (l.getD 3 0)).val ∧ Below w.heap.size w w' := by
  obtain ⟨W, hW⟩ : ∃ z, w.alloc (.cells #[.string ⟨#[]⟩, .int .i64 0, .int .i64 0, .int .i64 0, .int .i64 0, .int .u32 0] 24) = z := ⟨_, rfl⟩
  have hb : Below w.heap.size w W := by rw [← hW]; exact (Below.refl _ _).alloc (Nat.le_refl _) _
  have K0 := field47 v l 0 (by decide) W (h.keep hb)
  have K1 := field47 v l 1 (by decide) W (h.keep hb)
  have K2 := field47 v l 2 (by decide) W (h.keep hb)
  have HK3 : Hid (∀ w', Below w.heap.size w w' → Calls Tryz.prog 47 #[v, .int .i64 3] w' fun e w'' => e = .returned (.int .i64 (l.getD 3 0)) ∧ w'' = w') := fun w' h' => field47 v l 3 (by decide) w' (h.keep h')
  rw [show madeI n [100, 116] (l.getD 0 0) (l.getD 1 0) (l.getD 2 0) (l.getD 3 0) = ⟨n, 0, (l.getD 1 0),  (l.getD 0 0), 0, 0⟩ from rfl]
  have hsh : (∃ ad m c, v = .slice ad m c) := by rcases h with ⟨rfl, _⟩ | ⟨g, cap, rfl, _⟩ <;> exact ⟨_, _, _, rfl⟩
  obtain ⟨ad, m, cp, rfl⟩ := hsh
  generalize l.getD 0 0 = a at K0 ⊢
  generalize l.getD 1 0 = b at K1 ⊢
  generalize l.getD 2 0 = c at K2 ⊢
  generalize l.getD 3 0 = x at HK3 ⊢
  unfold In.val
  simp only
  clear h
  go_enter Tryz.func18, Tryz.ntmps18
  go_wp2_with fail
  refine K0.mono ?_
  rintro e w1 ⟨rfl, rfl⟩
  clear K0
  go_wp2_with fail
  refine K1.mono ?_
  rintro e w2 ⟨rfl, rfl⟩
  clear K1
  go_wp2_with fail
  refine K2.mono ?_
  rintro e w3 ⟨rfl, rfl⟩
  clear K2
  subst hW
  clear HK3 hb
  go_wp2
  refine bodyPost_ret (v := .agg #[.string n, .int .i64 (0), .int .i64 (b), .int .i64 (a), .int .i64 (0), .int .u32 ((0 : Nat) : Int)]) ?_ rfl ⟨rfl, ((Below.refl _ _).alloc (Nat.le_refl _) _).alloc (by simp) _⟩
  rw [results_cell1 rfl]; simp [go_sem]
set_option maxHeartbeats 1000000 in
theorem made_td (n : ByteArray) (v : Value) (l : List Int) (w : World) (h : Ints w v l) : Calls Tryz.prog 18 #[.string n, .string ⟨#[116, 100]⟩, v] w fun e w' => e = .returned (madeI n [116, 100] (l.getD 0 0) (l.getD 1 0) (l.getD 2 0) (l.getD 3 0)).val ∧ Below w.heap.size w w' := by
  obtain ⟨W, hW⟩ : ∃ z, w.alloc (.cells #[.string ⟨#[]⟩, .int .i64 0, .int .i64 0, .int .i64 0, .int .i64 0, .int .u32 0] 24) = z := ⟨_, rfl⟩
  have hb : Below w.heap.size w W := by rw [← hW]; exact (Below.refl _ _).alloc (Nat.le_refl _) _
  have K0 := field47 v l 0 (by decide) W (h.keep hb)
  have K1 := field47 v l 1 (by decide) W (h.keep hb)
  have K2 := field47 v l 2 (by decide) W (h.keep hb)
  have HK3 : Hid (∀ w', Below w.heap.size w w' → Calls Tryz.prog 47 #[v, .int .i64 3] w' fun e w'' => e = .returned (.int .i64 (l.getD 3 0)) ∧ w'' = w') := fun w' h' => field47 v l 3 (by decide) w' (h.keep h')
  rw [show madeI n [116, 100] (l.getD 0 0) (l.getD 1 0) (l.getD 2 0) (l.getD 3 0) = ⟨n, 0,  (l.getD 0 0), (l.getD 1 0), 0, 0⟩ from rfl]
  have hsh : (∃ ad m c, v = .slice ad m c) := by rcases h with ⟨rfl, _⟩ | ⟨g, cap, rfl, _⟩ <;> exact ⟨_, _, _, rfl⟩
  obtain ⟨ad, m, cp, rfl⟩ := hsh
  generalize l.getD 0 0 = a at K0 ⊢
  generalize l.getD 1 0 = b at K1 ⊢
  generalize l.getD 2 0 = c at K2 ⊢
  generalize l.getD 3 0 = x at HK3 ⊢
  unfold In.val
  simp only
  clear h
  go_enter Tryz.func18, Tryz.ntmps18
  go_wp2_with fail
  refine K0.mono ?_
  rintro e w1 ⟨rfl, rfl⟩
  clear K0
  go_wp2_with fail
  refine K1.mono ?_
  rintro e w2 ⟨rfl, rfl⟩
  clear K1
  go_wp2_with fail
  refine K2.mono ?_
  rintro e w3 ⟨rfl, rfl⟩
  clear K2
  subst hW
  clear HK3 hb
  go_wp2
  refine bodyPost_ret (v := .agg #[.string n, .int .i64 (0), .int .i64 (a), .int .i64 (b), .int .i64 (0), .int .u32 ((0 : Nat) : Int)]) ?_ rfl ⟨rfl, ((Below.refl _ _).alloc (Nat.le_refl _) _).alloc (by simp) _⟩
  rw [results_cell1 rfl]; simp [go_sem]
set_option maxHeartbeats 1000000 in
theorem made_d (n : ByteArray) (v : Value) (l : List Int) (w : World) (h : Ints w v l) : Calls Tryz.prog 18 #[.string n, .string ⟨#[100]⟩, v] w fun e w' => e = .returned (madeI n [100] (l.getD 0 0) (l.getD 1 0) (l.getD 2 0) (l.getD 3 0)).val ∧ Below w.heap.size w w' := by
  obtain ⟨W, hW⟩ : ∃ z, w.alloc (.cells #[.string ⟨#[]⟩, .int .i64 0, .int .i64 0, .int .i64 0, .int .i64 0, .int .u32 0] 24) = z := ⟨_, rfl⟩
  have hb : Below w.heap.size w W := by rw [← hW]; exact (Below.refl _ _).alloc (Nat.le_refl _) _
  have K0 := field47 v l 0 (by decide) W (h.keep hb)
  have K1 := field47 v l 1 (by decide) W (h.keep hb)
  have K2 := field47 v l 2 (by decide) W (h.keep hb)
  have HK3 : Hid (∀ w', Below w.heap.size w w' → Calls Tryz.prog 47 #[v, .int .i64 3] w' fun e w'' => e = .returned (.int .i64 (l.getD 3 0)) ∧ w'' = w') := fun w' h' => field47 v l 3 (by decide) w' (h.keep h')
  rw [show madeI n [100] (l.getD 0 0) (l.getD 1 0) (l.getD 2 0) (l.getD 3 0) = ⟨n, 0, 0,  (l.getD 0 0), 0, 0⟩ from rfl]
  have hsh : (∃ ad m c, v = .slice ad m c) := by rcases h with ⟨rfl, _⟩ | ⟨g, cap, rfl, _⟩ <;> exact ⟨_, _, _, rfl⟩
  obtain ⟨ad, m, cp, rfl⟩ := hsh
  generalize l.getD 0 0 = a at K0 ⊢
  generalize l.getD 1 0 = b at K1 ⊢
  generalize l.getD 2 0 = c at K2 ⊢
  generalize l.getD 3 0 = x at HK3 ⊢
  unfold In.val
  simp only
  clear h
  go_enter Tryz.func18, Tryz.ntmps18
  go_wp2_with fail
  refine K0.mono ?_
  rintro e w1 ⟨rfl, rfl⟩
  clear K0
  go_wp2_with fail
  refine K1.mono ?_
  rintro e w2 ⟨rfl, rfl⟩
  clear K1
  go_wp2_with fail
  refine K2.mono ?_
  rintro e w3 ⟨rfl, rfl⟩
  clear K2
  subst hW
  clear HK3 hb
  go_wp2
  refine bodyPost_ret (v := .agg #[.string n, .int .i64 (0), .int .i64 (0), .int .i64 (a), .int .i64 (0), .int .u32 ((0 : Nat) : Int)]) ?_ rfl ⟨rfl, ((Below.refl _ _).alloc (Nat.le_refl _) _).alloc (by simp) _⟩
  rw [results_cell1 rfl]; simp [go_sem]
set_option maxHeartbeats 1000000 in
theorem made_s (n : ByteArray) (v : Value) (l : List Int) (w : World) (h : Ints w v l) : Calls Tryz.prog 18 #[.string n, .string ⟨#[115]⟩, v] w fun e w' => e = .returned (madeI n [115] (l.getD 0 0) (l.getD 1 0) (l.getD 2 0) (l.getD 3 0)).val ∧ Below w.heap.size w w' := by
  obtain ⟨W, hW⟩ : ∃ z, w.alloc (.cells #[.string ⟨#[]⟩, .int .i64 0, .int .i64 0, .int .i64 0, .int .i64 0, .int .u32 0] 24) = z := ⟨_, rfl⟩
  have hb : Below w.heap.size w W := by rw [← hW]; exact (Below.refl _ _).alloc (Nat.le_refl _) _
  have K0 := field47 v l 0 (by decide) W (h.keep hb)
  have K1 := field47 v l 1 (by decide) W (h.keep hb)
  have K2 := field47 v l 2 (by decide) W (h.keep hb)
  have HK3 : Hid (∀ w', Below w.heap.size w w' → Calls Tryz.prog 47 #[v, .int .i64 3] w' fun e w'' => e = .returned (.int .i64 (l.getD 3 0)) ∧ w'' = w') := fun w' h' => field47 v l 3 (by decide) w' (h.keep h')
  rw [show madeI n [115] (l.getD 0 0) (l.getD 1 0) (l.getD 2 0) (l.getD 3 0) = ⟨n,  (l.getD 0 0), 0, 0, 0, 0⟩ from rfl]
  have hsh : (∃ ad m c, v = .slice ad m c) := by rcases h with ⟨rfl, _⟩ | ⟨g, cap, rfl, _⟩ <;> exact ⟨_, _, _, rfl⟩
  obtain ⟨ad, m, cp, rfl⟩ := hsh
  generalize l.getD 0 0 = a at K0 ⊢
  generalize l.getD 1 0 = b at K1 ⊢
  generalize l.getD 2 0 = c at K2 ⊢
  generalize l.getD 3 0 = x at HK3 ⊢
  unfold In.val
  simp only
  clear h
  go_enter Tryz.func18, Tryz.ntmps18
  go_wp2_with fail
  refine K0.mono ?_
  rintro e w1 ⟨rfl, rfl⟩
  clear K0
  go_wp2_with fail
  refine K1.mono ?_
  rintro e w2 ⟨rfl, rfl⟩
  clear K1
  go_wp2_with fail
  refine K2.mono ?_
  rintro e w3 ⟨rfl, rfl⟩
  clear K2
  subst hW
  clear HK3 hb
  go_wp2
  refine bodyPost_ret (v := .agg #[.string n, .int .i64 (a), .int .i64 (0), .int .i64 (0), .int .i64 (0), .int .u32 ((0 : Nat) : Int)]) ?_ rfl ⟨rfl, ((Below.refl _ _).alloc (Nat.le_refl _) _).alloc (by simp) _⟩
  rw [results_cell1 rfl]; simp [go_sem]
set_option maxHeartbeats 1000000 in
theorem made_st (n : ByteArray) (v : Value) (l : List Int) (w : World) (h : Ints w v l) : Calls Tryz.prog 18 #[.string n, .string ⟨#[115, 116]⟩, v] w fun e w' => e = .returned (madeI n [115, 116] (l.getD 0 0) (l.getD 1 0) (l.getD 2 0) (l.getD 3 0)).val ∧ Below w.heap.size w w' := by
  obtain ⟨W, hW⟩ : ∃ z, w.alloc (.cells #[.string ⟨#[]⟩, .int .i64 0, .int .i64 0, .int .i64 0, .int .i64 0, .int .u32 0] 24) = z := ⟨_, rfl⟩
  have hb : Below w.heap.size w W := by rw [← hW]; exact (Below.refl _ _).alloc (Nat.le_refl _) _
  have K0 := field47 v l 0 (by decide) W (h.keep hb)
  have K1 := field47 v l 1 (by decide) W (h.keep hb)
  have K2 := field47 v l 2 (by decide) W (h.keep hb)
  have HK3 : Hid (∀ w', Below w.heap.size w w' → Calls Tryz.prog 47 #[v, .int .i64 3] w' fun e w'' => e = .returned (.int .i64 (l.getD 3 0)) ∧ w'' = w') := fun w' h' => field47 v l 3 (by decide) w' (h.keep h')
  rw [show madeI n [115, 116] (l.getD 0 0) (l.getD 1 0) (l.getD 2 0) (l.getD 3 0) = ⟨n,  (l.getD 0 0), (l.getD 1 0), 0, 0, 0⟩ from rfl]
  have hsh : (∃ ad m c, v = .slice ad m c) := by rcases h with ⟨rfl, _⟩ | ⟨g, cap, rfl, _⟩ <;> exact ⟨_, _, _, rfl⟩
  obtain ⟨ad, m, cp, rfl⟩ := hsh
  generalize l.getD 0 0 = a at K0 ⊢
  generalize l.getD 1 0 = b at K1 ⊢
  generalize l.getD 2 0 = c at K2 ⊢
  generalize l.getD 3 0 = x at HK3 ⊢
  unfold In.val
  simp only
  clear h
  go_enter Tryz.func18, Tryz.ntmps18
  go_wp2_with fail
  refine K0.mono ?_
  rintro e w1 ⟨rfl, rfl⟩
  clear K0
  go_wp2_with fail
  refine K1.mono ?_
  rintro e w2 ⟨rfl, rfl⟩
  clear K1
  go_wp2_with fail
  refine K2.mono ?_
  rintro e w3 ⟨rfl, rfl⟩
  clear K2
  subst hW
  clear HK3 hb
  go_wp2
  refine bodyPost_ret (v := .agg #[.string n, .int .i64 (a), .int .i64 (b), .int .i64 (0), .int .i64 (0), .int .u32 ((0 : Nat) : Int)]) ?_ rfl ⟨rfl, ((Below.refl _ _).alloc (Nat.le_refl _) _).alloc (by simp) _⟩
  rw [results_cell1 rfl]; simp [go_sem]
set_option maxHeartbeats 1000000 in
theorem made_c (n : ByteArray) (v : Value) (l : List Int) (w : World) (h : Ints w v l) : Calls Tryz.prog 18 #[.string n, .string ⟨#[99]⟩, v] w fun e w' => e = .returned (madeI n [99] (l.getD 0 0) (l.getD 1 0) (l.getD 2 0) (l.getD 3 0)).val ∧ Below w.heap.size w w' := by
  obtain ⟨W, hW⟩ : ∃ z, w.alloc (.cells #[.string ⟨#[]⟩, .int .i64 0, .int .i64 0, .int .i64 0, .int .i64 0, .int .u32 0] 24) = z := ⟨_, rfl⟩
  have hb : Below w.heap.size w W := by rw [← hW]; exact (Below.refl _ _).alloc (Nat.le_refl _) _
  have K0 := field47 v l 0 (by decide) W (h.keep hb)
  have K1 := field47 v l 1 (by decide) W (h.keep hb)
  have K2 := field47 v l 2 (by decide) W (h.keep hb)
  have HK3 : Hid (∀ w', Below w.heap.size w w' → Calls Tryz.prog 47 #[v, .int .i64 3] w' fun e w'' => e = .returned (.int .i64 (l.getD 3 0)) ∧ w'' = w') := fun w' h' => field47 v l 3 (by decide) w' (h.keep h')
  rw [show madeI n [99] (l.getD 0 0) (l.getD 1 0) (l.getD 2 0) (l.getD 3 0) = ⟨n, 0, 0, 0, 0, imJ  (l.getD 0 0)⟩ from rfl]
  have hsh : (∃ ad m c, v = .slice ad m c) := by rcases h with ⟨rfl, _⟩ | ⟨g, cap, rfl, _⟩ <;> exact ⟨_, _, _, rfl⟩
  obtain ⟨ad, m, cp, rfl⟩ := hsh
  generalize l.getD 0 0 = a at K0 ⊢
  generalize l.getD 1 0 = b at K1 ⊢
  generalize l.getD 2 0 = c at K2 ⊢
  generalize l.getD 3 0 = x at HK3 ⊢
  unfold In.val
  simp only
  have hj := imJ_and a
  generalize imJ a = mj at hj ⊢
  clear h
  go_enter Tryz.func18, Tryz.ntmps18
  go_wp2_with fail
  refine K0.mono ?_
  rintro e w1 ⟨rfl, rfl⟩
  clear K0
  go_wp2_with fail
  refine K1.mono ?_
  rintro e w2 ⟨rfl, rfl⟩
  clear K1
  go_wp2_with fail
  refine K2.mono ?_
  rintro e w3 ⟨rfl, rfl⟩
  clear K2
  subst hW
  clear HK3 hb
  go_wp2
  refine bodyPost_ret (v := .agg #[.string n, .int .i64 (0), .int .i64 (0), .int .i64 (0), .int .i64 (0), .int .u32 (mj : Int)]) ?_ rfl ⟨rfl, ((Below.refl _ _).alloc (Nat.le_refl _) _).alloc (by simp) _⟩
  rw [results_cell1 rfl]; simp [go_sem]
set_option maxHeartbeats 1000000 in
theorem made_j (n : ByteArray) (v : Value) (l : List Int) (w : World) (h : Ints w v l) : Calls Tryz.prog 18 #[.string n, .string ⟨#[106]⟩, v] w fun e w' => e = .returned (madeI n [106] (l.getD 0 0) (l.getD 1 0) (l.getD 2 0) (l.getD 3 0)).val ∧ Below w.heap.size w w' := by
  obtain ⟨W, hW⟩ : ∃ z, w.alloc (.cells #[.string ⟨#[]⟩, .int .i64 0, .int .i64 0, .int .i64 0, .int .i64 0, .int .u32 0] 24) = z := ⟨_, rfl⟩
  have hb : Below w.heap.size w W := by rw [← hW]; exact (Below.refl _ _).alloc (Nat.le_refl _) _
  have K0 := field47 v l 0 (by decide) W (h.keep hb)
  have K1 := field47 v l 1 (by decide) W (h.keep hb)
  have K2 := field47 v l 2 (by decide) W (h.keep hb)
  have HK3 : Hid (∀ w', Below w.heap.size w w' → Calls Tryz.prog 47 #[v, .int .i64 3] w' fun e w'' => e = .returned (.int .i64 (l.getD 3 0)) ∧ w'' = w') := fun w' h' => field47 v l 3 (by decide) w' (h.keep h')
  rw [show madeI n [106] (l.getD 0 0) (l.getD 1 0) (l.getD 2 0) (l.getD 3 0) = ⟨n, 0, 0, 0, 0, imJ  (l.getD 0 0)⟩ from rfl]
  have hsh : (∃ ad m c, v = .slice ad m c) := by rcases h with ⟨rfl, _⟩ | ⟨g, cap, rfl, _⟩ <;> exact ⟨_, _, _, rfl⟩
  obtain ⟨ad, m, cp, rfl⟩ := hsh
  generalize l.getD 0 0 = a at K0 ⊢
  generalize l.getD 1 0 = b at K1 ⊢
  generalize l.getD 2 0 = c at K2 ⊢
  generalize l.getD 3 0 = x at HK3 ⊢
  unfold In.val
  simp only
  have hj := imJ_and a
  generalize imJ a = mj at hj ⊢
  clear h
  go_enter Tryz.func18, Tryz.ntmps18
  go_wp2_with fail
  refine K0.mono ?_
  rintro e w1 ⟨rfl, rfl⟩
  clear K0
  go_wp2_with fail
  refine K1.mono ?_
  rintro e w2 ⟨rfl, rfl⟩
  clear K1
  go_wp2_with fail
  refine K2.mono ?_
  rintro e w3 ⟨rfl, rfl⟩
  clear K2
  subst hW
  clear HK3 hb
  go_wp2
  refine bodyPost_ret (v := .agg #[.string n, .int .i64 (0), .int .i64 (0), .int .i64 (0), .int .i64 (0), .int .u32 (mj : Int)]) ?_ rfl ⟨rfl, ((Below.refl _ _).alloc (Nat.le_refl _) _).alloc (by simp) _⟩
  rw [results_cell1 rfl]; simp [go_sem]
set_option maxHeartbeats 1000000 in
theorem made_so (n : ByteArray) (v : Value) (l : List Int) (w : World) (h : Ints w v l) : Calls Tryz.prog 18 #[.string n, .string ⟨#[115, 111]⟩, v] w fun e w' => e = .returned (madeI n [115, 111] (l.getD 0 0) (l.getD 1 0) (l.getD 2 0) (l.getD 3 0)).val ∧ Below w.heap.size w w' := by
  obtain ⟨W, hW⟩ : ∃ z, w.alloc (.cells #[.string ⟨#[]⟩, .int .i64 0, .int .i64 0, .int .i64 0, .int .i64 0, .int .u32 0] 24) = z := ⟨_, rfl⟩
  have hb : Below w.heap.size w W := by rw [← hW]; exact (Below.refl _ _).alloc (Nat.le_refl _) _
  have K0 := field47 v l 0 (by decide) W (h.keep hb)
  have K1 := field47 v l 1 (by decide) W (h.keep hb)
  have K2 := field47 v l 2 (by decide) W (h.keep hb)
  have HK3 : Hid (∀ w', Below w.heap.size w w' → Calls Tryz.prog 47 #[v, .int .i64 3] w' fun e w'' => e = .returned (.int .i64 (l.getD 3 0)) ∧ w'' = w') := fun w' h' => field47 v l 3 (by decide) w' (h.keep h')
  rw [show madeI n [115, 111] (l.getD 0 0) (l.getD 1 0) (l.getD 2 0) (l.getD 3 0) = ⟨n,  (l.getD 0 0), 0, 0, 0, imI (l.getD 1 0)⟩ from rfl]
  have hsh : (∃ ad m c, v = .slice ad m c) := by rcases h with ⟨rfl, _⟩ | ⟨g, cap, rfl, _⟩ <;> exact ⟨_, _, _, rfl⟩
  obtain ⟨ad, m, cp, rfl⟩ := hsh
  generalize l.getD 0 0 = a at K0 ⊢
  generalize l.getD 1 0 = b at K1 ⊢
  generalize l.getD 2 0 = c at K2 ⊢
  generalize l.getD 3 0 = x at HK3 ⊢
  unfold In.val
  simp only
  have hj := imI_and b
  generalize imI b = mj at hj ⊢
  clear h
  go_enter Tryz.func18, Tryz.ntmps18
  go_wp2_with fail
  refine K0.mono ?_
  rintro e w1 ⟨rfl, rfl⟩
  clear K0
  go_wp2_with fail
  refine K1.mono ?_
  rintro e w2 ⟨rfl, rfl⟩
  clear K1
  go_wp2_with fail
  refine K2.mono ?_
  rintro e w3 ⟨rfl, rfl⟩
  clear K2
  subst hW
  clear HK3 hb
  go_wp2
  refine bodyPost_ret (v := .agg #[.string n, .int .i64 (a), .int .i64 (0), .int .i64 (0), .int .i64 (0), .int .u32 (mj : Int)]) ?_ rfl ⟨rfl, ((Below.refl _ _).alloc (Nat.le_refl _) _).alloc (by simp) _⟩
  rw [results_cell1 rfl]; simp [go_sem]
set_option maxHeartbeats 1000000 in
theorem made_sto (n : ByteArray) (v : Value) (l : List Int) (w : World) (h : Ints w v l) : Calls Tryz.prog 18 #[.string n, .string ⟨#[115, 116, 111]⟩, v] w fun e w' => e = .returned (madeI n [115, 116, 111] (l.getD 0 0) (l.getD 1 0) (l.getD 2 0) (l.getD 3 0)).val ∧ Below w.heap.size w w' := by
  obtain ⟨W, hW⟩ : ∃ z, w.alloc (.cells #[.string ⟨#[]⟩, .int .i64 0, .int .i64 0, .int .i64 0, .int .i64 0, .int .u32 0] 24) = z := ⟨_, rfl⟩
  have hb : Below w.heap.size w W := by rw [← hW]; exact (Below.refl _ _).alloc (Nat.le_refl _) _
  have K0 := field47 v l 0 (by decide) W (h.keep hb)
  have K1 := field47 v l 1 (by decide) W (h.keep hb)
  have K2 := field47 v l 2 (by decide) W (h.keep hb)
  have HK3 : Hid (∀ w', Below w.heap.size w w' → Calls Tryz.prog 47 #[v, .int .i64 3] w' fun e w'' => e = .returned (.int .i64 (l.getD 3 0)) ∧ w'' = w') := fun w' h' => field47 v l 3 (by decide) w' (h.keep h')
  rw [show madeI n [115, 116, 111] (l.getD 0 0) (l.getD 1 0) (l.getD 2 0) (l.getD 3 0) = ⟨n,  (l.getD 0 0), (l.getD 1 0), 0, 0, imI (l.getD 2 0)⟩ from rfl]
  have hsh : (∃ ad m c, v = .slice ad m c) := by rcases h with ⟨rfl, _⟩ | ⟨g, cap, rfl, _⟩ <;> exact ⟨_, _, _, rfl⟩
  obtain ⟨ad, m, cp, rfl⟩ := hsh
  generalize l.getD 0 0 = a at K0 ⊢
  generalize l.getD 1 0 = b at K1 ⊢
  generalize l.getD 2 0 = c at K2 ⊢
  generalize l.getD 3 0 = x at HK3 ⊢
  unfold In.val
  simp only
  have hj := imI_and c
  generalize imI c = mj at hj ⊢
  clear h
  go_enter Tryz.func18, Tryz.ntmps18
  go_wp2_with fail
  refine K0.mono ?_
  rintro e w1 ⟨rfl, rfl⟩
  clear K0
  go_wp2_with fail
  refine K1.mono ?_
  rintro e w2 ⟨rfl, rfl⟩
  clear K1
  go_wp2_with fail
  refine K2.mono ?_
  rintro e w3 ⟨rfl, rfl⟩
  clear K2
  subst hW
  clear HK3 hb
  go_wp2
  refine bodyPost_ret (v := .agg #[.string n, .int .i64 (a), .int .i64 (b), .int .i64 (0), .int .i64 (0), .int .u32 (mj : Int)]) ?_ rfl ⟨rfl, ((Below.refl _ _).alloc (Nat.le_refl _) _).alloc (by simp) _⟩
  rw [results_cell1 rfl]; simp [go_sem]
set_option maxHeartbeats 1000000 in
theorem made_tsi (n : ByteArray) (v : Value) (l : List Int) (w : World) (h : Ints w v l) : Calls Tryz.prog 18 #[.string n, .string ⟨#[116, 115, 105]⟩, v] w fun e w' => e = .returned (madeI n [116, 115, 105] (l.getD 0 0) (l.getD 1 0) (l.getD 2 0) (l.getD 3 0)).val ∧ Below w.heap.size w w' := by
  obtain ⟨W, hW⟩ : ∃ z, w.alloc (.cells #[.string ⟨#[]⟩, .int .i64 0, .int .i64 0, .int .i64 0, .int .i64 0, .int .u32 0] 24) = z := ⟨_, rfl⟩
  have hb : Below w.heap.size w W := by rw [← hW]; exact (Below.refl _ _).alloc (Nat.le_refl _) _
  have K0 := field47 v l 0 (by decide) W (h.keep hb)
  have K1 := field47 v l 1 (by decide) W (h.keep hb)
  have K2 := field47 v l 2 (by decide) W (h.keep hb)
  have HK3 : Hid (∀ w', Below w.heap.size w w' → Calls Tryz.prog 47 #[v, .int .i64 3] w' fun e w'' => e = .returned (.int .i64 (l.getD 3 0)) ∧ w'' = w') := fun w' h' => field47 v l 3 (by decide) w' (h.keep h')
  rw [show madeI n [116, 115, 105] (l.getD 0 0) (l.getD 1 0) (l.getD 2 0) (l.getD 3 0) = ⟨n, (l.getD 1 0),  (l.getD 0 0), 0, 0, imI (l.getD 2 0)⟩ from rfl]
  have hsh : (∃ ad m c, v = .slice ad m c) := by rcases h with ⟨rfl, _⟩ | ⟨g, cap, rfl, _⟩ <;> exact ⟨_, _, _, rfl⟩
  obtain ⟨ad, m, cp, rfl⟩ := hsh
  generalize l.getD 0 0 = a at K0 ⊢
  generalize l.getD 1 0 = b at K1 ⊢
  generalize l.getD 2 0 = c at K2 ⊢
  generalize l.getD 3 0 = x at HK3 ⊢
  unfold In.val
  simp only
  have hj := imI_and c
  generalize imI c = mj at hj ⊢
  clear h
  go_enter Tryz.func18, Tryz.ntmps18
  go_wp2_with fail
  refine K0.mono ?_
  rintro e w1 ⟨rfl, rfl⟩
  clear K0
  go_wp2_with fail
  refine K1.mono ?_
  rintro e w2 ⟨rfl, rfl⟩
  clear K1
  go_wp2_with fail
  refine K2.mono ?_
  rintro e w3 ⟨rfl, rfl⟩
  clear K2
  subst hW
  clear HK3 hb
  go_wp2
  refine bodyPost_ret (v := .agg #[.string n, .int .i64 (b), .int .i64 (a), .int .i64 (0), .int .i64 (0), .int .u32 (mj : Int)]) ?_ rfl ⟨rfl, ((Below.refl _ _).alloc (Nat.le_refl _) _).alloc (by simp) _⟩
  rw [results_cell1 rfl]; simp [go_sem]
set_option maxHeartbeats 1000000 in
theorem made_ti (n : ByteArray) (v : Value) (l : List Int) (w : World) (h : Ints w v l) : Calls Tryz.prog 18 #[.string n, .string ⟨#[116, 105]⟩, v] w fun e w' => e = .returned (madeI n [116, 105] (l.getD 0 0) (l.getD 1 0) (l.getD 2 0) (l.getD 3 0)).val ∧ Below w.heap.size w w' := by
  obtain ⟨W, hW⟩ : ∃ z, w.alloc (.cells #[.string ⟨#[]⟩, .int .i64 0, .int .i64 0, .int .i64 0, .int .i64 0, .int .u32 0] 24) = z := ⟨_, rfl⟩
  have hb : Below w.heap.size w W := by rw [← hW]; exact (Below.refl _ _).alloc (Nat.le_refl _) _
  have K0 := field47 v l 0 (by decide) W (h.keep hb)
  have K1 := field47 v l 1 (by decide) W (h.keep hb)
  have K2 := field47 v l 2 (by decide) W (h.keep hb)
  have HK3 : Hid (∀ w', Below w.heap.size w w' → Calls Tryz.prog 47 #[v, .int .i64 3] w' fun e w'' => e = .returned (.int .i64 (l.getD 3 0)) ∧ w'' = w') := fun w' h' => field47 v l 3 (by decide) w' (h.keep h')
  rw [show madeI n [116, 105] (l.getD 0 0) (l.getD 1 0) (l.getD 2 0) (l.getD 3 0) = ⟨n, 0,  (l.getD 0 0), 0, 0, imI (l.getD 1 0)⟩ from rfl]
  have hsh : (∃ ad m c, v = .slice ad m c) := by rcases h with ⟨rfl, _⟩ | ⟨g, cap, rfl, _⟩ <;> exact ⟨_, _, _, rfl⟩
  obtain ⟨ad, m, cp, rfl⟩ := hsh
  generalize l.getD 0 0 = a at K0 ⊢
  generalize l.getD 1 0 = b at K1 ⊢
  generalize l.getD 2 0 = c at K2 ⊢
  generalize l.getD 3 0 = x at HK3 ⊢
  unfold In.val
  simp only
  have hj := imI_and b
  generalize imI b = mj at hj ⊢
  clear h
  go_enter Tryz.func18, Tryz.ntmps18
  go_wp2_with fail
  refine K0.mono ?_
  rintro e w1 ⟨rfl, rfl⟩
  clear K0
  go_wp2_with fail
  refine K1.mono ?_
  rintro e w2 ⟨rfl, rfl⟩
  clear K1
  go_wp2_with fail
  refine K2.mono ?_
  rintro e w3 ⟨rfl, rfl⟩
  clear K2
  subst hW
  clear HK3 hb
  go_wp2
  refine bodyPost_ret (v := .agg #[.string n, .int .i64 (0), .int .i64 (a), .int .i64 (0), .int .i64 (0), .int .u32 (mj : Int)]) ?_ rfl ⟨rfl, ((Below.refl _ _).alloc (Nat.le_refl _) _).alloc (by simp) _⟩
  rw [results_cell1 rfl]; simp [go_sem]
set_option maxHeartbeats 1000000 in
theorem made_tm (n : ByteArray) (v : Value) (l : List Int) (w : World) (h : Ints w v l) : Calls Tryz.prog 18 #[.string n, .string ⟨#[116, 109]⟩, v] w fun e w' => e = .returned (madeI n [116, 109] (l.getD 0 0) (l.getD 1 0) (l.getD 2 0) (l.getD 3 0)).val ∧ Below w.heap.size w w' := by
  obtain ⟨W, hW⟩ : ∃ z, w.alloc (.cells #[.string ⟨#[]⟩, .int .i64 0, .int .i64 0, .int .i64 0, .int .i64 0, .int .u32 0] 24) = z := ⟨_, rfl⟩
  have hb : Below w.heap.size w W := by rw [← hW]; exact (Below.refl _ _).alloc (Nat.le_refl _) _
  have K0 := field47 v l 0 (by decide) W (h.keep hb)
  have K1 := field47 v l 1 (by decide) W (h.keep hb)
  have K2 := field47 v l 2 (by decide) W (h.keep hb)
  have HK3 : Hid (∀ w', Below w.heap.size w w' → Calls Tryz.prog 47 #[v, .int .i64 3] w' fun e w'' => e = .returned (.int .i64 (l.getD 3 0)) ∧ w'' = w') := fun w' h' => field47 v l 3 (by decide) w' (h.keep h')
  rw [show madeI n [116, 109] (l.getD 0 0) (l.getD 1 0) (l.getD 2 0) (l.getD 3 0) = ⟨n, (l.getD 2 0),  (l.getD 0 0), 0, 0, imI (l.getD 1 0)⟩ from rfl]
  have hsh : (∃ ad m c, v = .slice ad m c) := by rcases h with ⟨rfl, _⟩ | ⟨g, cap, rfl, _⟩ <;> exact ⟨_, _, _, rfl⟩
  obtain ⟨ad, m, cp, rfl⟩ := hsh
  generalize l.getD 0 0 = a at K0 ⊢
  generalize l.getD 1 0 = b at K1 ⊢
  generalize l.getD 2 0 = c at K2 ⊢
  generalize l.getD 3 0 = x at HK3 ⊢
  unfold In.val
  simp only
  have hj := imI_and b
  generalize imI b = mj at hj ⊢
  clear h
  go_enter Tryz.func18, Tryz.ntmps18
  go_wp2_with fail
  refine K0.mono ?_
  rintro e w1 ⟨rfl, rfl⟩
  clear K0
  go_wp2_with fail
  refine K1.mono ?_
  rintro e w2 ⟨rfl, rfl⟩
  clear K1
  go_wp2_with fail
  refine K2.mono ?_
  rintro e w3 ⟨rfl, rfl⟩
  clear K2
  subst hW
  clear HK3 hb
  go_wp2
  refine bodyPost_ret (v := .agg #[.string n, .int .i64 (c), .int .i64 (a), .int .i64 (0), .int .i64 (0), .int .u32 (mj : Int)]) ?_ rfl ⟨rfl, ((Below.refl _ _).alloc (Nat.le_refl _) _).alloc (by simp) _⟩
  rw [results_cell1 rfl]; simp [go_sem]
set_option maxHeartbeats 1000000 in
theorem made_tsx (n : ByteArray) (v : Value) (l : List Int) (w : World) (h : Ints w v l) : Calls Tryz.prog 18 #[.string n, .string ⟨#[116, 115, 120]⟩, v] w fun e w' => e = .returned (madeI n [116, 115, 120] (l.getD 0 0) (l.getD 1 0) (l.getD 2 0) (l.getD 3 0)).val ∧ Below w.heap.size w w' := by
  obtain ⟨W, hW⟩ : ∃ z, w.alloc (.cells #[.string ⟨#[]⟩, .int .i64 0, .int .i64 0, .int .i64 0, .int .i64 0, .int .u32 0] 24) = z := ⟨_, rfl⟩
  have hb : Below w.heap.size w W := by rw [← hW]; exact (Below.refl _ _).alloc (Nat.le_refl _) _
  have K0 := field47 v l 0 (by decide) W (h.keep hb)
  have K1 := field47 v l 1 (by decide) W (h.keep hb)
  have K2 := field47 v l 2 (by decide) W (h.keep hb)
  have HK3 : Hid (∀ w', Below w.heap.size w w' → Calls Tryz.prog 47 #[v, .int .i64 3] w' fun e w'' => e = .returned (.int .i64 (l.getD 3 0)) ∧ w'' = w') := fun w' h' => field47 v l 3 (by decide) w' (h.keep h')
  rw [show madeI n [116, 115, 120] (l.getD 0 0) (l.getD 1 0) (l.getD 2 0) (l.getD 3 0) = ⟨n, (l.getD 1 0),  (l.getD 0 0), (l.getD 3 0), (l.getD 2 0), 0⟩ from rfl]
  have hsh : (∃ ad m c, v = .slice ad m c) := by rcases h with ⟨rfl, _⟩ | ⟨g, cap, rfl, _⟩ <;> exact ⟨_, _, _, rfl⟩
  obtain ⟨ad, m, cp, rfl⟩ := hsh
  generalize l.getD 0 0 = a at K0 ⊢
  generalize l.getD 1 0 = b at K1 ⊢
  generalize l.getD 2 0 = c at K2 ⊢
  generalize l.getD 3 0 = x at HK3 ⊢
  unfold In.val
  simp only
  clear h
  go_enter Tryz.func18, Tryz.ntmps18
  go_wp2_with fail
  refine K0.mono ?_
  rintro e w1 ⟨rfl, rfl⟩
  clear K0
  go_wp2_with fail
  refine K1.mono ?_
  rintro e w2 ⟨rfl, rfl⟩
  clear K1
  go_wp2_with fail
  refine K2.mono ?_
  rintro e w3 ⟨rfl, rfl⟩
  clear K2
  subst hW
  go_wp2_with fail
  refine (HK3.out _ (((Below.refl _ _).alloc (Nat.le_refl _) _).alloc (by simp) _)).mono ?_
  rintro e w4 ⟨rfl, rfl⟩
  clear HK3 hb
  go_wp2
  refine bodyPost_ret (v := .agg #[.string n, .int .i64 (b), .int .i64 (a), .int .i64 (x), .int .i64 (c), .int .u32 ((0 : Nat) : Int)]) ?_ rfl ⟨rfl, ((Below.refl _ _).alloc (Nat.le_refl _) _).alloc (by simp) _⟩
  rw [results_cell1 rfl]; simp [go_sem]
set_option maxHeartbeats 1000000 in
theorem made_none (n : ByteArray) (v : Value) (l : List Int) (w : World) (h : Ints w v l) : Calls Tryz.prog 18 #[.string n, .string ⟨#[]⟩, v] w fun e w' => e = .returned (madeI n [] (l.getD 0 0) (l.getD 1 0) (l.getD 2 0) (l.getD 3 0)).val ∧ Below w.heap.size w w' := by
  obtain ⟨W, hW⟩ : ∃ z, w.alloc (.cells #[.string ⟨#[]⟩, .int .i64 0, .int .i64 0, .int .i64 0, .int .i64 0, .int .u32 0] 24) = z := ⟨_, rfl⟩
  have hb : Below w.heap.size w W := by rw [← hW]; exact (Below.refl _ _).alloc (Nat.le_refl _) _
  have K0 := field47 v l 0 (by decide) W (h.keep hb)
  have K1 := field47 v l 1 (by decide) W (h.keep hb)
  have K2 := field47 v l 2 (by decide) W (h.keep hb)
  have HK3 : Hid (∀ w', Below w.heap.size w w' → Calls Tryz.prog 47 #[v, .int .i64 3] w' fun e w'' => e = .returned (.int .i64 (l.getD 3 0)) ∧ w'' = w') := fun w' h' => field47 v l 3 (by decide) w' (h.keep h')
  rw [show madeI n [] (l.getD 0 0) (l.getD 1 0) (l.getD 2 0) (l.getD 3 0) = ⟨n, 0, 0, 0, 0, 0⟩ from rfl]
  have hsh : (∃ ad m c, v = .slice ad m c) := by rcases h with ⟨rfl, _⟩ | ⟨g, cap, rfl, _⟩ <;> exact ⟨_, _, _, rfl⟩
  obtain ⟨ad, m, cp, rfl⟩ := hsh
  generalize l.getD 0 0 = a at K0 ⊢
  generalize l.getD 1 0 = b at K1 ⊢
  generalize l.getD 2 0 = c at K2 ⊢
  generalize l.getD 3 0 = x at HK3 ⊢
  unfold In.val
  simp only
  clear h
  go_enter Tryz.func18, Tryz.ntmps18
  go_wp2_with fail
  refine K0.mono ?_
  rintro e w1 ⟨rfl, rfl⟩
  clear K0
  go_wp2_with fail
  refine K1.mono ?_
  rintro e w2 ⟨rfl, rfl⟩
  clear K1
  go_wp2_with fail
  refine K2.mono ?_
  rintro e w3 ⟨rfl, rfl⟩
  clear K2
  subst hW
  clear HK3 hb
  go_wp2
  refine bodyPost_ret (v := .agg #[.string n, .int .i64 (0), .int .i64 (0), .int .i64 (0), .int .i64 (0), .int .u32 ((0 : Nat) : Int)]) ?_ rfl ⟨rfl, ((Below.refl _ _).alloc (Nat.le_refl _) _).alloc (by simp) _⟩
  rw [results_cell1 rfl]; simp [go_sem]
end Go.Proofs.YtglkkeelocdanaaGreatDoor
namespace Go.Proofs.YtglkkeelocdanaaGreatDoor
open Go.RowKit
set_option linter.unusedVariables false
set_option linter.unusedSimpArgs false
set_option maxRecDepth 100000
/-- An instruction is what its parts say. -/
theorem fold_ins {i : In} (h : isIns i = true) : (partsL (patL i.name.toList (formL8 i.name) (i.imm == 0))).foldl (set1 i) (bareI i.name.toList) = i := by
  obtain ⟨a, ha, p⟩ := in_p h
  have hb := in_bd h
  have hl := ins_line h
  obtain ⟨e1, e2⟩ := line_name h p
  unfold insR at hl
  have rp := row_p (List.getElem_mem ha) (i.imm == 0)
  have hpo : partsOf (lineL i) = partsL (patL i.name.toList (formL8 i.name) (i.imm == 0)) := by
    unfold partsOf
    rw [e1, e2, ba_list, pat_bare p]
  have hr := run_told i hb (partsL (patL i.name.toList (formL8 i.name) (i.imm == 0))) (by rw [p.form, p.name]; exact rp.wf) (fun hm => by have := p.fm; rw [p.form, p.name] at hm; rw [rp.i hm] at this; omega) (bareI i.name.toList)
  rw [e1, e2, ba_list, if_neg (by rw [p.form]; exact rp.fe), hpo] at hl
  change (match runR _ (_, (partsL (patL i.name.toList (formL8 i.name) (i.imm == 0))).flatMap (toldL i)) with | some r => _ | none => _) = _ at hl
  rw [hr] at hl
  simp only at hl
  split at hl
  · exact Option.some.inj hl
  · cases hl
theorem imJ_nat (m : Nat) (h : m < 67108864) : imJ (m : Int) = m := by unfold imJ; omega
theorem imI_nat (m : Nat) (h : m < 65536) : imI (m : Int) = m := by unfold imI; omega
/-- The numbers of an instruction's line make it. -/
theorem made_ins {i : In} (h : isIns i = true) : madeI i.name (formL8 i.name) ((valsL i).getD 0 0) ((valsL i).getD 1 0) ((valsL i).getD 2 0) ((valsL i).getD 3 0) = i := by
  have hfo := fold_ins h
  obtain ⟨a, ha, p⟩ := in_p h
  have hf := of_decide_eq_true (List.all_eq_true.1 rows_forms _ (List.getElem_mem ha))
  have hn := List.all_eq_true.1 rows_names _ (List.getElem_mem ha)
  have hm := p.fm
  have hb := (in_bd h).imm
  have hfm := p.form
  have hnm : i.name.toList = rowsL[a].name.toList := by rw [p.name]
  unfold nameOkB at hn
  simp only at hn
  rw [← hnm, ← hfm] at hn
  rw [← hfm] at hf
  have hw : wideN rowsL[a].form = wideL (formL8 i.name) := by rw [hfm]; rfl
  rw [hw] at hm
  unfold valsL
  have hbn : bareI i.name.toList = ⟨i.name, 0, 0, 0, 0, 0⟩ := by unfold bareI; rw [ba_list]
  rw [hbn] at hfo
  generalize formL8 i.name = f at hf hn hm hfo ⊢
  clear p hfm hnm hw h hbn
  conv => rhs; rw [← hfo]
  clear hfo
  cases c1 : (i.name.toList == [97, 110, 100, 105] || (i.name.toList == [111, 114, 105] || i.name.toList == [120, 111, 114, 105])) with
  | true =>
    rw [c1] at hn
    have e : f = [116, 115, 105] := by
      revert hn
      cases c2 : (f == [116, 115, 105]) with
      | true => intro _; simpa using c2
      | false => simp
    subst e
    have e2 : patL i.name.toList [116, 115, 105] (i.imm == 0) = [32, 36, 116, 44, 32, 36, 115, 44, 32, 117] := by unfold patL; rw [if_pos c1]
    rw [e2]
    have e3 : partsL [32, 36, 116, 44, 32, 36, 115, 44, 32, 117] = [[32, 36], [116], [44, 32, 36], [115], [44, 32], [117]] := by decide
    rw [e3]
    have hm6 : i.imm < 65536 := by rw [show wideL [116, 115, 105] = 16 from by decide] at hm; omega
    have e4 := imI_nat i.imm hm6
    simp [madeI, valO, set1, e4]
  | false =>
    rw [c1] at hn
    simp only [List.mem_cons, List.not_mem_nil, or_false] at hf
    rcases hf with rfl | rfl | rfl | rfl | rfl | rfl | rfl | rfl | rfl | rfl | rfl | rfl | rfl | rfl | rfl | rfl | rfl | rfl | rfl | rfl
    · have e2 : patL i.name.toList [100, 115, 116] (i.imm == 0) = [32, 36, 100, 44, 32, 36, 115, 44, 32, 36, 116] := by unfold patL; rw [c1]; rfl
      rw [e2]
      have e3 : partsL [32, 36, 100, 44, 32, 36, 115, 44, 32, 36, 116] = [[32, 36], [100], [44, 32, 36], [115], [44, 32, 36], [116]] := by decide
      rw [e3]
      simp [madeI, valO, set1]
    · have e2 : patL i.name.toList [100, 116, 97] (i.imm == 0) = [32, 36, 100, 44, 32, 36, 116, 44, 32, 97] := by unfold patL; rw [c1]; rfl
      rw [e2]
      have e3 : partsL [32, 36, 100, 44, 32, 36, 116, 44, 32, 97] = [[32, 36], [100], [44, 32, 36], [116], [44, 32], [97]] := by decide
      rw [e3]
      simp [madeI, valO, set1]
    · have e2 : patL i.name.toList [100, 116, 114] (i.imm == 0) = [32, 36, 100, 44, 32, 36, 116, 44, 32, 97] := by unfold patL; rw [c1]; rfl
      rw [e2]
      have e3 : partsL [32, 36, 100, 44, 32, 36, 116, 44, 32, 97] = [[32, 36], [100], [44, 32, 36], [116], [44, 32], [97]] := by decide
      rw [e3]
      simp [madeI, valO, set1]
    · have e2 : patL i.name.toList [100, 116, 115] (i.imm == 0) = [32, 36, 100, 44, 32, 36, 116, 44, 32, 36, 115] := by unfold patL; rw [c1]; rfl
      rw [e2]
      have e3 : partsL [32, 36, 100, 44, 32, 36, 116, 44, 32, 36, 115] = [[32, 36], [100], [44, 32, 36], [116], [44, 32, 36], [115]] := by decide
      rw [e3]
      simp [madeI, valO, set1]
    · have e2 : patL i.name.toList [100, 116, 118] (i.imm == 0) = [32, 36, 100, 44, 32, 36, 116, 44, 32, 36, 115] := by unfold patL; rw [c1]; rfl
      rw [e2]
      have e3 : partsL [32, 36, 100, 44, 32, 36, 116, 44, 32, 36, 115] = [[32, 36], [100], [44, 32, 36], [116], [44, 32, 36], [115]] := by decide
      rw [e3]
      simp [madeI, valO, set1]
    · have e2 : patL i.name.toList [100, 115] (i.imm == 0) = [32, 36, 100, 44, 32, 36, 115] := by unfold patL; rw [c1]; rfl
      rw [e2]
      have e3 : partsL [32, 36, 100, 44, 32, 36, 115] = [[32, 36], [100], [44, 32, 36], [115]] := by decide
      rw [e3]
      simp [madeI, valO, set1]
    · have e2 : patL i.name.toList [100, 115, 100] (i.imm == 0) = [32, 36, 100, 44, 32, 36, 115] := by unfold patL; rw [c1]; rfl
      rw [e2]
      have e3 : partsL [32, 36, 100, 44, 32, 36, 115] = [[32, 36], [100], [44, 32, 36], [115]] := by decide
      rw [e3]
      simp [madeI, valO, set1]
    · have e2 : patL i.name.toList [100, 116] (i.imm == 0) = [32, 36, 100, 44, 32, 36, 116] := by unfold patL; rw [c1]; rfl
      rw [e2]
      have e3 : partsL [32, 36, 100, 44, 32, 36, 116] = [[32, 36], [100], [44, 32, 36], [116]] := by decide
      rw [e3]
      simp [madeI, valO, set1]
    · have e2 : patL i.name.toList [116, 100] (i.imm == 0) = [32, 36, 116, 44, 32, 36, 100] := by unfold patL; rw [c1]; rfl
      rw [e2]
      have e3 : partsL [32, 36, 116, 44, 32, 36, 100] = [[32, 36], [116], [44, 32, 36], [100]] := by decide
      rw [e3]
      simp [madeI, valO, set1]
    · have e2 : patL i.name.toList [100] (i.imm == 0) = [32, 36, 100] := by unfold patL; rw [c1]; rfl
      rw [e2]
      have e3 : partsL [32, 36, 100] = [[32, 36], [100]] := by decide
      rw [e3]
      simp [madeI, valO, set1]
    · have e2 : patL i.name.toList [115] (i.imm == 0) = [32, 36, 115] := by unfold patL; rw [c1]; rfl
      rw [e2]
      have e3 : partsL [32, 36, 115] = [[32, 36], [115]] := by decide
      rw [e3]
      simp [madeI, valO, set1]
    · have e2 : patL i.name.toList [115, 116] (i.imm == 0) = [32, 36, 115, 44, 32, 36, 116] := by unfold patL; rw [c1]; rfl
      rw [e2]
      have e3 : partsL [32, 36, 115, 44, 32, 36, 116] = [[32, 36], [115], [44, 32, 36], [116]] := by decide
      rw [e3]
      simp [madeI, valO, set1]
    · have e5 := imJ_nat i.imm hb
      by_cases h0 : i.imm = 0
      · have e2 : patL i.name.toList [99] (i.imm == 0) = [] := by rw [h0]; unfold patL; rw [c1]; rfl
        rw [e2]
        simp [madeI, partsL, ptR, imJ]
      · have e2 : patL i.name.toList [99] (i.imm == 0) = [32, 117] := by rw [show (i.imm == 0) = false from by simpa using h0]; unfold patL; rw [c1]; rfl
        rw [e2]
        have e3 : partsL [32, 117] = [[32], [117]] := by decide
        rw [e3]
        simp [madeI, valO, set1, e5]
    · have e2 : patL i.name.toList [106] (i.imm == 0) = [32, 117] := by unfold patL; rw [c1]; rfl
      rw [e2]
      have e3 : partsL [32, 117] = [[32], [117]] := by decide
      rw [e3]
      have e5 := imJ_nat i.imm hb
      simp [madeI, valO, set1, e5]
    · have e2 : patL i.name.toList [115, 111] (i.imm == 0) = [32, 36, 115, 44, 32, 105] := by unfold patL; rw [c1]; rfl
      rw [e2]
      have e3 : partsL [32, 36, 115, 44, 32, 105] = [[32, 36], [115], [44, 32], [105]] := by decide
      rw [e3]
      have hm6 : i.imm < 65536 := by rw [show wideL [115, 111] = 16 from by decide] at hm; omega
      have e4 := imI_sgn i.imm hm6
      simp [madeI, valO, set1, e4]
    · have e2 : patL i.name.toList [115, 116, 111] (i.imm == 0) = [32, 36, 115, 44, 32, 36, 116, 44, 32, 105] := by unfold patL; rw [c1]; rfl
      rw [e2]
      have e3 : partsL [32, 36, 115, 44, 32, 36, 116, 44, 32, 105] = [[32, 36], [115], [44, 32, 36], [116], [44, 32], [105]] := by decide
      rw [e3]
      have hm6 : i.imm < 65536 := by rw [show wideL [115, 116, 111] = 16 from by decide] at hm; omega
      have e4 := imI_sgn i.imm hm6
      simp [madeI, valO, set1, e4]
    · have e2 : patL i.name.toList [116, 115, 105] (i.imm == 0) = [32, 36, 116, 44, 32, 36, 115, 44, 32, 105] := by unfold patL; rw [c1]; rfl
      rw [e2]
      have e3 : partsL [32, 36, 116, 44, 32, 36, 115, 44, 32, 105] = [[32, 36], [116], [44, 32, 36], [115], [44, 32], [105]] := by decide
      rw [e3]
      have hm6 : i.imm < 65536 := by rw [show wideL [116, 115, 105] = 16 from by decide] at hm; omega
      have e4 := imI_sgn i.imm hm6
      simp [madeI, valO, set1, e4]
    · have e2 : patL i.name.toList [116, 105] (i.imm == 0) = [32, 36, 116, 44, 32, 117] := by unfold patL; rw [c1]; rfl
      rw [e2]
      have e3 : partsL [32, 36, 116, 44, 32, 117] = [[32, 36], [116], [44, 32], [117]] := by decide
      rw [e3]
      have hm6 : i.imm < 65536 := by rw [show wideL [116, 105] = 16 from by decide] at hm; omega
      have e4 := imI_nat i.imm hm6
      simp [madeI, valO, set1, e4]
    · have e2 : patL i.name.toList [116, 109] (i.imm == 0) = [32, 36, 116, 44, 32, 105, 40, 36, 115, 41] := by unfold patL; rw [c1]; rfl
      rw [e2]
      have e3 : partsL [32, 36, 116, 44, 32, 105, 40, 36, 115, 41] = [[32, 36], [116], [44, 32], [105], [40, 36], [115], [41]] := by decide
      rw [e3]
      have hm6 : i.imm < 65536 := by rw [show wideL [116, 109] = 16 from by decide] at hm; omega
      have e4 := imI_sgn i.imm hm6
      simp [madeI, valO, set1, e4]
    · have e2 : patL i.name.toList [116, 115, 120] (i.imm == 0) = [32, 36, 116, 44, 32, 36, 115, 44, 32, 97, 44, 32, 100] := by unfold patL; rw [c1]; rfl
      rw [e2]
      have e3 : partsL [32, 36, 116, 44, 32, 36, 115, 44, 32, 97, 44, 32, 100] = [[32, 36], [116], [44, 32, 36], [115], [44, 32], [97], [44, 32], [100]] := by decide
      rw [e3]
      simp [madeI, valO, set1]
/-- What the document makes of a text. -/
def docI (s : L8) : In := madeI ⟨(nameOf s).toArray⟩ (formL8 ⟨(nameOf s).toArray⟩) ((numsL (restL s)).getD 0 0) ((numsL (restL s)).getD 1 0) ((numsL (restL s)).getD 2 0) ((numsL (restL s)).getD 3 0)
theorem doc_is (s : L8) : insR s = if formL8 ⟨(nameOf s).toArray⟩ = [] then none else if lineL (docI s) = s then some (docI s) else none := by
  by_cases hf : formL8 ⟨(nameOf s).toArray⟩ = []
  · rw [if_pos hf]; unfold insR; rw [if_pos hf]
  rw [if_neg hf]
  by_cases hl : lineL (docI s) = s
  · rw [if_pos hl]
    cases hi : isIns (docI s) with
    | true => exact (insR_iff s _).2 ⟨hi, hl⟩
    | false =>
      exfalso
      unfold lineL at hl
      rw [hi] at hl
      have hl : [] = s := by simpa using hl
      rw [← hl] at hf
      exact hf form_nil
  · rw [if_neg hl]
    cases hr : insR s with
    | none => rfl
    | some i =>
      exfalso
      obtain ⟨h1, h2⟩ := (insR_iff s i).1 hr
      obtain ⟨a, ha, p⟩ := in_p h1
      obtain ⟨e1, e2⟩ := line_name h1 p
      rw [h2] at e1 e2
      have : docI s = i := by
        unfold docI
        rw [e1, e2, ba_list, nums_tail h1]
        exact made_ins h1
      rw [this] at hl
      exact hl h2
theorem doc_imm (s : L8) : (docI s).imm < 4294967296 := by
  have hI : ∀ v, imI v < 4294967296 := fun v => by unfold imI; omega
  have hJ : ∀ v, imJ v < 4294967296 := fun v => by unfold imJ; omega
  have h0 : (0 : Nat) < 4294967296 := by omega
  have h1 : ∀ (q : Prop) [Decidable q] (x y : In), x.imm < 4294967296 → y.imm < 4294967296 → (if q then x else y).imm < 4294967296 := fun q _ x y hx hy => by split; exact hx; exact hy
  unfold docI madeI
  iterate 20 (refine h1 _ _ _ (by first | exact h0 | exact hI _ | exact hJ _) ?_)
  exact h0
theorem made18 (n : ByteArray) (v : Value) (l : List Int) (w : World) (h : Ints w v l) : Calls Tryz.prog 18 #[.string n, .string (selA n).form, v] w fun e w' => e = .returned (madeI n (formL8 n) (l.getD 0 0) (l.getD 1 0) (l.getD 2 0) (l.getD 3 0)).val ∧ Below w.heap.size w w' := by
  have hF : (selA n).form = ⟨(formL8 n).toArray⟩ := by rw [← form_eq, formL8, ba_list]
  rw [hF]
  have hf : formL8 n = [] ∨ formL8 n ∈ [[100, 115, 116], [100, 116, 97], [100, 116, 114], [100, 116, 115], [100, 116, 118], [100, 115], [100, 115, 100], [100, 116], [116, 100], [100], [115], [115, 116], [99], [106], [115, 111], [115, 116, 111], [116, 115, 105], [116, 105], [116, 109], [116, 115, 120]] := by
    rcases name_cases n with ⟨a, ha, hn⟩ | hh
    · right
      have := of_decide_eq_true (List.all_eq_true.1 rows_forms _ (List.getElem_mem ha))
      have e : formL8 n = rowsL[a].form.toList := by rw [formL8, foundR, found_name ha n hn]; rfl
      rw [e]; exact this
    · left
      rw [formL8, foundR, hh]
      decide +kernel
  generalize formL8 n = f at hf ⊢
  rcases hf with rfl | hf
  · exact made_none n v l w h
  · simp only [List.mem_cons, List.not_mem_nil, or_false] at hf
    rcases hf with rfl | rfl | rfl | rfl | rfl | rfl | rfl | rfl | rfl | rfl | rfl | rfl | rfl | rfl | rfl | rfl | rfl | rfl | rfl | rfl
    · exact made_dst n v l w h
    · exact made_dta n v l w h
    · exact made_dtr n v l w h
    · exact made_dts n v l w h
    · exact made_dtv n v l w h
    · exact made_ds n v l w h
    · exact made_dsd n v l w h
    · exact made_dt n v l w h
    · exact made_td n v l w h
    · exact made_d n v l w h
    · exact made_s n v l w h
    · exact made_st n v l w h
    · exact made_c n v l w h
    · exact made_j n v l w h
    · exact made_so n v l w h
    · exact made_sto n v l w h
    · exact made_tsi n v l w h
    · exact made_ti n v l w h
    · exact made_tm n v l w h
    · exact made_tsx n v l w h
end Go.Proofs.YtglkkeelocdanaaGreatDoor
