import Derived.Test.YtimfipkbddpdmaaGreatDoorXb
set_option linter.unusedVariables false
set_option linter.unusedSimpArgs false
set_option maxRecDepth 100000
open Go Go.RowKit
namespace Go.Proofs.YtimfipkbddpdmaaGreatDoor.Wd
theorem cell_newA (W : World) (cs : Array Value) (t n i : Nat) (x : Value) (h : n = W.heap.size) (hx : cs[i]? = some x) : (W.alloc (.cells cs t)).cell? ⟨n, i, none⟩ = some x := by
 subst h; rw [World.cell?_alloc_at _ _ _ _ (by simp)]; exact hx
theorem cell_old {w : World} {a : Addr} {v : Value} (h : w.cell? a = some v) (o : Obj) : (w.alloc o).cell? a = some v := keep_cell ((Below.refl _ _).alloc (Nat.le_refl _) _) h
theorem box11 (w : World) (a b : Value) (t u : Nat) : ∃ W, (w.alloc (.cells #[a] t)).alloc (.cells #[b] u) = W /\ Below w.heap.size w W /\ W.cell? ⟨w.heap.size, 0, none⟩ = some a /\ W.cell? ⟨w.heap.size + 1, 0, none⟩ = some b := by
 refine ⟨_, rfl, ((Below.refl _ _).alloc (Nat.le_refl _) _).alloc (by simp) _, ?_, ?_⟩
 ·exact cell_old (cell_newA w _ _ _ _ _ rfl rfl) _
 ·exact cell_newA _ _ _ _ _ _ (by simp) rfl
def wIdx (n : ByteArray) : Option Nat := if n = ⟨#[109, 117, 108, 116]⟩ then some 0
 else if n = ⟨#[109, 117, 108, 116, 117]⟩ then some 1
 else if n = ⟨#[109, 97, 100, 100]⟩ then some 2
 else if n = ⟨#[109, 97, 100, 100, 117]⟩ then some 3
 else if n = ⟨#[109, 115, 117, 98]⟩ then some 4
 else if n = ⟨#[109, 115, 117, 98, 117]⟩ then some 5
 else if n = ⟨#[100, 105, 118]⟩ then some 6
 else if n = ⟨#[100, 105, 118, 117]⟩ then some 7
 else if n = ⟨#[109, 116, 104, 105]⟩ then some 8
 else if n = ⟨#[109, 116, 108, 111]⟩ then some 9
 else none
set_option maxHeartbeats 1000000 in
theorem work22_0 (s t : Nat) (w : World) : Calls Tryz.prog 103 #[.string ⟨#[109, 117, 108, 116]⟩, .int .u32 s, .int .u32 t] w fun e w' => e = .returned (.func (.func 123) #[] #[.pointer (some ⟨w.heap.size, 0, none⟩), .pointer (some ⟨w.heap.size + 1, 0, none⟩)]) /\ Below w.heap.size w w' /\ w'.cell? ⟨w.heap.size, 0, none⟩ = some (.int .u32 s) /\ w'.cell? ⟨w.heap.size + 1, 0, none⟩ = some (.int .u32 t) := by
 have hmf : ∀ (fn : Fn) (first cap : Array Value) (w : World), (Instr.makeFunc fn first cap).run Tryz.prog w = .ok (.func fn first cap) w := fun _ _ _ _ => rfl
 obtain ⟨W, hW, hb, c0, c1⟩ := box11 w (.int .u32 s) (.int .u32 t) 22 22
 have H : Hid (Below w.heap.size w W /\ W.cell? ⟨w.heap.size, 0, none⟩ = some (.int .u32 s) /\ W.cell? ⟨w.heap.size + 1, 0, none⟩ = some (.int .u32 t)) := ⟨hb, c0, c1⟩
 clear hb c0 c1
 go_enter Tryz.func103, Tryz.ntmps103
 go_wp2
 go_ret
 exact ⟨rfl, H.out⟩
set_option maxHeartbeats 1000000 in
theorem work22_1 (s t : Nat) (w : World) : Calls Tryz.prog 103 #[.string ⟨#[109, 117, 108, 116, 117]⟩, .int .u32 s, .int .u32 t] w fun e w' => e = .returned (.func (.func 126) #[] #[.pointer (some ⟨w.heap.size, 0, none⟩), .pointer (some ⟨w.heap.size + 1, 0, none⟩)]) /\ Below w.heap.size w w' /\ w'.cell? ⟨w.heap.size, 0, none⟩ = some (.int .u32 s) /\ w'.cell? ⟨w.heap.size + 1, 0, none⟩ = some (.int .u32 t) := by
 have hmf : ∀ (fn : Fn) (first cap : Array Value) (w : World), (Instr.makeFunc fn first cap).run Tryz.prog w = .ok (.func fn first cap) w := fun _ _ _ _ => rfl
 obtain ⟨W, hW, hb, c0, c1⟩ := box11 w (.int .u32 s) (.int .u32 t) 22 22
 have H : Hid (Below w.heap.size w W /\ W.cell? ⟨w.heap.size, 0, none⟩ = some (.int .u32 s) /\ W.cell? ⟨w.heap.size + 1, 0, none⟩ = some (.int .u32 t)) := ⟨hb, c0, c1⟩
 clear hb c0 c1
 go_enter Tryz.func103, Tryz.ntmps103
 go_wp2
 go_ret
 exact ⟨rfl, H.out⟩
set_option maxHeartbeats 1000000 in
theorem work22_2 (s t : Nat) (w : World) : Calls Tryz.prog 103 #[.string ⟨#[109, 97, 100, 100]⟩, .int .u32 s, .int .u32 t] w fun e w' => e = .returned (.func (.func 128) #[] #[.pointer (some ⟨w.heap.size, 0, none⟩), .pointer (some ⟨w.heap.size + 1, 0, none⟩)]) /\ Below w.heap.size w w' /\ w'.cell? ⟨w.heap.size, 0, none⟩ = some (.int .u32 s) /\ w'.cell? ⟨w.heap.size + 1, 0, none⟩ = some (.int .u32 t) := by
 have hmf : ∀ (fn : Fn) (first cap : Array Value) (w : World), (Instr.makeFunc fn first cap).run Tryz.prog w = .ok (.func fn first cap) w := fun _ _ _ _ => rfl
 obtain ⟨W, hW, hb, c0, c1⟩ := box11 w (.int .u32 s) (.int .u32 t) 22 22
 have H : Hid (Below w.heap.size w W /\ W.cell? ⟨w.heap.size, 0, none⟩ = some (.int .u32 s) /\ W.cell? ⟨w.heap.size + 1, 0, none⟩ = some (.int .u32 t)) := ⟨hb, c0, c1⟩
 clear hb c0 c1
 go_enter Tryz.func103, Tryz.ntmps103
 go_wp2
 go_ret
 exact ⟨rfl, H.out⟩
set_option maxHeartbeats 1000000 in
theorem work22_3 (s t : Nat) (w : World) : Calls Tryz.prog 103 #[.string ⟨#[109, 97, 100, 100, 117]⟩, .int .u32 s, .int .u32 t] w fun e w' => e = .returned (.func (.func 129) #[] #[.pointer (some ⟨w.heap.size, 0, none⟩), .pointer (some ⟨w.heap.size + 1, 0, none⟩)]) /\ Below w.heap.size w w' /\ w'.cell? ⟨w.heap.size, 0, none⟩ = some (.int .u32 s) /\ w'.cell? ⟨w.heap.size + 1, 0, none⟩ = some (.int .u32 t) := by
 have hmf : ∀ (fn : Fn) (first cap : Array Value) (w : World), (Instr.makeFunc fn first cap).run Tryz.prog w = .ok (.func fn first cap) w := fun _ _ _ _ => rfl
 obtain ⟨W, hW, hb, c0, c1⟩ := box11 w (.int .u32 s) (.int .u32 t) 22 22
 have H : Hid (Below w.heap.size w W /\ W.cell? ⟨w.heap.size, 0, none⟩ = some (.int .u32 s) /\ W.cell? ⟨w.heap.size + 1, 0, none⟩ = some (.int .u32 t)) := ⟨hb, c0, c1⟩
 clear hb c0 c1
 go_enter Tryz.func103, Tryz.ntmps103
 go_wp2
 go_ret
 exact ⟨rfl, H.out⟩
set_option maxHeartbeats 1000000 in
theorem work22_4 (s t : Nat) (w : World) : Calls Tryz.prog 103 #[.string ⟨#[109, 115, 117, 98]⟩, .int .u32 s, .int .u32 t] w fun e w' => e = .returned (.func (.func 130) #[] #[.pointer (some ⟨w.heap.size, 0, none⟩), .pointer (some ⟨w.heap.size + 1, 0, none⟩)]) /\ Below w.heap.size w w' /\ w'.cell? ⟨w.heap.size, 0, none⟩ = some (.int .u32 s) /\ w'.cell? ⟨w.heap.size + 1, 0, none⟩ = some (.int .u32 t) := by
 have hmf : ∀ (fn : Fn) (first cap : Array Value) (w : World), (Instr.makeFunc fn first cap).run Tryz.prog w = .ok (.func fn first cap) w := fun _ _ _ _ => rfl
 obtain ⟨W, hW, hb, c0, c1⟩ := box11 w (.int .u32 s) (.int .u32 t) 22 22
 have H : Hid (Below w.heap.size w W /\ W.cell? ⟨w.heap.size, 0, none⟩ = some (.int .u32 s) /\ W.cell? ⟨w.heap.size + 1, 0, none⟩ = some (.int .u32 t)) := ⟨hb, c0, c1⟩
 clear hb c0 c1
 go_enter Tryz.func103, Tryz.ntmps103
 go_wp2
 go_ret
 exact ⟨rfl, H.out⟩
set_option maxHeartbeats 1000000 in
theorem work22_5 (s t : Nat) (w : World) : Calls Tryz.prog 103 #[.string ⟨#[109, 115, 117, 98, 117]⟩, .int .u32 s, .int .u32 t] w fun e w' => e = .returned (.func (.func 131) #[] #[.pointer (some ⟨w.heap.size, 0, none⟩), .pointer (some ⟨w.heap.size + 1, 0, none⟩)]) /\ Below w.heap.size w w' /\ w'.cell? ⟨w.heap.size, 0, none⟩ = some (.int .u32 s) /\ w'.cell? ⟨w.heap.size + 1, 0, none⟩ = some (.int .u32 t) := by
 have hmf : ∀ (fn : Fn) (first cap : Array Value) (w : World), (Instr.makeFunc fn first cap).run Tryz.prog w = .ok (.func fn first cap) w := fun _ _ _ _ => rfl
 obtain ⟨W, hW, hb, c0, c1⟩ := box11 w (.int .u32 s) (.int .u32 t) 22 22
 have H : Hid (Below w.heap.size w W /\ W.cell? ⟨w.heap.size, 0, none⟩ = some (.int .u32 s) /\ W.cell? ⟨w.heap.size + 1, 0, none⟩ = some (.int .u32 t)) := ⟨hb, c0, c1⟩
 clear hb c0 c1
 go_enter Tryz.func103, Tryz.ntmps103
 go_wp2
 go_ret
 exact ⟨rfl, H.out⟩
set_option maxHeartbeats 1000000 in
theorem work22_6 (s t : Nat) (w : World) : Calls Tryz.prog 103 #[.string ⟨#[100, 105, 118]⟩, .int .u32 s, .int .u32 t] w fun e w' => e = .returned (.func (.func 132) #[] #[.pointer (some ⟨w.heap.size, 0, none⟩), .pointer (some ⟨w.heap.size + 1, 0, none⟩)]) /\ Below w.heap.size w w' /\ w'.cell? ⟨w.heap.size, 0, none⟩ = some (.int .u32 s) /\ w'.cell? ⟨w.heap.size + 1, 0, none⟩ = some (.int .u32 t) := by
 have hmf : ∀ (fn : Fn) (first cap : Array Value) (w : World), (Instr.makeFunc fn first cap).run Tryz.prog w = .ok (.func fn first cap) w := fun _ _ _ _ => rfl
 obtain ⟨W, hW, hb, c0, c1⟩ := box11 w (.int .u32 s) (.int .u32 t) 22 22
 have H : Hid (Below w.heap.size w W /\ W.cell? ⟨w.heap.size, 0, none⟩ = some (.int .u32 s) /\ W.cell? ⟨w.heap.size + 1, 0, none⟩ = some (.int .u32 t)) := ⟨hb, c0, c1⟩
 clear hb c0 c1
 go_enter Tryz.func103, Tryz.ntmps103
 go_wp2
 go_ret
 exact ⟨rfl, H.out⟩
set_option maxHeartbeats 1000000 in
theorem work22_7 (s t : Nat) (w : World) : Calls Tryz.prog 103 #[.string ⟨#[100, 105, 118, 117]⟩, .int .u32 s, .int .u32 t] w fun e w' => e = .returned (.func (.func 134) #[] #[.pointer (some ⟨w.heap.size, 0, none⟩), .pointer (some ⟨w.heap.size + 1, 0, none⟩)]) /\ Below w.heap.size w w' /\ w'.cell? ⟨w.heap.size, 0, none⟩ = some (.int .u32 s) /\ w'.cell? ⟨w.heap.size + 1, 0, none⟩ = some (.int .u32 t) := by
 have hmf : ∀ (fn : Fn) (first cap : Array Value) (w : World), (Instr.makeFunc fn first cap).run Tryz.prog w = .ok (.func fn first cap) w := fun _ _ _ _ => rfl
 obtain ⟨W, hW, hb, c0, c1⟩ := box11 w (.int .u32 s) (.int .u32 t) 22 22
 have H : Hid (Below w.heap.size w W /\ W.cell? ⟨w.heap.size, 0, none⟩ = some (.int .u32 s) /\ W.cell? ⟨w.heap.size + 1, 0, none⟩ = some (.int .u32 t)) := ⟨hb, c0, c1⟩
 clear hb c0 c1
 go_enter Tryz.func103, Tryz.ntmps103
 go_wp2
 go_ret
 exact ⟨rfl, H.out⟩
set_option maxHeartbeats 1000000 in
theorem work22_8 (s t : Nat) (w : World) : Calls Tryz.prog 103 #[.string ⟨#[109, 116, 104, 105]⟩, .int .u32 s, .int .u32 t] w fun e w' => e = .returned (.func (.func 135) #[] #[.pointer (some ⟨w.heap.size, 0, none⟩)]) /\ Below w.heap.size w w' /\ w'.cell? ⟨w.heap.size, 0, none⟩ = some (.int .u32 s) /\ w'.cell? ⟨w.heap.size + 1, 0, none⟩ = some (.int .u32 t) := by
 have hmf : ∀ (fn : Fn) (first cap : Array Value) (w : World), (Instr.makeFunc fn first cap).run Tryz.prog w = .ok (.func fn first cap) w := fun _ _ _ _ => rfl
 obtain ⟨W, hW, hb, c0, c1⟩ := box11 w (.int .u32 s) (.int .u32 t) 22 22
 have H : Hid (Below w.heap.size w W /\ W.cell? ⟨w.heap.size, 0, none⟩ = some (.int .u32 s) /\ W.cell? ⟨w.heap.size + 1, 0, none⟩ = some (.int .u32 t)) := ⟨hb, c0, c1⟩
 clear hb c0 c1
 go_enter Tryz.func103, Tryz.ntmps103
 go_wp2
 go_ret
 exact ⟨rfl, H.out⟩
set_option maxHeartbeats 1000000 in
theorem work22_9 (s t : Nat) (w : World) : Calls Tryz.prog 103 #[.string ⟨#[109, 116, 108, 111]⟩, .int .u32 s, .int .u32 t] w fun e w' => e = .returned (.func (.func 138) #[] #[.pointer (some ⟨w.heap.size, 0, none⟩)]) /\ Below w.heap.size w w' /\ w'.cell? ⟨w.heap.size, 0, none⟩ = some (.int .u32 s) /\ w'.cell? ⟨w.heap.size + 1, 0, none⟩ = some (.int .u32 t) := by
 have hmf : ∀ (fn : Fn) (first cap : Array Value) (w : World), (Instr.makeFunc fn first cap).run Tryz.prog w = .ok (.func fn first cap) w := fun _ _ _ _ => rfl
 obtain ⟨W, hW, hb, c0, c1⟩ := box11 w (.int .u32 s) (.int .u32 t) 22 22
 have H : Hid (Below w.heap.size w W /\ W.cell? ⟨w.heap.size, 0, none⟩ = some (.int .u32 s) /\ W.cell? ⟨w.heap.size + 1, 0, none⟩ = some (.int .u32 t)) := ⟨hb, c0, c1⟩
 clear hb c0 c1
 go_enter Tryz.func103, Tryz.ntmps103
 go_wp2
 go_ret
 exact ⟨rfl, H.out⟩
def NoneW (n : ByteArray) : Prop := (n.toList == [109, 117, 108, 116]) = false /\ (n.toList == [109, 117, 108, 116, 117]) = false /\ (n.toList == [109, 97, 100, 100]) = false /\ (n.toList == [109, 97, 100, 100, 117]) = false /\ (n.toList == [109, 115, 117, 98]) = false /\ (n.toList == [109, 115, 117, 98, 117]) = false /\ (n.toList == [100, 105, 118]) = false /\ (n.toList == [100, 105, 118, 117]) = false /\ (n.toList == [109, 116, 104, 105]) = false /\ (n.toList == [109, 116, 108, 111]) = false
theorem toList_inj {x y : ByteArray} (h : x.toList = y.toList) : x = y := by
 rw [ByteArray.toList_eq, ByteArray.toList_eq] at h
 exact ByteArray.ext (Array.toList_inj.1 h)
theorem lit_ne {n m : ByteArray} {l : List UInt8} (hm : m.toList = l) (h : ¬ n = m) : (n.toList == l) = false := by
 rw [beq_eq_false_iff_ne]
 intro e
 apply h
 rw [<- hm] at e
 exact toList_inj e
theorem none_of {n : ByteArray} (h : wIdx n = none) : NoneW n := by
 unfold wIdx at h
 by_cases h0 : n = ⟨#[109, 117, 108, 116]⟩
 ·rw [if_pos h0] at h; cases h
 rw [if_neg h0] at h
 by_cases h1 : n = ⟨#[109, 117, 108, 116, 117]⟩
 ·rw [if_pos h1] at h; cases h
 rw [if_neg h1] at h
 by_cases h2 : n = ⟨#[109, 97, 100, 100]⟩
 ·rw [if_pos h2] at h; cases h
 rw [if_neg h2] at h
 by_cases h3 : n = ⟨#[109, 97, 100, 100, 117]⟩
 ·rw [if_pos h3] at h; cases h
 rw [if_neg h3] at h
 by_cases h4 : n = ⟨#[109, 115, 117, 98]⟩
 ·rw [if_pos h4] at h; cases h
 rw [if_neg h4] at h
 by_cases h5 : n = ⟨#[109, 115, 117, 98, 117]⟩
 ·rw [if_pos h5] at h; cases h
 rw [if_neg h5] at h
 by_cases h6 : n = ⟨#[100, 105, 118]⟩
 ·rw [if_pos h6] at h; cases h
 rw [if_neg h6] at h
 by_cases h7 : n = ⟨#[100, 105, 118, 117]⟩
 ·rw [if_pos h7] at h; cases h
 rw [if_neg h7] at h
 by_cases h8 : n = ⟨#[109, 116, 104, 105]⟩
 ·rw [if_pos h8] at h; cases h
 rw [if_neg h8] at h
 by_cases h9 : n = ⟨#[109, 116, 108, 111]⟩
 ·rw [if_pos h9] at h; cases h
 rw [if_neg h9] at h
 exact ⟨lit_ne (by decide +kernel) h0, lit_ne (by decide +kernel) h1, lit_ne (by decide +kernel) h2, lit_ne (by decide +kernel) h3, lit_ne (by decide +kernel) h4, lit_ne (by decide +kernel) h5, lit_ne (by decide +kernel) h6, lit_ne (by decide +kernel) h7, lit_ne (by decide +kernel) h8, lit_ne (by decide +kernel) h9⟩
set_option maxHeartbeats 1000000 in
theorem work22_no (n : ByteArray) (h : NoneW n) (s t : Nat) (w : World) : Calls Tryz.prog 103 #[.string n, .int .u32 s, .int .u32 t] w fun e w' => e = .returned .nilFunc /\ Below w.heap.size w w' := by
 obtain ⟨n0, n1, n2, n3, n4, n5, n6, n7, n8, n9⟩ := h
 obtain ⟨W, hW, hb, c0, c1⟩ := box11 w (.int .u32 s) (.int .u32 t) 22 22
 have H : Hid (Below w.heap.size w W) := hb
 clear hb c0 c1
 go_enter Tryz.func103, Tryz.ntmps103
 go_wp2
 go_ret
 exact ⟨rfl, H.out⟩
set_option maxHeartbeats 1000000 in
theorem changed23 (hi lo z fn : Nat) (caps : Array Value) (hh : hi < 4294967296) (hl : lo < 4294967296) (hz : z < 18446744073709551616) (w : World)
  (hc : ∀ w1, (callFunc fn (#[.int .u64 ((hi * 4294967296 + lo : Nat) : Int)] ++ caps)).run Tryz.prog w1 = .ok (.enter fn (#[.int .u64 ((hi * 4294967296 + lo : Nat) : Int)] ++ caps)) w1)
  (h : Calls Tryz.prog fn (#[.int .u64 ((hi * 4294967296 + lo : Nat) : Int)] ++ caps) w fun e w2 => e = .returned (.int .u64 z) /\ Below w.heap.size w w2) :
  Calls Tryz.prog 104 #[.int .u32 hi, .int .u32 lo, .func (.func fn) #[] caps] w fun e w' => e = .returned (.tuple #[.int .u32 ((z / 4294967296 : Nat) : Int), .int .u32 ((z % 4294967296 : Nat) : Int)]) /\ Below w.heap.size w w' := by
 have K1 : Hid (∀ w, Calls Tryz.prog 136 #[.int .u32 hi, .int .u32 lo] w fun e w' => e = .returned (.int .u64 ((hi * 4294967296 + lo : Nat) : Int)) /\ w' = w) := joined49 hi lo hh hl
 have K2 : Hid (∀ w, Calls Tryz.prog 139 #[.int .u64 z] w fun e w' => e = .returned (.int .u32 ((z / 4294967296 : Nat) : Int)) /\ w' = w) := high52 z hz
 have K3 : Hid (∀ w, Calls Tryz.prog 137 #[.int .u64 z] w fun e w' => e = .returned (.int .u32 ((z % 4294967296 : Nat) : Int)) /\ w' = w) := low50 z hz
 have h' : Hid (Calls Tryz.prog fn (#[.int .u64 ((hi * 4294967296 + lo : Nat) : Int)] ++ caps) w fun e w2 => e = .returned (.int .u64 z) /\ Below w.heap.size w w2) := h
 clear h
 generalize hi * 4294967296 + lo = b at *
 generalize z / 4294967296 = zh at *
 generalize z % 4294967296 = zl at *
 clear hh hl hz
 go_enter Tryz.func104, Tryz.ntmps104
 go_wp2_with fail
 refine (K1.out _).mono ?_
 rintro e w1 ⟨rfl, rfl⟩
 go_wp2_with fail
 refine Calls.mono h'.out ?_
 rintro e w1 ⟨rfl, hb⟩
 go_wp2_with fail
 refine (K2.out _).mono ?_
 rintro e w2 ⟨rfl, rfl⟩
 go_wp2_with fail
 refine (K3.out _).mono ?_
 rintro e w2 ⟨rfl, rfl⟩
 go_wp2
 go_ret2
 exact ⟨rfl, hb⟩
theorem fn_neq (f : Fn) (a c : Array Value) (w : World) : (binOp .neq 171 (.func f a c) .nilFunc).run Tryz.prog w = .ok (.bool true) w := by kernel_rfl
theorem fn_nil (w : World) : (binOp .neq 171 .nilFunc .nilFunc).run Tryz.prog w = .ok (.bool false) w := by kernel_rfl
def doN (n : ByteArray) (s t hi lo : Nat) : Nat × Nat := match wIdx n with
 | some k => (workN k s t (hi * 4294967296 + lo) / 4294967296, workN k s t (hi * 4294967296 + lo) % 4294967296)
 | none => (hi, lo)
abbrev DoIs (n : ByteArray) (s t hi lo : Nat) (e : Ending) : Prop := e = .returned (.tuple #[.int .u32 ((doN n s t hi lo).1 : Int), .int .u32 ((doN n s t hi lo).2 : Int)])
set_option maxHeartbeats 1000000 in
theorem do8_no (n : ByteArray) (h : NoneW n) (s t hi lo : Nat) (w : World) : Calls Tryz.prog 85 #[.string n, .int .u32 s, .int .u32 t, .int .u32 hi, .int .u32 lo] w fun e w' => e = .returned (.tuple #[.int .u32 hi, .int .u32 lo]) /\ Below w.heap.size w w' := by
 have K := work22_no n h s t w
 have K : Hid _ := K
 clear h
 have q1 := fn_neq
 have q2 := fn_nil
 go_enter Tryz.func85, Tryz.ntmps85
 go_wp2_with fail
 refine Calls.mono K.out ?_
 rintro e w1 ⟨rfl, hb⟩
 go_wp2
 go_ret2
 exact ⟨rfl, hb⟩
set_option maxHeartbeats 1000000 in
theorem do8_0 (s t hi lo : Nat) (hs : s < 4294967296) (ht : t < 4294967296) (hh : hi < 4294967296) (hl : lo < 4294967296) (w : World) : Calls Tryz.prog 85 #[.string ⟨#[109, 117, 108, 116]⟩, .int .u32 s, .int .u32 t, .int .u32 hi, .int .u32 lo] w fun e w' => e = .returned (.tuple #[.int .u32 ((workN 0 s t (hi * 4294967296 + lo) / 4294967296 : Nat) : Int), .int .u32 ((workN 0 s t (hi * 4294967296 + lo) % 4294967296 : Nat) : Int)]) /\ Below w.heap.size w w' := by
 have hb0 : hi * 4294967296 + lo < 18446744073709551616 := by omega
 have hz := work_lt 0 s t (hi * 4294967296 + lo) hs ht hb0
 have K : Hid _ := work22_0 s t w
 have K2 : Hid (∀ w1 : World, ∀ ps pt : Addr, w1.cell? ps = some (.int .u32 s) -> w1.cell? pt = some (.int .u32 t) -> Calls Tryz.prog 104 #[.int .u32 hi, .int .u32 lo, .func (.func 123) #[] #[.pointer (some ps), .pointer (some pt)]] w1 fun e w' => e = .returned (.tuple #[.int .u32 ((workN 0 s t (hi * 4294967296 + lo) / 4294967296 : Nat) : Int), .int .u32 ((workN 0 s t (hi * 4294967296 + lo) % 4294967296 : Nat) : Int)]) /\ Below w1.heap.size w1 w') := fun w1 ps pt c0 c1 =>
  changed23 hi lo _ 123 #[.pointer (some ps), .pointer (some pt)] hh hl hz w1 (fun w1 => enter_of Tryz.func123 (by kernel_rfl) (by kernel_rfl) _ w1) (clo36 s t _ hs ht hb0 ps pt _ c0 c1)
 generalize workN 0 s t (hi * 4294967296 + lo) % 4294967296 = zl at *
 generalize workN 0 s t (hi * 4294967296 + lo) / 4294967296 = zh at *
 clear hs ht hh hl hb0 hz
 have q1 := fn_neq
 have q2 := fn_nil
 go_enter Tryz.func85, Tryz.ntmps85
 go_wp2_with fail
 refine Calls.mono K.out ?_
 rintro e w1 ⟨rfl, hb, c0, c1⟩
 go_wp2_with fail
 refine (K2.out w1 _ _ c0 c1).mono ?_
 rintro e w2 ⟨rfl, hb2⟩
 go_wp2
 go_ret2
 exact ⟨rfl, below_tr hb hb2⟩
set_option maxHeartbeats 1000000 in
theorem do8_1 (s t hi lo : Nat) (hs : s < 4294967296) (ht : t < 4294967296) (hh : hi < 4294967296) (hl : lo < 4294967296) (w : World) : Calls Tryz.prog 85 #[.string ⟨#[109, 117, 108, 116, 117]⟩, .int .u32 s, .int .u32 t, .int .u32 hi, .int .u32 lo] w fun e w' => e = .returned (.tuple #[.int .u32 ((workN 1 s t (hi * 4294967296 + lo) / 4294967296 : Nat) : Int), .int .u32 ((workN 1 s t (hi * 4294967296 + lo) % 4294967296 : Nat) : Int)]) /\ Below w.heap.size w w' := by
 have hb0 : hi * 4294967296 + lo < 18446744073709551616 := by omega
 have hz := work_lt 1 s t (hi * 4294967296 + lo) hs ht hb0
 have K : Hid _ := work22_1 s t w
 have K2 : Hid (∀ w1 : World, ∀ ps pt : Addr, w1.cell? ps = some (.int .u32 s) -> w1.cell? pt = some (.int .u32 t) -> Calls Tryz.prog 104 #[.int .u32 hi, .int .u32 lo, .func (.func 126) #[] #[.pointer (some ps), .pointer (some pt)]] w1 fun e w' => e = .returned (.tuple #[.int .u32 ((workN 1 s t (hi * 4294967296 + lo) / 4294967296 : Nat) : Int), .int .u32 ((workN 1 s t (hi * 4294967296 + lo) % 4294967296 : Nat) : Int)]) /\ Below w1.heap.size w1 w') := fun w1 ps pt c0 c1 =>
  changed23 hi lo _ 126 #[.pointer (some ps), .pointer (some pt)] hh hl hz w1 (fun w1 => enter_of Tryz.func126 (by kernel_rfl) (by kernel_rfl) _ w1) (clo39 s t _ hs ht hb0 ps pt _ c0 c1)
 generalize workN 1 s t (hi * 4294967296 + lo) % 4294967296 = zl at *
 generalize workN 1 s t (hi * 4294967296 + lo) / 4294967296 = zh at *
 clear hs ht hh hl hb0 hz
 have q1 := fn_neq
 have q2 := fn_nil
 go_enter Tryz.func85, Tryz.ntmps85
 go_wp2_with fail
 refine Calls.mono K.out ?_
 rintro e w1 ⟨rfl, hb, c0, c1⟩
 go_wp2_with fail
 refine (K2.out w1 _ _ c0 c1).mono ?_
 rintro e w2 ⟨rfl, hb2⟩
 go_wp2
 go_ret2
 exact ⟨rfl, below_tr hb hb2⟩
set_option maxHeartbeats 1000000 in
theorem do8_2 (s t hi lo : Nat) (hs : s < 4294967296) (ht : t < 4294967296) (hh : hi < 4294967296) (hl : lo < 4294967296) (w : World) : Calls Tryz.prog 85 #[.string ⟨#[109, 97, 100, 100]⟩, .int .u32 s, .int .u32 t, .int .u32 hi, .int .u32 lo] w fun e w' => e = .returned (.tuple #[.int .u32 ((workN 2 s t (hi * 4294967296 + lo) / 4294967296 : Nat) : Int), .int .u32 ((workN 2 s t (hi * 4294967296 + lo) % 4294967296 : Nat) : Int)]) /\ Below w.heap.size w w' := by
 have hb0 : hi * 4294967296 + lo < 18446744073709551616 := by omega
 have hz := work_lt 2 s t (hi * 4294967296 + lo) hs ht hb0
 have K : Hid _ := work22_2 s t w
 have K2 : Hid (∀ w1 : World, ∀ ps pt : Addr, w1.cell? ps = some (.int .u32 s) -> w1.cell? pt = some (.int .u32 t) -> Calls Tryz.prog 104 #[.int .u32 hi, .int .u32 lo, .func (.func 128) #[] #[.pointer (some ps), .pointer (some pt)]] w1 fun e w' => e = .returned (.tuple #[.int .u32 ((workN 2 s t (hi * 4294967296 + lo) / 4294967296 : Nat) : Int), .int .u32 ((workN 2 s t (hi * 4294967296 + lo) % 4294967296 : Nat) : Int)]) /\ Below w1.heap.size w1 w') := fun w1 ps pt c0 c1 =>
  changed23 hi lo _ 128 #[.pointer (some ps), .pointer (some pt)] hh hl hz w1 (fun w1 => enter_of Tryz.func128 (by kernel_rfl) (by kernel_rfl) _ w1) (clo41 s t _ hs ht hb0 ps pt _ c0 c1)
 generalize workN 2 s t (hi * 4294967296 + lo) % 4294967296 = zl at *
 generalize workN 2 s t (hi * 4294967296 + lo) / 4294967296 = zh at *
 clear hs ht hh hl hb0 hz
 have q1 := fn_neq
 have q2 := fn_nil
 go_enter Tryz.func85, Tryz.ntmps85
 go_wp2_with fail
 refine Calls.mono K.out ?_
 rintro e w1 ⟨rfl, hb, c0, c1⟩
 go_wp2_with fail
 refine (K2.out w1 _ _ c0 c1).mono ?_
 rintro e w2 ⟨rfl, hb2⟩
 go_wp2
 go_ret2
 exact ⟨rfl, below_tr hb hb2⟩
set_option maxHeartbeats 1000000 in
theorem do8_3 (s t hi lo : Nat) (hs : s < 4294967296) (ht : t < 4294967296) (hh : hi < 4294967296) (hl : lo < 4294967296) (w : World) : Calls Tryz.prog 85 #[.string ⟨#[109, 97, 100, 100, 117]⟩, .int .u32 s, .int .u32 t, .int .u32 hi, .int .u32 lo] w fun e w' => e = .returned (.tuple #[.int .u32 ((workN 3 s t (hi * 4294967296 + lo) / 4294967296 : Nat) : Int), .int .u32 ((workN 3 s t (hi * 4294967296 + lo) % 4294967296 : Nat) : Int)]) /\ Below w.heap.size w w' := by
 have hb0 : hi * 4294967296 + lo < 18446744073709551616 := by omega
 have hz := work_lt 3 s t (hi * 4294967296 + lo) hs ht hb0
 have K : Hid _ := work22_3 s t w
 have K2 : Hid (∀ w1 : World, ∀ ps pt : Addr, w1.cell? ps = some (.int .u32 s) -> w1.cell? pt = some (.int .u32 t) -> Calls Tryz.prog 104 #[.int .u32 hi, .int .u32 lo, .func (.func 129) #[] #[.pointer (some ps), .pointer (some pt)]] w1 fun e w' => e = .returned (.tuple #[.int .u32 ((workN 3 s t (hi * 4294967296 + lo) / 4294967296 : Nat) : Int), .int .u32 ((workN 3 s t (hi * 4294967296 + lo) % 4294967296 : Nat) : Int)]) /\ Below w1.heap.size w1 w') := fun w1 ps pt c0 c1 =>
  changed23 hi lo _ 129 #[.pointer (some ps), .pointer (some pt)] hh hl hz w1 (fun w1 => enter_of Tryz.func129 (by kernel_rfl) (by kernel_rfl) _ w1) (clo42 s t _ hs ht hb0 ps pt _ c0 c1)
 generalize workN 3 s t (hi * 4294967296 + lo) % 4294967296 = zl at *
 generalize workN 3 s t (hi * 4294967296 + lo) / 4294967296 = zh at *
 clear hs ht hh hl hb0 hz
 have q1 := fn_neq
 have q2 := fn_nil
 go_enter Tryz.func85, Tryz.ntmps85
 go_wp2_with fail
 refine Calls.mono K.out ?_
 rintro e w1 ⟨rfl, hb, c0, c1⟩
 go_wp2_with fail
 refine (K2.out w1 _ _ c0 c1).mono ?_
 rintro e w2 ⟨rfl, hb2⟩
 go_wp2
 go_ret2
 exact ⟨rfl, below_tr hb hb2⟩
set_option maxHeartbeats 1000000 in
theorem do8_4 (s t hi lo : Nat) (hs : s < 4294967296) (ht : t < 4294967296) (hh : hi < 4294967296) (hl : lo < 4294967296) (w : World) : Calls Tryz.prog 85 #[.string ⟨#[109, 115, 117, 98]⟩, .int .u32 s, .int .u32 t, .int .u32 hi, .int .u32 lo] w fun e w' => e = .returned (.tuple #[.int .u32 ((workN 4 s t (hi * 4294967296 + lo) / 4294967296 : Nat) : Int), .int .u32 ((workN 4 s t (hi * 4294967296 + lo) % 4294967296 : Nat) : Int)]) /\ Below w.heap.size w w' := by
 have hb0 : hi * 4294967296 + lo < 18446744073709551616 := by omega
 have hz := work_lt 4 s t (hi * 4294967296 + lo) hs ht hb0
 have K : Hid _ := work22_4 s t w
 have K2 : Hid (∀ w1 : World, ∀ ps pt : Addr, w1.cell? ps = some (.int .u32 s) -> w1.cell? pt = some (.int .u32 t) -> Calls Tryz.prog 104 #[.int .u32 hi, .int .u32 lo, .func (.func 130) #[] #[.pointer (some ps), .pointer (some pt)]] w1 fun e w' => e = .returned (.tuple #[.int .u32 ((workN 4 s t (hi * 4294967296 + lo) / 4294967296 : Nat) : Int), .int .u32 ((workN 4 s t (hi * 4294967296 + lo) % 4294967296 : Nat) : Int)]) /\ Below w1.heap.size w1 w') := fun w1 ps pt c0 c1 =>
  changed23 hi lo _ 130 #[.pointer (some ps), .pointer (some pt)] hh hl hz w1 (fun w1 => enter_of Tryz.func130 (by kernel_rfl) (by kernel_rfl) _ w1) (clo43 s t _ hs ht hb0 ps pt _ c0 c1)
 generalize workN 4 s t (hi * 4294967296 + lo) % 4294967296 = zl at *
 generalize workN 4 s t (hi * 4294967296 + lo) / 4294967296 = zh at *
 clear hs ht hh hl hb0 hz
 have q1 := fn_neq
 have q2 := fn_nil
 go_enter Tryz.func85, Tryz.ntmps85
 go_wp2_with fail
 refine Calls.mono K.out ?_
 rintro e w1 ⟨rfl, hb, c0, c1⟩
 go_wp2_with fail
 refine (K2.out w1 _ _ c0 c1).mono ?_
 rintro e w2 ⟨rfl, hb2⟩
 go_wp2
 go_ret2
 exact ⟨rfl, below_tr hb hb2⟩
set_option maxHeartbeats 1000000 in
theorem do8_5 (s t hi lo : Nat) (hs : s < 4294967296) (ht : t < 4294967296) (hh : hi < 4294967296) (hl : lo < 4294967296) (w : World) : Calls Tryz.prog 85 #[.string ⟨#[109, 115, 117, 98, 117]⟩, .int .u32 s, .int .u32 t, .int .u32 hi, .int .u32 lo] w fun e w' => e = .returned (.tuple #[.int .u32 ((workN 5 s t (hi * 4294967296 + lo) / 4294967296 : Nat) : Int), .int .u32 ((workN 5 s t (hi * 4294967296 + lo) % 4294967296 : Nat) : Int)]) /\ Below w.heap.size w w' := by
 have hb0 : hi * 4294967296 + lo < 18446744073709551616 := by omega
 have hz := work_lt 5 s t (hi * 4294967296 + lo) hs ht hb0
 have K : Hid _ := work22_5 s t w
 have K2 : Hid (∀ w1 : World, ∀ ps pt : Addr, w1.cell? ps = some (.int .u32 s) -> w1.cell? pt = some (.int .u32 t) -> Calls Tryz.prog 104 #[.int .u32 hi, .int .u32 lo, .func (.func 131) #[] #[.pointer (some ps), .pointer (some pt)]] w1 fun e w' => e = .returned (.tuple #[.int .u32 ((workN 5 s t (hi * 4294967296 + lo) / 4294967296 : Nat) : Int), .int .u32 ((workN 5 s t (hi * 4294967296 + lo) % 4294967296 : Nat) : Int)]) /\ Below w1.heap.size w1 w') := fun w1 ps pt c0 c1 =>
  changed23 hi lo _ 131 #[.pointer (some ps), .pointer (some pt)] hh hl hz w1 (fun w1 => enter_of Tryz.func131 (by kernel_rfl) (by kernel_rfl) _ w1) (clo44 s t _ hs ht hb0 ps pt _ c0 c1)
 generalize workN 5 s t (hi * 4294967296 + lo) % 4294967296 = zl at *
 generalize workN 5 s t (hi * 4294967296 + lo) / 4294967296 = zh at *
 clear hs ht hh hl hb0 hz
 have q1 := fn_neq
 have q2 := fn_nil
 go_enter Tryz.func85, Tryz.ntmps85
 go_wp2_with fail
 refine Calls.mono K.out ?_
 rintro e w1 ⟨rfl, hb, c0, c1⟩
 go_wp2_with fail
 refine (K2.out w1 _ _ c0 c1).mono ?_
 rintro e w2 ⟨rfl, hb2⟩
 go_wp2
 go_ret2
 exact ⟨rfl, below_tr hb hb2⟩
set_option maxHeartbeats 1000000 in
theorem do8_6 (s t hi lo : Nat) (hs : s < 4294967296) (ht : t < 4294967296) (hh : hi < 4294967296) (hl : lo < 4294967296) (w : World) : Calls Tryz.prog 85 #[.string ⟨#[100, 105, 118]⟩, .int .u32 s, .int .u32 t, .int .u32 hi, .int .u32 lo] w fun e w' => e = .returned (.tuple #[.int .u32 ((workN 6 s t (hi * 4294967296 + lo) / 4294967296 : Nat) : Int), .int .u32 ((workN 6 s t (hi * 4294967296 + lo) % 4294967296 : Nat) : Int)]) /\ Below w.heap.size w w' := by
 have hb0 : hi * 4294967296 + lo < 18446744073709551616 := by omega
 have hz := work_lt 6 s t (hi * 4294967296 + lo) hs ht hb0
 have K : Hid _ := work22_6 s t w
 have K2 : Hid (∀ w1 : World, ∀ ps pt : Addr, w1.cell? ps = some (.int .u32 s) -> w1.cell? pt = some (.int .u32 t) -> Calls Tryz.prog 104 #[.int .u32 hi, .int .u32 lo, .func (.func 132) #[] #[.pointer (some ps), .pointer (some pt)]] w1 fun e w' => e = .returned (.tuple #[.int .u32 ((workN 6 s t (hi * 4294967296 + lo) / 4294967296 : Nat) : Int), .int .u32 ((workN 6 s t (hi * 4294967296 + lo) % 4294967296 : Nat) : Int)]) /\ Below w1.heap.size w1 w') := fun w1 ps pt c0 c1 =>
  changed23 hi lo _ 132 #[.pointer (some ps), .pointer (some pt)] hh hl hz w1 (fun w1 => enter_of Tryz.func132 (by kernel_rfl) (by kernel_rfl) _ w1) (clo45 s t _ hs ht hb0 ps pt _ c0 c1)
 generalize workN 6 s t (hi * 4294967296 + lo) % 4294967296 = zl at *
 generalize workN 6 s t (hi * 4294967296 + lo) / 4294967296 = zh at *
 clear hs ht hh hl hb0 hz
 have q1 := fn_neq
 have q2 := fn_nil
 go_enter Tryz.func85, Tryz.ntmps85
 go_wp2_with fail
 refine Calls.mono K.out ?_
 rintro e w1 ⟨rfl, hb, c0, c1⟩
 go_wp2_with fail
 refine (K2.out w1 _ _ c0 c1).mono ?_
 rintro e w2 ⟨rfl, hb2⟩
 go_wp2
 go_ret2
 exact ⟨rfl, below_tr hb hb2⟩
set_option maxHeartbeats 1000000 in
theorem do8_7 (s t hi lo : Nat) (hs : s < 4294967296) (ht : t < 4294967296) (hh : hi < 4294967296) (hl : lo < 4294967296) (w : World) : Calls Tryz.prog 85 #[.string ⟨#[100, 105, 118, 117]⟩, .int .u32 s, .int .u32 t, .int .u32 hi, .int .u32 lo] w fun e w' => e = .returned (.tuple #[.int .u32 ((workN 7 s t (hi * 4294967296 + lo) / 4294967296 : Nat) : Int), .int .u32 ((workN 7 s t (hi * 4294967296 + lo) % 4294967296 : Nat) : Int)]) /\ Below w.heap.size w w' := by
 have hb0 : hi * 4294967296 + lo < 18446744073709551616 := by omega
 have hz := work_lt 7 s t (hi * 4294967296 + lo) hs ht hb0
 have K : Hid _ := work22_7 s t w
 have K2 : Hid (∀ w1 : World, ∀ ps pt : Addr, w1.cell? ps = some (.int .u32 s) -> w1.cell? pt = some (.int .u32 t) -> Calls Tryz.prog 104 #[.int .u32 hi, .int .u32 lo, .func (.func 134) #[] #[.pointer (some ps), .pointer (some pt)]] w1 fun e w' => e = .returned (.tuple #[.int .u32 ((workN 7 s t (hi * 4294967296 + lo) / 4294967296 : Nat) : Int), .int .u32 ((workN 7 s t (hi * 4294967296 + lo) % 4294967296 : Nat) : Int)]) /\ Below w1.heap.size w1 w') := fun w1 ps pt c0 c1 =>
  changed23 hi lo _ 134 #[.pointer (some ps), .pointer (some pt)] hh hl hz w1 (fun w1 => enter_of Tryz.func134 (by kernel_rfl) (by kernel_rfl) _ w1) (clo47 s t _ hs ht hb0 ps pt _ c0 c1)
 generalize workN 7 s t (hi * 4294967296 + lo) % 4294967296 = zl at *
 generalize workN 7 s t (hi * 4294967296 + lo) / 4294967296 = zh at *
 clear hs ht hh hl hb0 hz
 have q1 := fn_neq
 have q2 := fn_nil
 go_enter Tryz.func85, Tryz.ntmps85
 go_wp2_with fail
 refine Calls.mono K.out ?_
 rintro e w1 ⟨rfl, hb, c0, c1⟩
 go_wp2_with fail
 refine (K2.out w1 _ _ c0 c1).mono ?_
 rintro e w2 ⟨rfl, hb2⟩
 go_wp2
 go_ret2
 exact ⟨rfl, below_tr hb hb2⟩
set_option maxHeartbeats 1000000 in
theorem do8_8 (s t hi lo : Nat) (hs : s < 4294967296) (ht : t < 4294967296) (hh : hi < 4294967296) (hl : lo < 4294967296) (w : World) : Calls Tryz.prog 85 #[.string ⟨#[109, 116, 104, 105]⟩, .int .u32 s, .int .u32 t, .int .u32 hi, .int .u32 lo] w fun e w' => e = .returned (.tuple #[.int .u32 ((workN 8 s t (hi * 4294967296 + lo) / 4294967296 : Nat) : Int), .int .u32 ((workN 8 s t (hi * 4294967296 + lo) % 4294967296 : Nat) : Int)]) /\ Below w.heap.size w w' := by
 have hb0 : hi * 4294967296 + lo < 18446744073709551616 := by omega
 have hz := work_lt 8 s t (hi * 4294967296 + lo) hs ht hb0
 have K : Hid _ := work22_8 s t w
 have K2 : Hid (∀ w1 : World, ∀ ps pt : Addr, w1.cell? ps = some (.int .u32 s) -> w1.cell? pt = some (.int .u32 t) -> Calls Tryz.prog 104 #[.int .u32 hi, .int .u32 lo, .func (.func 135) #[] #[.pointer (some ps)]] w1 fun e w' => e = .returned (.tuple #[.int .u32 ((workN 8 s t (hi * 4294967296 + lo) / 4294967296 : Nat) : Int), .int .u32 ((workN 8 s t (hi * 4294967296 + lo) % 4294967296 : Nat) : Int)]) /\ Below w1.heap.size w1 w') := fun w1 ps pt c0 c1 =>
  changed23 hi lo _ 135 #[.pointer (some ps)] hh hl hz w1 (fun w1 => enter_of Tryz.func135 (by kernel_rfl) (by kernel_rfl) _ w1) (clo48 s t _ hs ht hb0 ps pt _ c0)
 generalize workN 8 s t (hi * 4294967296 + lo) % 4294967296 = zl at *
 generalize workN 8 s t (hi * 4294967296 + lo) / 4294967296 = zh at *
 clear hs ht hh hl hb0 hz
 have q1 := fn_neq
 have q2 := fn_nil
 go_enter Tryz.func85, Tryz.ntmps85
 go_wp2_with fail
 refine Calls.mono K.out ?_
 rintro e w1 ⟨rfl, hb, c0, c1⟩
 go_wp2_with fail
 refine (K2.out w1 _ _ c0 c1).mono ?_
 rintro e w2 ⟨rfl, hb2⟩
 go_wp2
 go_ret2
 exact ⟨rfl, below_tr hb hb2⟩
set_option maxHeartbeats 1000000 in
theorem do8_9 (s t hi lo : Nat) (hs : s < 4294967296) (ht : t < 4294967296) (hh : hi < 4294967296) (hl : lo < 4294967296) (w : World) : Calls Tryz.prog 85 #[.string ⟨#[109, 116, 108, 111]⟩, .int .u32 s, .int .u32 t, .int .u32 hi, .int .u32 lo] w fun e w' => e = .returned (.tuple #[.int .u32 ((workN 9 s t (hi * 4294967296 + lo) / 4294967296 : Nat) : Int), .int .u32 ((workN 9 s t (hi * 4294967296 + lo) % 4294967296 : Nat) : Int)]) /\ Below w.heap.size w w' := by
 have hb0 : hi * 4294967296 + lo < 18446744073709551616 := by omega
 have hz := work_lt 9 s t (hi * 4294967296 + lo) hs ht hb0
 have K : Hid _ := work22_9 s t w
 have K2 : Hid (∀ w1 : World, ∀ ps pt : Addr, w1.cell? ps = some (.int .u32 s) -> w1.cell? pt = some (.int .u32 t) -> Calls Tryz.prog 104 #[.int .u32 hi, .int .u32 lo, .func (.func 138) #[] #[.pointer (some ps)]] w1 fun e w' => e = .returned (.tuple #[.int .u32 ((workN 9 s t (hi * 4294967296 + lo) / 4294967296 : Nat) : Int), .int .u32 ((workN 9 s t (hi * 4294967296 + lo) % 4294967296 : Nat) : Int)]) /\ Below w1.heap.size w1 w') := fun w1 ps pt c0 c1 =>
  changed23 hi lo _ 138 #[.pointer (some ps)] hh hl hz w1 (fun w1 => enter_of Tryz.func138 (by kernel_rfl) (by kernel_rfl) _ w1) (clo51 s t _ hs ht hb0 ps pt _ c0)
 generalize workN 9 s t (hi * 4294967296 + lo) % 4294967296 = zl at *
 generalize workN 9 s t (hi * 4294967296 + lo) / 4294967296 = zh at *
 clear hs ht hh hl hb0 hz
 have q1 := fn_neq
 have q2 := fn_nil
 go_enter Tryz.func85, Tryz.ntmps85
 go_wp2_with fail
 refine Calls.mono K.out ?_
 rintro e w1 ⟨rfl, hb, c0, c1⟩
 go_wp2_with fail
 refine (K2.out w1 _ _ c0 c1).mono ?_
 rintro e w2 ⟨rfl, hb2⟩
 go_wp2
 go_ret2
 exact ⟨rfl, below_tr hb hb2⟩
end Go.Proofs.YtimfipkbddpdmaaGreatDoor.Wd
