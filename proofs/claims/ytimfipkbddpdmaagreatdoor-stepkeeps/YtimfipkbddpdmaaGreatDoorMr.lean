import Derived.Test.YtimfipkbddpdmaaGreatDoorMn
import Derived.Test.YtimfipkbddpdmaaGreatDoorXc
import Derived.Deep.RegionWith
import Derived.Test.YtimfipkbddpdmaaGreatDoorVals
import Derived.BigRegion
set_option linter.unusedVariables false
set_option linter.unusedSimpArgs false
set_option maxRecDepth 100000
open Go Go.RowKit
namespace Go.Proofs.YtimfipkbddpdmaaGreatDoor
def onC (r : Except Ev Cp) (cs : List (Nat × Int)) : Except Ev (Cp × List (Nat × Int)) := match r with
 | .ok c => .ok (c, cs)
 | .error e => .error e
theorem TellsL.to {M : Mem} {cs : List (Nat × Int)} {g : Gv} {b : Nat} {w w' : World} {r : Except Ev Cp} {e : Ending} (h : TellsL M cs g b w r e w') : Tells M b w (.tuple #[]) (onC r cs) e w' := by
 cases r with
 | ok c => exact ⟨h.1, h.2.1, g, h.2.2⟩
 | error ev => exact ⟨h.1, h.2⟩
def reachB (M : Mem) (c : Cp) (cs : List (Nat × Int)) (n : List UInt8) (rt t A : Nat) : Except Ev (Cp × List (Nat × Int)) :=
 if n == [108, 98] then onC (lput (ldR M cs A 1) c rt (fun v => Sw.sextI v 8)) cs
 else if n == [108, 98, 117] then onC (lput (ldR M cs A 1) c rt (fun v => v)) cs
 else if n == [108, 104] then onC (lput (ldR M cs A 2) c rt (fun v => Sw.sextI v 16)) cs
 else if n == [108, 104, 117] then onC (lput (ldR M cs A 2) c rt (fun v => v)) cs
 else if n == [108, 119] then onC (lput (ldR M cs A 4) c rt (fun v => v)) cs
 else if n == [108, 108] then onC (llR (ldR M cs A 4) c rt A) cs
 else if n == [108, 119, 108] then onC (lput (ldR M cs (A - A % 4) 4) c rt (fun v => Wd.layN true t v (Wd.aheadN ((A % 4 : Nat) : Int)))) cs
 else if n == [108, 119, 114] then onC (lput (ldR M cs (A - A % 4) 4) c rt (fun v => Wd.layN false t v (Wd.behindN ((A % 4 : Nat) : Int)))) cs
 else if n == [115, 98] then stR M c cs A 1 t
 else if n == [115, 104] then stR M c cs A 2 t
 else if n == [115, 119] then stR M c cs A 4 t
 else if n == [115, 99] then stput (slR M c cs A t) rt
 else if n == [115, 119, 108] then swR (ldR M cs (A - A % 4) 4) (fun v => stR M c cs (A - A % 4) 4 (Wd.layN false v t (Wd.aheadN ((A % 4 : Nat) : Int))))
 else if n == [115, 119, 114] then swR (ldR M cs (A - A % 4) 4) (fun v => stR M c cs (A - A % 4) 4 (Wd.layN true v t (Wd.behindN ((A % 4 : Nat) : Int))))
 else .ok (c, cs)
def addrN (i : In) (s : Nat) : Nat := (s + simN i) % 4294967296
theorem reach88 (M : Mem) (c : Cp) (cs : List (Nat × Int)) (g : Gv) (b : Nat) (i : In) (s t : Nat) (hc : c.Ok) (hrt : 0 <= i.rt /\ i.rt < 32) (hrd : 0 <= i.rd) (hs : s < 4294967296) (ht : t < 4294967296) (w : World) (h : MS M c cs g b w) (hG : Good M cs) :
  Calls Tryz.prog 88 #[.pointer (some ⟨b, 0, none⟩), i.val, .int .u32 s, .int .u32 t] w (Tells M b w (.tuple #[]) (reachB M c cs i.name.toList i.rt.toNat t (addrN i s))) := by
 have hK := simm79 i
 obtain ⟨A, eA⟩ : ∃ x, x = addrN i s := ⟨_, rfl⟩
 have eA' : A = (s + simN i) % 4294967296 := eA
 rw [<- eA]
 generalize simN i = SM at hK eA'
 obtain ⟨name, rs, rt, rd, sa, imm⟩ := i
 simp only at hrt hrd
 obtain ⟨kt, rfl⟩ := Int.eq_ofNat_of_zero_le hrt.1
 obtain ⟨kd, rfl⟩ := Int.eq_ofNat_of_zero_le hrd
 have hkt : kt < 32 := by omega
 unfold In.val at hK |-
 simp only [show ((kt : Int)).toNat = kt from rfl]
 unfold reachB
 cases h0 : (name.toList == [108, 98]) with
 | true => rw [if_pos rfl]; exact (reach88_lb M c cs g b name rs sa kt kd imm s t SM A (A % 4) (A - A % 4) hc hkt hs ht w h hG hK eA' rfl rfl h0).mono (fun _ _ h => h.to)
 | false =>
 rw [if_neg (by decide)]
 cases h1 : (name.toList == [108, 98, 117]) with
 | true => rw [if_pos rfl]; exact (reach88_lbu M c cs g b name rs sa kt kd imm s t SM A (A % 4) (A - A % 4) hc hkt hs ht w h hG hK eA' rfl rfl h0 h1).mono (fun _ _ h => h.to)
 | false =>
 rw [if_neg (by decide)]
 cases h2 : (name.toList == [108, 104]) with
 | true => rw [if_pos rfl]; exact (reach88_lh M c cs g b name rs sa kt kd imm s t SM A (A % 4) (A - A % 4) hc hkt hs ht w h hG hK eA' rfl rfl h0 h1 h2).mono (fun _ _ h => h.to)
 | false =>
 rw [if_neg (by decide)]
 cases h3 : (name.toList == [108, 104, 117]) with
 | true => rw [if_pos rfl]; exact (reach88_lhu M c cs g b name rs sa kt kd imm s t SM A (A % 4) (A - A % 4) hc hkt hs ht w h hG hK eA' rfl rfl h0 h1 h2 h3).mono (fun _ _ h => h.to)
 | false =>
 rw [if_neg (by decide)]
 cases h4 : (name.toList == [108, 119]) with
 | true => rw [if_pos rfl]; exact (reach88_lw M c cs g b name rs sa kt kd imm s t SM A (A % 4) (A - A % 4) hc hkt hs ht w h hG hK eA' rfl rfl h0 h1 h2 h3 h4).mono (fun _ _ h => h.to)
 | false =>
 rw [if_neg (by decide)]
 cases h5 : (name.toList == [108, 108]) with
 | true => rw [if_pos rfl]; exact (reach88_ll M c cs g b name rs sa kt kd imm s t SM A (A % 4) (A - A % 4) hc hkt hs ht w h hG hK eA' rfl rfl h0 h1 h2 h3 h4 h5).mono (fun _ _ h => h.to)
 | false =>
 rw [if_neg (by decide)]
 cases h6 : (name.toList == [108, 119, 108]) with
 | true => rw [if_pos rfl]; exact (reach88_lwl M c cs g b name rs sa kt kd imm s t SM A (A % 4) (A - A % 4) hc hkt hs ht w h hG hK eA' rfl rfl h0 h1 h2 h3 h4 h5 h6).mono (fun _ _ h => h.to)
 | false =>
 rw [if_neg (by decide)]
 cases h7 : (name.toList == [108, 119, 114]) with
 | true => rw [if_pos rfl]; exact (reach88_lwr M c cs g b name rs sa kt kd imm s t SM A (A % 4) (A - A % 4) hc hkt hs ht w h hG hK eA' rfl rfl h0 h1 h2 h3 h4 h5 h6 h7).mono (fun _ _ h => h.to)
 | false =>
 rw [if_neg (by decide)]
 cases h8 : (name.toList == [115, 98]) with
 | true => rw [if_pos rfl]; exact (reach88_sb M c cs g b name rs sa kt kd imm s t SM A (A % 4) (A - A % 4) hc hkt hs ht w h hG hK eA' rfl rfl h0 h1 h2 h3 h4 h5 h6 h7 h8)
 | false =>
 rw [if_neg (by decide)]
 cases h9 : (name.toList == [115, 104]) with
 | true => rw [if_pos rfl]; exact (reach88_sh M c cs g b name rs sa kt kd imm s t SM A (A % 4) (A - A % 4) hc hkt hs ht w h hG hK eA' rfl rfl h0 h1 h2 h3 h4 h5 h6 h7 h8 h9)
 | false =>
 rw [if_neg (by decide)]
 cases h10 : (name.toList == [115, 119]) with
 | true => rw [if_pos rfl]; exact (reach88_sw M c cs g b name rs sa kt kd imm s t SM A (A % 4) (A - A % 4) hc hkt hs ht w h hG hK eA' rfl rfl h0 h1 h2 h3 h4 h5 h6 h7 h8 h9 h10)
 | false =>
 rw [if_neg (by decide)]
 cases h11 : (name.toList == [115, 99]) with
 | true => rw [if_pos rfl]; exact (reach88_sc M c cs g b name rs sa kt kd imm s t SM A (A % 4) (A - A % 4) hc hkt hs ht w h hG hK eA' rfl rfl h0 h1 h2 h3 h4 h5 h6 h7 h8 h9 h10 h11)
 | false =>
 rw [if_neg (by decide)]
 cases h12 : (name.toList == [115, 119, 108]) with
 | true => rw [if_pos rfl]; exact (reach88_swl M c cs g b name rs sa kt kd imm s t SM A (A % 4) (A - A % 4) hc hkt hs ht w h hG hK eA' rfl rfl h0 h1 h2 h3 h4 h5 h6 h7 h8 h9 h10 h11 h12)
 | false =>
 rw [if_neg (by decide)]
 cases h13 : (name.toList == [115, 119, 114]) with
 | true => rw [if_pos rfl]; exact (reach88_swr M c cs g b name rs sa kt kd imm s t SM A (A % 4) (A - A % 4) hc hkt hs ht w h hG hK eA' rfl rfl h0 h1 h2 h3 h4 h5 h6 h7 h8 h9 h10 h11 h12 h13)
 | false =>
 rw [if_neg (by decide)]
 exact reach88_no M c cs g b name rs sa kt kd imm s t SM A (A % 4) (A - A % 4) hc hkt hs ht w h hG hK eA' rfl rfl h0 h1 h2 h3 h4 h5 h6 h7 h8 h9 h10 h11 h12 h13
end Go.Proofs.YtimfipkbddpdmaaGreatDoor
namespace Go.Proofs.YtimfipkbddpdmaaGreatDoor.Wd
theorem idx_0 : wIdx ⟨#[109, 117, 108, 116]⟩ = some 0 := by decide +kernel
theorem idx_1 : wIdx ⟨#[109, 117, 108, 116, 117]⟩ = some 1 := by decide +kernel
theorem idx_2 : wIdx ⟨#[109, 97, 100, 100]⟩ = some 2 := by decide +kernel
theorem idx_3 : wIdx ⟨#[109, 97, 100, 100, 117]⟩ = some 3 := by decide +kernel
theorem idx_4 : wIdx ⟨#[109, 115, 117, 98]⟩ = some 4 := by decide +kernel
theorem idx_5 : wIdx ⟨#[109, 115, 117, 98, 117]⟩ = some 5 := by decide +kernel
theorem idx_6 : wIdx ⟨#[100, 105, 118]⟩ = some 6 := by decide +kernel
theorem idx_7 : wIdx ⟨#[100, 105, 118, 117]⟩ = some 7 := by decide +kernel
theorem idx_8 : wIdx ⟨#[109, 116, 104, 105]⟩ = some 8 := by decide +kernel
theorem idx_9 : wIdx ⟨#[109, 116, 108, 111]⟩ = some 9 := by decide +kernel
theorem do_at {n : ByteArray} {k : Nat} (h : wIdx n = some k) (s t hi lo : Nat) : doN n s t hi lo = (workN k s t (hi * 4294967296 + lo) / 4294967296, workN k s t (hi * 4294967296 + lo) % 4294967296) := by
 unfold doN; rw [h]
theorem do_no {n : ByteArray} (h : wIdx n = none) (s t hi lo : Nat) : doN n s t hi lo = (hi, lo) := by
 unfold doN; rw [h]
theorem idx_cases (n : ByteArray) : n = ⟨#[109, 117, 108, 116]⟩ \/ n = ⟨#[109, 117, 108, 116, 117]⟩ \/ n = ⟨#[109, 97, 100, 100]⟩ \/ n = ⟨#[109, 97, 100, 100, 117]⟩ \/ n = ⟨#[109, 115, 117, 98]⟩ \/ n = ⟨#[109, 115, 117, 98, 117]⟩ \/ n = ⟨#[100, 105, 118]⟩ \/ n = ⟨#[100, 105, 118, 117]⟩ \/ n = ⟨#[109, 116, 104, 105]⟩ \/ n = ⟨#[109, 116, 108, 111]⟩ \/ wIdx n = none := by
 unfold wIdx
 by_cases h0 : n = ⟨#[109, 117, 108, 116]⟩
 ·exact (.inl h0)
 rw [if_neg h0]
 by_cases h1 : n = ⟨#[109, 117, 108, 116, 117]⟩
 ·exact .inr ((.inl h1))
 rw [if_neg h1]
 by_cases h2 : n = ⟨#[109, 97, 100, 100]⟩
 ·exact .inr (.inr ((.inl h2)))
 rw [if_neg h2]
 by_cases h3 : n = ⟨#[109, 97, 100, 100, 117]⟩
 ·exact .inr (.inr (.inr ((.inl h3))))
 rw [if_neg h3]
 by_cases h4 : n = ⟨#[109, 115, 117, 98]⟩
 ·exact .inr (.inr (.inr (.inr ((.inl h4)))))
 rw [if_neg h4]
 by_cases h5 : n = ⟨#[109, 115, 117, 98, 117]⟩
 ·exact .inr (.inr (.inr (.inr (.inr ((.inl h5))))))
 rw [if_neg h5]
 by_cases h6 : n = ⟨#[100, 105, 118]⟩
 ·exact .inr (.inr (.inr (.inr (.inr (.inr ((.inl h6)))))))
 rw [if_neg h6]
 by_cases h7 : n = ⟨#[100, 105, 118, 117]⟩
 ·exact .inr (.inr (.inr (.inr (.inr (.inr (.inr ((.inl h7))))))))
 rw [if_neg h7]
 by_cases h8 : n = ⟨#[109, 116, 104, 105]⟩
 ·exact .inr (.inr (.inr (.inr (.inr (.inr (.inr (.inr ((.inl h8)))))))))
 rw [if_neg h8]
 by_cases h9 : n = ⟨#[109, 116, 108, 111]⟩
 ·exact .inr (.inr (.inr (.inr (.inr (.inr (.inr (.inr (.inr ((.inl h9))))))))))
 rw [if_neg h9]
 exact .inr (.inr (.inr (.inr (.inr (.inr (.inr (.inr (.inr (.inr (rfl))))))))))
theorem do8 (n : ByteArray) (s t hi lo : Nat) (hs : s < 4294967296) (ht : t < 4294967296) (hh : hi < 4294967296) (hl : lo < 4294967296) (w : World) : Calls Tryz.prog 85 #[.string n, .int .u32 s, .int .u32 t, .int .u32 hi, .int .u32 lo] w fun e w' => DoIs n s t hi lo e /\ Below w.heap.size w w' := by
 rcases idx_cases n with h | h | h | h | h | h | h | h | h | h | h
 ·subst h
  unfold DoIs
  rw [do_at idx_0]
  exact do8_0 s t hi lo hs ht hh hl w
 ·subst h
  unfold DoIs
  rw [do_at idx_1]
  exact do8_1 s t hi lo hs ht hh hl w
 ·subst h
  unfold DoIs
  rw [do_at idx_2]
  exact do8_2 s t hi lo hs ht hh hl w
 ·subst h
  unfold DoIs
  rw [do_at idx_3]
  exact do8_3 s t hi lo hs ht hh hl w
 ·subst h
  unfold DoIs
  rw [do_at idx_4]
  exact do8_4 s t hi lo hs ht hh hl w
 ·subst h
  unfold DoIs
  rw [do_at idx_5]
  exact do8_5 s t hi lo hs ht hh hl w
 ·subst h
  unfold DoIs
  rw [do_at idx_6]
  exact do8_6 s t hi lo hs ht hh hl w
 ·subst h
  unfold DoIs
  rw [do_at idx_7]
  exact do8_7 s t hi lo hs ht hh hl w
 ·subst h
  unfold DoIs
  rw [do_at idx_8]
  exact do8_8 s t hi lo hs ht hh hl w
 ·subst h
  unfold DoIs
  rw [do_at idx_9]
  exact do8_9 s t hi lo hs ht hh hl w
 ·unfold DoIs
  rw [do_no h]
  exact do8_no n (none_of h) s t hi lo w
theorem known10 (n : ByteArray) (w : World) : Calls Tryz.prog 84 #[.string n] w fun e w' => e = .returned (.bool (wIdx n).isSome) /\ Below w.heap.size w w' := by
 have q1 := fn_neq
 have q2 := fn_nil
 rcases idx_cases n with h | h | h | h | h | h | h | h | h | h | h
 ·subst h
  rw [idx_0]
  have K : Hid (∀ w : World, Calls Tryz.prog 103 #[.string ⟨#[109, 117, 108, 116]⟩, .int .u32 0, .int .u32 0] w _) := work22_0 0 0
  go_enter Tryz.func84, Tryz.ntmps84
  go_wp2_with fail
  refine (K.out _).mono ?_
  rintro e w1 ⟨rfl, hb, _, _⟩
  go_wp2
  go_ret
  exact ⟨rfl, hb⟩
 ·subst h
  rw [idx_1]
  have K : Hid (∀ w : World, Calls Tryz.prog 103 #[.string ⟨#[109, 117, 108, 116, 117]⟩, .int .u32 0, .int .u32 0] w _) := work22_1 0 0
  go_enter Tryz.func84, Tryz.ntmps84
  go_wp2_with fail
  refine (K.out _).mono ?_
  rintro e w1 ⟨rfl, hb, _, _⟩
  go_wp2
  go_ret
  exact ⟨rfl, hb⟩
 ·subst h
  rw [idx_2]
  have K : Hid (∀ w : World, Calls Tryz.prog 103 #[.string ⟨#[109, 97, 100, 100]⟩, .int .u32 0, .int .u32 0] w _) := work22_2 0 0
  go_enter Tryz.func84, Tryz.ntmps84
  go_wp2_with fail
  refine (K.out _).mono ?_
  rintro e w1 ⟨rfl, hb, _, _⟩
  go_wp2
  go_ret
  exact ⟨rfl, hb⟩
 ·subst h
  rw [idx_3]
  have K : Hid (∀ w : World, Calls Tryz.prog 103 #[.string ⟨#[109, 97, 100, 100, 117]⟩, .int .u32 0, .int .u32 0] w _) := work22_3 0 0
  go_enter Tryz.func84, Tryz.ntmps84
  go_wp2_with fail
  refine (K.out _).mono ?_
  rintro e w1 ⟨rfl, hb, _, _⟩
  go_wp2
  go_ret
  exact ⟨rfl, hb⟩
 ·subst h
  rw [idx_4]
  have K : Hid (∀ w : World, Calls Tryz.prog 103 #[.string ⟨#[109, 115, 117, 98]⟩, .int .u32 0, .int .u32 0] w _) := work22_4 0 0
  go_enter Tryz.func84, Tryz.ntmps84
  go_wp2_with fail
  refine (K.out _).mono ?_
  rintro e w1 ⟨rfl, hb, _, _⟩
  go_wp2
  go_ret
  exact ⟨rfl, hb⟩
 ·subst h
  rw [idx_5]
  have K : Hid (∀ w : World, Calls Tryz.prog 103 #[.string ⟨#[109, 115, 117, 98, 117]⟩, .int .u32 0, .int .u32 0] w _) := work22_5 0 0
  go_enter Tryz.func84, Tryz.ntmps84
  go_wp2_with fail
  refine (K.out _).mono ?_
  rintro e w1 ⟨rfl, hb, _, _⟩
  go_wp2
  go_ret
  exact ⟨rfl, hb⟩
 ·subst h
  rw [idx_6]
  have K : Hid (∀ w : World, Calls Tryz.prog 103 #[.string ⟨#[100, 105, 118]⟩, .int .u32 0, .int .u32 0] w _) := work22_6 0 0
  go_enter Tryz.func84, Tryz.ntmps84
  go_wp2_with fail
  refine (K.out _).mono ?_
  rintro e w1 ⟨rfl, hb, _, _⟩
  go_wp2
  go_ret
  exact ⟨rfl, hb⟩
 ·subst h
  rw [idx_7]
  have K : Hid (∀ w : World, Calls Tryz.prog 103 #[.string ⟨#[100, 105, 118, 117]⟩, .int .u32 0, .int .u32 0] w _) := work22_7 0 0
  go_enter Tryz.func84, Tryz.ntmps84
  go_wp2_with fail
  refine (K.out _).mono ?_
  rintro e w1 ⟨rfl, hb, _, _⟩
  go_wp2
  go_ret
  exact ⟨rfl, hb⟩
 ·subst h
  rw [idx_8]
  have K : Hid (∀ w : World, Calls Tryz.prog 103 #[.string ⟨#[109, 116, 104, 105]⟩, .int .u32 0, .int .u32 0] w _) := work22_8 0 0
  go_enter Tryz.func84, Tryz.ntmps84
  go_wp2_with fail
  refine (K.out _).mono ?_
  rintro e w1 ⟨rfl, hb, _, _⟩
  go_wp2
  go_ret
  exact ⟨rfl, hb⟩
 ·subst h
  rw [idx_9]
  have K : Hid (∀ w : World, Calls Tryz.prog 103 #[.string ⟨#[109, 116, 108, 111]⟩, .int .u32 0, .int .u32 0] w _) := work22_9 0 0
  go_enter Tryz.func84, Tryz.ntmps84
  go_wp2_with fail
  refine (K.out _).mono ?_
  rintro e w1 ⟨rfl, hb, _, _⟩
  go_wp2
  go_ret
  exact ⟨rfl, hb⟩
 ·rw [h]
  have K : Hid (∀ w : World, Calls Tryz.prog 103 #[.string n, .int .u32 0, .int .u32 0] w _) := work22_no n (none_of h) 0 0
  clear h
  go_enter Tryz.func84, Tryz.ntmps84
  go_wp2_with fail
  refine (K.out _).mono ?_
  rintro e w1 ⟨rfl, hb⟩
  go_wp2
  go_ret
  exact ⟨rfl, hb⟩
end Go.Proofs.YtimfipkbddpdmaaGreatDoor.Wd
namespace Go.Proofs.YtimfipkbddpdmaaGreatDoor
structure Ib (i : In) (n : Nat) (w : World) : Prop where
 c0 : w.cell? ⟨n, 0, none⟩ = some (.string i.name)
 c1 : w.cell? ⟨n, 1, none⟩ = some (.int .i64 i.rs)
 c2 : w.cell? ⟨n, 2, none⟩ = some (.int .i64 i.rt)
 c3 : w.cell? ⟨n, 3, none⟩ = some (.int .i64 i.rd)
 c4 : w.cell? ⟨n, 4, none⟩ = some (.int .i64 i.sa)
 c5 : w.cell? ⟨n, 5, none⟩ = some (.int .u32 i.imm)
theorem Ib.keep {i : In} {n : Nat} {w w' : World} (h : Ib i n w) (hb : Below w.heap.size w w') : Ib i n w' := ⟨keep_cell hb h.c0, keep_cell hb h.c1, keep_cell hb h.c2, keep_cell hb h.c3, keep_cell hb h.c4, keep_cell hb h.c5⟩
theorem Ib.row {i : In} {n b : Nat} {w w' : World} (h : Ib i n w) (hg : w.grownBy w' (some b)) (hn : n ≠ b) : Ib i n w' := ⟨row_cell hg h.c0 hn, row_cell hg h.c1 hn, row_cell hg h.c2 hn, row_cell hg h.c3 hn, row_cell hg h.c4 hn, row_cell hg h.c5 hn⟩
def workR (M : Mem) (c : Cp) (cs : List (Nat × Int)) (i : In) (s t : Nat) : Except Ev (Cp × List (Nat × Int)) :=
 if (aIdx i.name).isSome then onC (lput (madeR i s t) c (inReg i).toNat (fun v => v)) cs
 else if (Wd.wIdx i.name).isSome then .ok ({ c with hi := (Wd.doN i.name s t c.hi c.lo).1, lo := (Wd.doN i.name s t c.hi c.lo).2 }, cs)
 else if trapB i.name s t then .error ⟨3, 0, 0, 0, 0⟩
 else if (formOf i.name).toList == [116, 109] then reachB M c cs i.name.toList i.rt.toNat t (addrN i s)
 else onC (mvR i.name.toList c i.rt.toNat i.rd.toNat i.imm s t) cs
structure Sm5 (i : In) : Prop where
 rs : 0 <= i.rs /\ i.rs < 32
 rt : 0 <= i.rt /\ i.rt < 32
 rd : 0 <= i.rd /\ i.rd < 32
 imm : i.imm < 67108864
theorem TellsC.to {M : Mem} {c : Cp} {cs : List (Nat × Int)} {g : Gv} {b : Nat} {w w0 w' : World} {r : Except Ev Cp} {e : Ending} (hc : c.Ok) (hM : MS M c cs g b w0) (hw : w.grownBy w0 (some b)) (h : TellsC g b w0 r e w') : Tells M b w (.tuple #[]) (onC r cs) e w' := by
 cases r with
 | ok c' => exact ⟨gb_trans hw h.1, h.2.1, g, hM.to hc.len h.1 h.2.2⟩
 | error ev => exact ⟨gb_trans hw h.1, h.2⟩
theorem Tells.from {M : Mem} {b : Nat} {w w0 w' : World} {v : Value} {r : Except Ev (Cp × List (Nat × Int))} {e : Ending} (hw : w.grownBy w0 (some b)) (h : Tells M b w0 v r e w') : Tells M b w v r e w' := ⟨gb_trans hw h.1, h.2⟩
set_option maxHeartbeats 1000000 in
theorem work60_tr (M : Mem) (c : Cp) (cs : List (Nat × Int)) (g : Gv) (b : Nat) (i : In) (s t : Nat) (hc : c.Ok) (hi : Sm5 i) (hs : s < 4294967296) (ht : t < 4294967296) (w : World) (h : MS M c cs g b w) (hG : Good M cs) (hT : Tab w) (hA : (aIdx i.name).isSome = false) (hB : (Wd.wIdx i.name).isSome = false) (hC : trapB i.name s t = true) :
  Calls Tryz.prog 60 #[.pointer (some ⟨b, 0, none⟩), i.val, .int .u32 s, .int .u32 t] w (Tells M b w (.tuple #[]) (.error ⟨3, 0, 0, 0, 0⟩)) := by
 obtain ⟨W, hW, hb, hz, d0, d1, d2, d3, d4, d5⟩ := box6 w (.string i.name) (.int .i64 i.rs) (.int .i64 i.rt) (.int .i64 i.rd) (.int .i64 i.sa) (.int .u32 i.imm) 55
 have hi0 : Ib i w.heap.size W := ⟨d0, d1, d2, d3, d4, d5⟩
 have HM : Hid (w.grownBy W (some b) /\ MS M c cs g b W /\ c.Ok /\ Good M cs /\ b < w.heap.size /\ Sm5 i /\ s < 4294967296 /\ t < 4294967296 /\ Tab W /\ Ib i w.heap.size W) := ⟨grown_of hb, h.keep hb, hc, hG, h.m.lt, hi, hs, ht, hT.keep hb, hi0⟩
 have KA := known10 i.name W
 have KB : Hid (∀ wx, Calls Tryz.prog 84 #[.string i.name] wx fun e w' => e = .returned (.bool (Wd.wIdx i.name).isSome) /\ Below wx.heap.size wx w') := fun wx => Wd.known10 i.name wx
 have KC : Hid (∀ wx, Calls Tryz.prog 86 #[.string i.name, .int .u32 s, .int .u32 t] wx fun e w' => e = .returned (.bool (trapB i.name s t)) /\ w' = wx) := fun wx => traps12 i.name s t hs ht wx
 have KD : Hid (∀ wx, Calls Tryz.prog 87 #[.string i.name] wx fun e w' => e = .returned (.string (formOf i.name)) /\ Below wx.heap.size wx w') := fun wx => form13 i.name wx
 rw [hA] at KA
 rw [hB] at KB
 rw [hC] at KC
 clear hA hB hC
 unfold In.val
 clear hb hz h hG hc hi hs ht hT hi0
 go_enter Tryz.func60, Tryz.ntmps60
 go_wp2_with fail
 refine KA.mono ?_
 rintro e w1 ⟨rfl, hb1⟩
 have HI1 := HM.out.2.2.2.2.2.2.2.2.2.keep hb1
 obtain ⟨d0, d1, d2, d3, d4, d5⟩ := HI1
 have H1 : Hid (w.grownBy w1 (some b) /\ MS M c cs g b w1 /\ Tab w1 /\ Ib i w.heap.size w1) := ⟨gb_trans HM.out.1 (grown_of hb1), HM.out.2.1.keep hb1, HM.out.2.2.2.2.2.2.2.2.1.keep hb1, ⟨d0, d1, d2, d3, d4, d5⟩⟩
 clear hb1 KA hW
 go_wp2_with fail
 refine (KB.out _).mono ?_
 rintro e w2 ⟨rfl, hb1⟩
 have HI1 := H1.out.2.2.2.keep hb1
 obtain ⟨d0, d1, d2, d3, d4, d5⟩ := HI1
 have H2 : Hid (w.grownBy w2 (some b) /\ MS M c cs g b w2 /\ Tab w2 /\ Ib i w.heap.size w2) := ⟨gb_trans H1.out.1 (grown_of hb1), H1.out.2.1.keep hb1, H1.out.2.2.1.keep hb1, ⟨d0, d1, d2, d3, d4, d5⟩⟩
 clear hb1 H1
 go_wp2_with fail
 refine (KC.out _).mono ?_
 rintro e w3 ⟨rfl, rfl⟩
 go_wp2
 exact ⟨rfl, H2.out.1, rfl, _, _, H2.out.2.1.m, HM.out.2.2.1.len⟩
set_option maxHeartbeats 1000000 in
theorem work60_tm (M : Mem) (c : Cp) (cs : List (Nat × Int)) (g : Gv) (b : Nat) (i : In) (s t : Nat) (hc : c.Ok) (hi : Sm5 i) (hs : s < 4294967296) (ht : t < 4294967296) (w : World) (h : MS M c cs g b w) (hG : Good M cs) (hT : Tab w) (hA : (aIdx i.name).isSome = false) (hB : (Wd.wIdx i.name).isSome = false) (hC : trapB i.name s t = false) (hD : ((formOf i.name).toList == [116, 109]) = true) :
  Calls Tryz.prog 60 #[.pointer (some ⟨b, 0, none⟩), i.val, .int .u32 s, .int .u32 t] w (Tells M b w (.tuple #[]) (reachB M c cs i.name.toList i.rt.toNat t (addrN i s))) := by
 obtain ⟨W, hW, hb, hz, d0, d1, d2, d3, d4, d5⟩ := box6 w (.string i.name) (.int .i64 i.rs) (.int .i64 i.rt) (.int .i64 i.rd) (.int .i64 i.sa) (.int .u32 i.imm) 55
 have hi0 : Ib i w.heap.size W := ⟨d0, d1, d2, d3, d4, d5⟩
 have HM : Hid (w.grownBy W (some b) /\ MS M c cs g b W /\ c.Ok /\ Good M cs /\ b < w.heap.size /\ Sm5 i /\ s < 4294967296 /\ t < 4294967296 /\ Tab W /\ Ib i w.heap.size W) := ⟨grown_of hb, h.keep hb, hc, hG, h.m.lt, hi, hs, ht, hT.keep hb, hi0⟩
 have KA := known10 i.name W
 have KB : Hid (∀ wx, Calls Tryz.prog 84 #[.string i.name] wx fun e w' => e = .returned (.bool (Wd.wIdx i.name).isSome) /\ Below wx.heap.size wx w') := fun wx => Wd.known10 i.name wx
 have KC : Hid (∀ wx, Calls Tryz.prog 86 #[.string i.name, .int .u32 s, .int .u32 t] wx fun e w' => e = .returned (.bool (trapB i.name s t)) /\ w' = wx) := fun wx => traps12 i.name s t hs ht wx
 have KD : Hid (∀ wx, Calls Tryz.prog 87 #[.string i.name] wx fun e w' => e = .returned (.string (formOf i.name)) /\ Below wx.heap.size wx w') := fun wx => form13 i.name wx
 rw [hA] at KA
 rw [hB] at KB
 rw [hC] at KC
 clear hA hB hC
 have K88 : Hid (∀ wx, MS M c cs g b wx -> Calls Tryz.prog 88 #[.pointer (some ⟨b, 0, none⟩), i.val, .int .u32 s, .int .u32 t] wx (Tells M b wx (.tuple #[]) (reachB M c cs i.name.toList i.rt.toNat t (addrN i s)))) := fun wx hx => reach88 M c cs g b i s t HM.out.2.2.1 HM.out.2.2.2.2.2.1.rt HM.out.2.2.2.2.2.1.rd.1 HM.out.2.2.2.2.2.2.1 HM.out.2.2.2.2.2.2.2.1 wx hx HM.out.2.2.2.1
 generalize reachB M c cs i.name.toList i.rt.toNat t (addrN i s) = R at K88 |-
 unfold In.val at K88
 generalize formOf i.name = FF at KD hD
 unfold In.val
 clear hb hz h hG hc hi hs ht hT hi0
 go_enter Tryz.func60, Tryz.ntmps60
 go_wp2_with fail
 refine KA.mono ?_
 rintro e w1 ⟨rfl, hb1⟩
 have HI1 := HM.out.2.2.2.2.2.2.2.2.2.keep hb1
 obtain ⟨d0, d1, d2, d3, d4, d5⟩ := HI1
 have H1 : Hid (w.grownBy w1 (some b) /\ MS M c cs g b w1 /\ Tab w1 /\ Ib i w.heap.size w1) := ⟨gb_trans HM.out.1 (grown_of hb1), HM.out.2.1.keep hb1, HM.out.2.2.2.2.2.2.2.2.1.keep hb1, ⟨d0, d1, d2, d3, d4, d5⟩⟩
 clear hb1 KA hW
 go_wp2_with fail
 refine (KB.out _).mono ?_
 rintro e w2 ⟨rfl, hb1⟩
 have HI1 := H1.out.2.2.2.keep hb1
 obtain ⟨d0, d1, d2, d3, d4, d5⟩ := HI1
 have H2 : Hid (w.grownBy w2 (some b) /\ MS M c cs g b w2 /\ Tab w2 /\ Ib i w.heap.size w2) := ⟨gb_trans H1.out.1 (grown_of hb1), H1.out.2.1.keep hb1, H1.out.2.2.1.keep hb1, ⟨d0, d1, d2, d3, d4, d5⟩⟩
 clear hb1 H1
 go_wp2_with fail
 refine (KC.out _).mono ?_
 rintro e w2' ⟨rfl, rfl⟩
 go_wp2_with fail
 refine (KD.out _).mono ?_
 rintro e w3 ⟨rfl, hb1⟩
 have HI1 := H2.out.2.2.2.keep hb1
 obtain ⟨d0, d1, d2, d3, d4, d5⟩ := HI1
 have H3 : Hid (w.grownBy w3 (some b) /\ MS M c cs g b w3 /\ Tab w3 /\ Ib i w.heap.size w3) := ⟨gb_trans H2.out.1 (grown_of hb1), H2.out.2.1.keep hb1, H2.out.2.2.1.keep hb1, ⟨d0, d1, d2, d3, d4, d5⟩⟩
 clear hb1 H2
 go_wp2_with fail
 refine (K88.out _ H3.out.2.1).mono ?_
 rintro e w5 hR
 have HR : Hid (Tells M b w (.tuple #[]) R e w5) := Tells.from H3.out.1 hR
 have hE : (∃ v, e = .returned v) \/ (∃ p, e = .panicked p) := by
  have := HR.out.2
  cases hr : R with
  | ok x => rw [hr] at this; exact .inl ⟨_, this.1⟩
  | error ev => rw [hr] at this; exact .inr ⟨_, this.1⟩
 clear hR K88
 rcases hE with ⟨v, rfl⟩ | ⟨p, rfl⟩
 ·have hv : v = .tuple #[] := by
   have := HR.out.2
   cases hr : R with
   | ok x => rw [hr] at this; exact Ending.returned.inj this.1
   | error ev => rw [hr] at this; cases this.1
  subst hv
  go_wp2
  simp [bodyPost, results, Tryz.results60]
  exact HR.out
 ·go_wp2
  exact ⟨rfl, HR.out⟩
set_option maxHeartbeats 1000000 in
theorem work60_mv (M : Mem) (c : Cp) (cs : List (Nat × Int)) (g : Gv) (b : Nat) (i : In) (s t : Nat) (hc : c.Ok) (hi : Sm5 i) (hs : s < 4294967296) (ht : t < 4294967296) (w : World) (h : MS M c cs g b w) (hG : Good M cs) (hT : Tab w) (hA : (aIdx i.name).isSome = false) (hB : (Wd.wIdx i.name).isSome = false) (hC : trapB i.name s t = false) (hD : ((formOf i.name).toList == [116, 109]) = false) :
  Calls Tryz.prog 60 #[.pointer (some ⟨b, 0, none⟩), i.val, .int .u32 s, .int .u32 t] w (Tells M b w (.tuple #[]) (onC (mvR i.name.toList c i.rt.toNat i.rd.toNat i.imm s t) cs)) := by
 obtain ⟨W, hW, hb, hz, d0, d1, d2, d3, d4, d5⟩ := box6 w (.string i.name) (.int .i64 i.rs) (.int .i64 i.rt) (.int .i64 i.rd) (.int .i64 i.sa) (.int .u32 i.imm) 55
 have hi0 : Ib i w.heap.size W := ⟨d0, d1, d2, d3, d4, d5⟩
 have HM : Hid (w.grownBy W (some b) /\ MS M c cs g b W /\ c.Ok /\ Good M cs /\ b < w.heap.size /\ Sm5 i /\ s < 4294967296 /\ t < 4294967296 /\ Tab W /\ Ib i w.heap.size W) := ⟨grown_of hb, h.keep hb, hc, hG, h.m.lt, hi, hs, ht, hT.keep hb, hi0⟩
 have KA := known10 i.name W
 have KB : Hid (∀ wx, Calls Tryz.prog 84 #[.string i.name] wx fun e w' => e = .returned (.bool (Wd.wIdx i.name).isSome) /\ Below wx.heap.size wx w') := fun wx => Wd.known10 i.name wx
 have KC : Hid (∀ wx, Calls Tryz.prog 86 #[.string i.name, .int .u32 s, .int .u32 t] wx fun e w' => e = .returned (.bool (trapB i.name s t)) /\ w' = wx) := fun wx => traps12 i.name s t hs ht wx
 have KD : Hid (∀ wx, Calls Tryz.prog 87 #[.string i.name] wx fun e w' => e = .returned (.string (formOf i.name)) /\ Below wx.heap.size wx w') := fun wx => form13 i.name wx
 rw [hA] at KA
 rw [hB] at KB
 rw [hC] at KC
 clear hA hB hC
 have K89 : Hid (∀ wx, MS M c cs g b wx -> Calls Tryz.prog 89 #[.pointer (some ⟨b, 0, none⟩), i.val, .int .u32 s, .int .u32 t] wx (TellsC g b wx (mvR i.name.toList c i.rt.toNat i.rd.toNat i.imm s t))) := fun wx hx => by
  have e1 : ((i.rt.toNat : Nat) : Int) = i.rt := Int.toNat_of_nonneg HM.out.2.2.2.2.2.1.rt.1
  have e2 : ((i.rd.toNat : Nat) : Int) = i.rd := Int.toNat_of_nonneg HM.out.2.2.2.2.2.1.rd.1
  have := move89 c g b i.name i.rs i.sa i.rt.toNat i.rd.toNat i.imm s t HM.out.2.2.1 (by have := HM.out.2.2.2.2.2.1.rt; omega) (by have := HM.out.2.2.2.2.2.1.rd; omega) wx hx.m
  rw [e1, e2] at this
  exact this
 generalize mvR i.name.toList c i.rt.toNat i.rd.toNat i.imm s t = R0 at K89 |-
 obtain ⟨R, hR0⟩ : ∃ x, x = onC R0 cs := ⟨_, rfl⟩
 have HR0 : Hid (onC R0 cs = R) := hR0.symm
 rw [<- hR0]
 clear hR0
 unfold In.val at K89
 generalize formOf i.name = FF at KD hD
 unfold In.val
 clear hb hz h hG hc hi hs ht hT hi0
 go_enter Tryz.func60, Tryz.ntmps60
 go_wp2_with fail
 refine KA.mono ?_
 rintro e w1 ⟨rfl, hb1⟩
 have HI1 := HM.out.2.2.2.2.2.2.2.2.2.keep hb1
 obtain ⟨d0, d1, d2, d3, d4, d5⟩ := HI1
 have H1 : Hid (w.grownBy w1 (some b) /\ MS M c cs g b w1 /\ Tab w1 /\ Ib i w.heap.size w1) := ⟨gb_trans HM.out.1 (grown_of hb1), HM.out.2.1.keep hb1, HM.out.2.2.2.2.2.2.2.2.1.keep hb1, ⟨d0, d1, d2, d3, d4, d5⟩⟩
 clear hb1 KA hW
 go_wp2_with fail
 refine (KB.out _).mono ?_
 rintro e w2 ⟨rfl, hb1⟩
 have HI1 := H1.out.2.2.2.keep hb1
 obtain ⟨d0, d1, d2, d3, d4, d5⟩ := HI1
 have H2 : Hid (w.grownBy w2 (some b) /\ MS M c cs g b w2 /\ Tab w2 /\ Ib i w.heap.size w2) := ⟨gb_trans H1.out.1 (grown_of hb1), H1.out.2.1.keep hb1, H1.out.2.2.1.keep hb1, ⟨d0, d1, d2, d3, d4, d5⟩⟩
 clear hb1 H1
 go_wp2_with fail
 refine (KC.out _).mono ?_
 rintro e w2' ⟨rfl, rfl⟩
 go_wp2_with fail
 refine (KD.out _).mono ?_
 rintro e w3 ⟨rfl, hb1⟩
 have HI1 := H2.out.2.2.2.keep hb1
 obtain ⟨d0, d1, d2, d3, d4, d5⟩ := HI1
 have H3 : Hid (w.grownBy w3 (some b) /\ MS M c cs g b w3 /\ Tab w3 /\ Ib i w.heap.size w3) := ⟨gb_trans H2.out.1 (grown_of hb1), H2.out.2.1.keep hb1, H2.out.2.2.1.keep hb1, ⟨d0, d1, d2, d3, d4, d5⟩⟩
 clear hb1 H2
 go_wp2_with fail
 refine (K89.out _ H3.out.2.1).mono ?_
 rintro e w5 hR
 have HR : Hid (Tells M b w (.tuple #[]) R e w5) := by rw [<- HR0.out]; exact TellsC.to HM.out.2.2.1 H3.out.2.1 H3.out.1 hR
 have hE : (∃ v, e = .returned v) \/ (∃ p, e = .panicked p) := by
  have := HR.out.2
  cases hr : R with
  | ok x => rw [hr] at this; exact .inl ⟨_, this.1⟩
  | error ev => rw [hr] at this; exact .inr ⟨_, this.1⟩
 clear hR K89
 rcases hE with ⟨v, rfl⟩ | ⟨p, rfl⟩
 ·have hv : v = .tuple #[] := by
   have := HR.out.2
   cases hr : R with
   | ok x => rw [hr] at this; exact Ending.returned.inj this.1
   | error ev => rw [hr] at this; cases this.1
  subst hv
  go_wp2
  simp [bodyPost, results, Tryz.results60]
  exact HR.out
 ·go_wp2
  exact ⟨rfl, HR.out⟩
set_option maxHeartbeats 1000000 in
theorem work60_al (M : Mem) (c : Cp) (cs : List (Nat × Int)) (g : Gv) (b : Nat) (i : In) (s t : Nat) (hc : c.Ok) (hi : Sm5 i) (hs : s < 4294967296) (ht : t < 4294967296) (w : World) (h : MS M c cs g b w) (hG : Good M cs) (hT : Tab w) (hA : (aIdx i.name).isSome = true) :
  Calls Tryz.prog 60 #[.pointer (some ⟨b, 0, none⟩), i.val, .int .u32 s, .int .u32 t] w (Tells M b w (.tuple #[]) (onC (lput (madeR i s t) c (inReg i).toNat (fun v => v)) cs)) := by
 obtain ⟨W, hW, hb, hz, d0, d1, d2, d3, d4, d5⟩ := box6 w (.string i.name) (.int .i64 i.rs) (.int .i64 i.rt) (.int .i64 i.rd) (.int .i64 i.sa) (.int .u32 i.imm) 55
 have hi0 : Ib i w.heap.size W := ⟨d0, d1, d2, d3, d4, d5⟩
 have HM : Hid (w.grownBy W (some b) /\ MS M c cs g b W /\ c.Ok /\ Good M cs /\ b < w.heap.size /\ Sm5 i /\ s < 4294967296 /\ t < 4294967296 /\ Tab W /\ Ib i w.heap.size W) := ⟨grown_of hb, h.keep hb, hc, hG, h.m.lt, hi, hs, ht, hT.keep hb, hi0⟩
 have KA := known10 i.name W
 have KB : Hid (∀ wx, Calls Tryz.prog 84 #[.string i.name] wx fun e w' => e = .returned (.bool (Wd.wIdx i.name).isSome) /\ Below wx.heap.size wx w') := fun wx => Wd.known10 i.name wx
 have KC : Hid (∀ wx, Calls Tryz.prog 86 #[.string i.name, .int .u32 s, .int .u32 t] wx fun e w' => e = .returned (.bool (trapB i.name s t)) /\ w' = wx) := fun wx => traps12 i.name s t hs ht wx
 have KD : Hid (∀ wx, Calls Tryz.prog 87 #[.string i.name] wx fun e w' => e = .returned (.string (formOf i.name)) /\ Below wx.heap.size wx w') := fun wx => form13 i.name wx
 rw [hA] at KA
 clear hA
 have K82 : Hid (∀ wx, Calls Tryz.prog 82 #[i.val] wx fun e w' => e = .returned (.int .i64 (inReg i)) /\ Below wx.heap.size wx w') := fun wx => madeIn82 i wx
 have K83 : Hid (∀ wx, Tab wx -> Calls Tryz.prog 83 #[i.val, .int .u32 s, .int .u32 t] wx fun e w' => (match madeR i s t with | .ok v => e = .returned (.int .u32 v) | .error ev => e = .panicked (thrownE ev)) /\ Below wx.heap.size wx w') := fun wx hx => made83 i s t (by have := HM.out.2.2.2.2.2.1.imm; omega) HM.out.2.2.2.2.2.2.1 HM.out.2.2.2.2.2.2.2.1 wx hx
 have hkr : 0 <= inReg i /\ inReg i < 32 := by
  unfold inReg
  split
  ·exact HM.out.2.2.2.2.2.1.rt
  ·exact HM.out.2.2.2.2.2.1.rd
 obtain ⟨kr, hkr'⟩ := Int.eq_ofNat_of_zero_le hkr.1
 have lkr : kr < 32 := by omega
 rw [hkr'] at K82 |-
 simp only [show ((kr : Int)).toNat = kr from rfl]
 clear hkr hkr' KB KC KD
 generalize madeR i s t = R at K83 |-
 unfold In.val at K82 K83
 unfold In.val
 clear hb hz h hG hc hi hs ht hT hi0
 go_enter Tryz.func60, Tryz.ntmps60
 go_wp2_with fail
 refine KA.mono ?_
 rintro e w1 ⟨rfl, hb1⟩
 have HI1 := HM.out.2.2.2.2.2.2.2.2.2.keep hb1
 obtain ⟨d0, d1, d2, d3, d4, d5⟩ := HI1
 have H1 : Hid (w.grownBy w1 (some b) /\ MS M c cs g b w1 /\ Tab w1 /\ Ib i w.heap.size w1) := ⟨gb_trans HM.out.1 (grown_of hb1), HM.out.2.1.keep hb1, HM.out.2.2.2.2.2.2.2.2.1.keep hb1, ⟨d0, d1, d2, d3, d4, d5⟩⟩
 clear hb1 KA hW
 go_wp2
 refine wp_region_held_drew (S := fun w' => w'.cell? ⟨w.heap.size, 0, none⟩ = some (.string i.name) /\ w'.cell? ⟨w.heap.size, 1, none⟩ = some (.int .i64 i.rs) /\ w'.cell? ⟨w.heap.size, 2, none⟩ = some (.int .i64 i.rt) /\ w'.cell? ⟨w.heap.size, 3, none⟩ = some (.int .i64 i.rd) /\ w'.cell? ⟨w.heap.size, 4, none⟩ = some (.int .i64 i.sa) /\ w'.cell? ⟨w.heap.size, 5, none⟩ = some (.int .u32 i.imm)) (by kernel_rfl) ⟨by simp [d0], by simp [d1], by simp [d2], by simp [d3], by simp [d4], by simp [d5]⟩ (fun hS => ?_)
 refine takeG 0 (.pointer (some ⟨b, 0, none⟩)) hS ?_
 simp only [Act.put]
 refine takeG 1 (.agg #[.string i.name, .int .i64 i.rs, .int .i64 i.rt, .int .i64 i.rd, .int .i64 i.sa, .int .u32 i.imm]) hS ?_
 simp only [Act.put]
 refine takeG 3 (.agg #[.string i.name, .int .i64 i.rs, .int .i64 i.rt, .int .i64 i.rd, .int .i64 i.sa, .int .u32 i.imm]) hS ?_
 simp only [Act.put]
 refine takeG 4 (.int .u32 s) hS ?_
 simp only [Act.put]
 refine takeG 5 (.int .u32 t) hS ?_
 simp only [Act.put]
 refine readyH 2 fun K hK => ?_
 go_simp
 go_wp2_with fail
 refine (K82.out _).mono ?_
 rintro e w2 ⟨rfl, hb1⟩
 have hb1 : Below w1.heap.size w1 w2 := below_tr (Below.refl _ _).drew hb1
 have HI1 := H1.out.2.2.2.keep hb1
 obtain ⟨d0, d1, d2, d3, d4, d5⟩ := HI1
 have H2 : Hid (w.grownBy w2 (some b) /\ MS M c cs g b w2 /\ Tab w2 /\ Ib i w.heap.size w2) := ⟨gb_trans H1.out.1 (grown_of hb1), H1.out.2.1.keep hb1, H1.out.2.2.1.keep hb1, ⟨d0, d1, d2, d3, d4, d5⟩⟩
 clear hb1
 go_wp2_with fail
 refine hK.out _ _ ⟨d0, d1, d2, d3, d4, d5⟩ (fun _ => ?_)
 clear hK K
 refine readyH 6 fun K hK => ?_
 go_simp
 go_wp2_with fail
 refine (K83.out _ H2.out.2.2.1).mono ?_
 rintro e w3 ⟨hR2, hb1⟩
 have HI1 := H2.out.2.2.2.keep hb1
 obtain ⟨d0, d1, d2, d3, d4, d5⟩ := HI1
 have H3 : Hid (w.grownBy w3 (some b) /\ MS M c cs g b w3 /\ Tab w3 /\ Ib i w.heap.size w3) := ⟨gb_trans H2.out.1 (grown_of hb1), H2.out.2.1.keep hb1, H2.out.2.2.1.keep hb1, ⟨d0, d1, d2, d3, d4, d5⟩⟩
 clear hb1
 cases R with
 | error ev =>
  obtain rfl : e = .panicked (thrownE ev) := hR2
  go_wp2_with fail
  exact ⟨rfl, H3.out.1, rfl, _, _, H3.out.2.1.m, HM.out.2.2.1.len⟩
 | ok v =>
 obtain rfl : e = .returned (.int .u32 v) := hR2
 go_wp2_with fail
 refine hK.out _ _ ⟨d0, d1, d2, d3, d4, d5⟩ (fun _ => ?_)
 clear hK K
 have K80 : Hid (∀ wx, Mb c g b wx -> Calls Tryz.prog 80 #[.pointer (some ⟨b, 0, none⟩), .int .i64 kr, .int .u32 v] wx fun e w' => e = .returned (.tuple #[]) /\ Mb (c.put kr v) g b w' /\ wx.grownBy w' (some b)) := fun wx hx => set80 c g b kr v HM.out.2.2.1 lkr wx hx
 refine readyH 7 fun K hK => ?_
 go_simp
 go_wp2_with fail
 refine (K80.out _ H3.out.2.1.m).mono ?_
 rintro e w4 ⟨rfl, hm4, hg4⟩
 have hi4 := H3.out.2.2.2.row hg4 (show w.heap.size ≠ b by have := HM.out.2.2.2.2.1; omega)
 have H4 : Hid (w.grownBy w4 (some b) /\ MS M (c.put kr v) cs g b w4) := ⟨gb_trans H3.out.1 hg4, H3.out.2.1.to HM.out.2.2.1.len hg4 hm4⟩
 clear hm4 hg4
 go_wp2_with fail
 refine hK.out _ _ ⟨hi4.c0, hi4.c1, hi4.c2, hi4.c3, hi4.c4, hi4.c5⟩ (fun _ => ?_)
 clear hK K hi4
 refine wpAnyH_done (by kernel_rfl) ?_ _
 go_wp2
 simp [bodyPost, results, Tryz.results60]
 exact ⟨H4.out.1, rfl, _, H4.out.2⟩
end Go.Proofs.YtimfipkbddpdmaaGreatDoor
