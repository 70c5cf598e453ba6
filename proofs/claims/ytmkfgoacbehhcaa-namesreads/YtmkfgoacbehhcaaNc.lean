/- What is proved here: a name's number, the document's; which texts are names. -/
import Derived.Test.YtmkfgoacbehhcaaNb
import Derived.Laws.Externs
import Derived.WalkLawsBesides
import Derived.Lib.Bytealg
import Derived.Lib.IndexLaws
namespace Go.Proofs.Ytmkfgoacbehhcaa
open Go.RowKit
set_option linter.unusedVariables false
set_option linter.unusedSimpArgs false
set_option maxRecDepth 100000
set_option maxHeartbeats 1000000 in
theorem rhash15 (s : ByteArray) (hs : s.size ≤ 1000000) (w : World) : Calls Try.prog 15 #[.string s] w fun e w' => e = .returned (.int .u32 (hashL s.toList : Int)) ∧ w' = w := by
  have hlen := bt_len s
  have HL : Hid (s.toList.length = s.size) := hlen
  have HF : Hid (hashL (s.toList.take s.size) = hashL s.toList) := by rw [Hid, ← hlen, List.take_length]
  clear hlen
  go_enter Try.func15, Try.ntmps15
  go_wp2
  go_loop [3, 4] (fun v i => ∃ k : Nat, k ≤ s.size ∧ i = .int .i64 k ∧ v = .int .u32 ((hashL (s.toList.take k) : Nat) : Int)) (fun _ i => s.size - (intOf i).toNat)
  case atStart => exact ⟨0, Nat.zero_le _, rfl, rfl⟩
  case round =>
    obtain ⟨k, hk, rfl, rfl⟩ := hrel
    by_cases hlt : k < s.size
    · obtain ⟨c, hc⟩ : ∃ c : Nat, c = (s[k]).toNat := ⟨_, rfl⟩
      have hc2 : c < 256 := by rw [hc]; exact (s[k]).toNat_lt
      have hhl := hashL_lt (s.toList.take k)
      have HN : Hid (hashL (s.toList.take (k + 1)) = hstep (hashL (s.toList.take k)) c) := by
        have hk2 : k < s.toList.length := by rw [HL.out]; exact hlt
        rw [Hid, List.take_succ_eq_append_getElem hk2, hashL_snoc, hc, bt_get s k hlt hk2]
      have hcs : (s[k]).toNat = c := hc.symm
      clear hc
      obtain ⟨h, hh⟩ : ∃ h, h = hashL (s.toList.take k) := ⟨_, rfl⟩
      rw [← hh] at hhl HN ⊢
      clear hh
      obtain ⟨T, G, R, X, H, eT, bT, eG, bG, eR, bR, eX, bX, eH, eH2, bH⟩ := hround h c hhl hc2
      have hhi : (h : Int) < 268435456 := by omega
      have hci : (c : Int) < 256 := by omega
      have HE : Hid (H = hstep h c) := eH2
      clear eH2
      go_wp2
      go_round
      case rel => exact ⟨k + 1, by omega, by go_num, by rw [HN.out, ← HE.out]⟩
      case measure => simp [intOf]; omega
    · obtain rfl : k = s.size := by omega
      go_wp2
      go_ret
      exact ⟨by rw [← HF.out]; rfl, rfl⟩
theorem x_index (s : ByteArray) (w : World) : (callFunc 63 #[.string s, .int .u8 0]).run Try.prog w = .ok (.value (.int .i64 (firstIdx s 0))) w := by
  rw [run_callFunc_extern Try.func63 (by kernel_rfl) (by kernel_rfl) (by kernel_rfl) (e := Extern.BytealgIndexByte.indexByte) (by kernel_rfl), run_indexByte_string]
  rfl
theorem index58 (s : ByteArray) (w : World) : Calls Try.prog 58 #[.string s, .int .u8 0] w fun e w' => e = .returned (.int .i64 (firstIdx s 0)) ∧ w' = w := by
  have h := x_index s
  go_enter Try.func58, Try.ntmps58
  go_wp2
  go_ret
  exact ⟨rfl, rfl⟩
theorem idx_no (c : UInt8) : ∀ l : List UInt8, c ∉ l → Lib.indexByte l c = -1
  | [], _ => rfl
  | b :: t, h => by
    simp only [List.mem_cons, not_or] at h
    have h0 : (b == c) = false := by simpa using fun e => h.1 e.symm
    rw [Lib.indexByte, h0, idx_no c t h.2]
    rfl
theorem idx_take (c : UInt8) : ∀ l : List UInt8, c ∈ l → Lib.indexByte l c = ((l.takeWhile (· != c)).length : Int)
  | [], h => by simp at h
  | b :: t, h => by
    by_cases e : b = c
    · subst e
      simp [Lib.indexByte]
    · have h0 : (b == c) = false := by simpa using e
      have h3 : (b != c) = true := by simpa using e
      have hm : c ∈ t := by
        rcases List.mem_cons.1 h with h | h
        · exact absurd h.symm e
        · exact h
      have h1 := idx_take c t hm
      rw [List.takeWhile_cons, if_pos h3, Lib.indexByte, h0, h1]
      have h2 : ((((t.takeWhile (· != c)).length : Nat) : Int) == -1) = false := by simp only [beq_eq_false_iff_ne, ne_eq]; omega
      rw [h2]
      simp
theorem first_take (s : ByteArray) (h : (0 : UInt8) ∈ s.toList) : firstIdx s 0 = ((s.toList.takeWhile (· != 0)).length : Int) := by
  rw [Lib.firstIdx_eq, ← ByteArray.toList_eq]; exact idx_take 0 _ h
theorem first_no (s : ByteArray) (h : (0 : UInt8) ∉ s.toList) : firstIdx s 0 = -1 := by
  rw [Lib.firstIdx_eq, ← ByteArray.toList_eq]; exact idx_no 0 _ h
theorem first_dec (s : ByteArray) : decide (0 ≤ firstIdx s 0) = s.toList.contains 0 := by
  by_cases h : (0 : UInt8) ∈ s.toList
  · rw [first_take s h, decide_eq_true (by omega)]
    simpa using h
  · rw [first_no s h]
    simpa using h
theorem index52 (s : ByteArray) (w : World) : Calls Try.prog 52 #[.string s, .string ⟨#[0]⟩] w fun e w' => e = .returned (.int .i64 (firstIdx s 0)) ∧ w' = w := by
  by_cases h : s.toList = [0]
  · have hq : ([0] == s.toList) = true := by rw [h]; rfl
    have hx : firstIdx s 0 = 0 := by rw [first_take s (by rw [h]; simp), h]; rfl
    rw [hx]
    clear h hx
    go_enter Try.func52, Try.ntmps52
    go_wp2
    go_ret
    exact ⟨rfl, rfl⟩
  · have hq : ([0] == s.toList) = false := by simpa using fun e => h e.symm
    have K := index58 s w
    clear h
    go_enter Try.func52, Try.ntmps52
    go_wp2_with fail
    refine K.mono ?_
    rintro e wz ⟨rfl, rfl⟩
    go_wp2
    go_ret
    exact ⟨rfl, rfl⟩
theorem index56 (s : ByteArray) (w : World) : Calls Try.prog 56 #[.string s, .string ⟨#[0]⟩] w fun e w' => e = .returned (.int .i64 (firstIdx s 0)) ∧ w' = w := by
  have K := index52 s w
  go_enter Try.func56, Try.ntmps56
  go_wp2_with fail
  refine K.mono ?_
  rintro e wz ⟨rfl, rfl⟩
  go_wp2
  go_ret
  exact ⟨rfl, rfl⟩
theorem contains50 (s : ByteArray) (w : World) : Calls Try.prog 50 #[.string s, .string ⟨#[0]⟩] w fun e w' => e = .returned (.bool (s.toList.contains 0)) ∧ w' = w := by
  have K := index56 s w
  rw [← first_dec s]
  go_enter Try.func50, Try.ntmps50
  go_wp2_with fail
  refine K.mono ?_
  rintro e wz ⟨rfl, rfl⟩
  go_wp2
  go_ret
  exact ⟨rfl, rfl⟩
def nameB (l : L8) : Bool := decide (1 ≤ l.length) && (decide (l.length ≤ 31) && !l.contains 0)
theorem isName40 (l : L8) (w : World) : Calls Try.prog 40 #[.string ⟨l.toArray⟩] w fun e w' => e = .returned (.bool (nameB l)) ∧ w' = w := by
  obtain ⟨S, hS⟩ : ∃ S : ByteArray, S = ⟨l.toArray⟩ := ⟨_, rfl⟩
  have hl : S.toList = l := by rw [hS]; exact bal l
  have hsz : S.size = l.length := by rw [← hl, bt_len]
  have K := contains50 S w
  rw [hl] at K
  rw [← hS]
  unfold nameB
  rw [← hsz]
  generalize l.contains 0 = C at K ⊢
  clear hS hl hsz
  by_cases h1 : 1 ≤ S.size
  · have i1 : (1 : Int) ≤ (S.size : Int) := by omega
    have d1 := decide_eq_true i1
    rw [decide_eq_true h1, Bool.true_and]
    by_cases h2 : S.size ≤ 31
    · have i2 : (S.size : Int) ≤ 31 := by omega
      have d2 := decide_eq_true i2
      rw [decide_eq_true h2, Bool.true_and]
      go_enter Try.func40, Try.ntmps40
      go_wp2_with fail
      refine K.mono ?_
      rintro e wz ⟨rfl, rfl⟩
      go_wp2
      go_ret
      exact ⟨rfl, rfl⟩
    · have i2 : ¬ (S.size : Int) ≤ 31 := by omega
      have d2 := decide_eq_false i2
      rw [decide_eq_false h2, Bool.false_and]
      go_enter Try.func40, Try.ntmps40
      go_wp2
      go_ret
      exact ⟨rfl, rfl⟩
  · have i1 : ¬ (1 : Int) ≤ (S.size : Int) := by omega
    have d1 := decide_eq_false i1
    rw [decide_eq_false h1, Bool.false_and]
    go_enter Try.func40, Try.ntmps40
    go_wp2
    go_ret
    exact ⟨rfl, rfl⟩
end Go.Proofs.Ytmkfgoacbehhcaa
