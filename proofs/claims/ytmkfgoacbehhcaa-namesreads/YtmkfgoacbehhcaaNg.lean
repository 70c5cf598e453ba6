/- What is proved here: texts up to a byte 0; a row's symbol: the program's symbol. -/
import Derived.Test.YtmkfgoacbehhcaaNf
import Derived.OrdersHeld
import Derived.Deep.RegionHeld
import Derived.RegionTactic
import Derived.OwnWalk
namespace Go.Proofs.Ytmkfgoacbehhcaa
open Go.RowKit
set_option linter.unusedVariables false
set_option linter.unusedSimpArgs false
set_option maxRecDepth 100000
theorem blk_set {w : World} {b : Nat} {cs : Array Value} {t : Nat} (h : w.heap[b]? = some (.cells cs t (0, 0))) (k : Nat) (v : Value) : (w.setCell ⟨b, k, none⟩ v).heap[b]? = some (.cells (cs.setIfInBounds k v) t (0, 0)) := by
  obtain ⟨hlt, hk⟩ := Array.getElem?_eq_some_iff.1 h
  show (w.heap.modify b _)[b]? = _
  rw [Array.getElem?_eq_getElem (by rw [Array.size_modify]; exact hlt), Array.getElem_modify_self, hk]
  simp
theorem grown_setk (w : World) (b k : Nat) (v : Value) : w.grownBy (w.setCell ⟨b, k, none⟩ v) (some b) :=
  ⟨rfl, rfl, rfl, (KeepsWalks.setCell w _ v).size, fun j _ hk => Below.heap_setCell _ _ _ j (fun e => hk (by rw [e]))⟩
theorem grown_of {w w' : World} {row : Option Nat} (hb : Below w.heap.size w w') : w.grownBy w' row := ⟨hb.os, hb.tape, hb.output, hb.size, fun k hk _ => hb.block k hk⟩
theorem gb_trans {a b c : World} {row : Option Nat} (h : a.grownBy b row) (k : b.grownBy c row) : a.grownBy c row := ⟨k.os.trans h.os, k.tape.trans h.tape, k.output.trans h.output, Nat.le_trans h.size k.size, fun i hi hr => (k.block i (Nat.lt_of_lt_of_le hi h.size) hr).trans (h.block i hi hr)⟩
theorem gb_refl (a : World) (row : Option Nat) : a.grownBy a row := grown_of (Below.refl _ _)
/-- A symbol in a block. -/
def B5 (g : Sy) (b : Nat) (w : World) : Prop := w.heap[b]? = some (.cells #[.string ⟨g.name.toArray⟩, .int .u32 (g.value : Int), .int .u32 (g.size : Int), .int .i64 g.bind, .int .i64 g.part] 39 (0, 0))
theorem B5.lt {g : Sy} {b : Nat} {w : World} (h : B5 g b w) : b < w.heap.size := (Array.getElem?_eq_some_iff.1 h).1
theorem B5.cells {g : Sy} {b : Nat} {w : World} (h : B5 g b w) : w.cell? ⟨b, 0, none⟩ = some (.string ⟨g.name.toArray⟩) ∧ w.cell? ⟨b, 1, none⟩ = some (.int .u32 (g.value : Int)) ∧ w.cell? ⟨b, 2, none⟩ = some (.int .u32 (g.size : Int)) ∧ w.cell? ⟨b, 3, none⟩ = some (.int .i64 g.bind) ∧ w.cell? ⟨b, 4, none⟩ = some (.int .i64 g.part) := by
  have h' : w.heap[b]? = _ := h
  refine ⟨?_, ?_, ?_, ?_, ?_⟩ <;> simp [World.cell?, h']
theorem B5.frozen {g : Sy} {b : Nat} {w : World} (h : B5 g b w) (k : Nat) : w.frozen? ⟨b, k, none⟩ = false := by
  have h' : w.heap[b]? = _ := h
  simp [World.frozen?, h']
theorem B5.row {g : Sy} {b : Nat} {w w' : World} {row : Option Nat} (h : B5 g b w) (hg : w.grownBy w' row) (hr : some b ≠ row) : B5 g b w' := (hg.block b h.lt hr).trans h
theorem B5.keep {g : Sy} {b : Nat} {w w' : World} (h : B5 g b w) (hb : Below w.heap.size w w') : B5 g b w' := (hb.block b h.lt).trans h
theorem B5.new (g : Sy) (w : World) : B5 g w.heap.size (w.alloc (.cells #[.string ⟨g.name.toArray⟩, .int .u32 (g.value : Int), .int .u32 (g.size : Int), .int .i64 g.bind, .int .i64 g.part] 39)) := World.alloc_heap_new w _
def zeroY : Sy := ⟨[], 0, 0, 0, 0⟩
/-- Five cells are stored. -/
def st5 (w : World) (b : Nat) (g : Sy) : World := ((((w.setCell ⟨b, 0, none⟩ (.string ⟨g.name.toArray⟩)).setCell ⟨b, 1, none⟩ (.int .u32 (g.value : Int))).setCell ⟨b, 2, none⟩ (.int .u32 (g.size : Int))).setCell ⟨b, 3, none⟩ (.int .i64 g.bind)).setCell ⟨b, 4, none⟩ (.int .i64 g.part)
theorem st5_in {w : World} {b : Nat} {j : Sy} (h : B5 j b w) (g : Sy) : B5 g b (st5 w b g) := by
  unfold st5
  have h0 := blk_set h 0 (.string ⟨g.name.toArray⟩)
  have h1 := blk_set h0 1 (.int .u32 (g.value : Int))
  have h2 := blk_set h1 2 (.int .u32 (g.size : Int))
  have h3 := blk_set h2 3 (.int .i64 g.bind)
  have h4 := blk_set h3 4 (.int .i64 g.part)
  simpa [B5] using h4
theorem st5_grown (w : World) (b : Nat) (g : Sy) : w.grownBy (st5 w b g) (some b) :=
  gb_trans (gb_trans (gb_trans (gb_trans (grown_setk _ b 0 _) (grown_setk _ b 1 _)) (grown_setk _ b 2 _)) (grown_setk _ b 3 _)) (grown_setk _ b 4 _)
theorem B5.at5 {g : Sy} {b : Nat} {w : World} (h : B5 g b w) : At5 w b 0 g := h.cells
theorem tw_at : ∀ (d : L8) (k : Nat) (h : k < d.length), (d.take k).all (fun c => c != 0) = true → d[k] = 0 → d.takeWhile (· != 0) = d.take k ∧ d.contains 0 = true
  | [], k, h, _, _ => by simp at h
  | c :: t, 0, _, _, h0 => by
    have : c = 0 := by simpa using h0
    subst this
    exact ⟨rfl, by simp⟩
  | c :: t, k + 1, h, ha, h0 => by
    rw [List.take_succ_cons, List.all_cons, Bool.and_eq_true] at ha
    obtain ⟨i1, i2⟩ := tw_at t k (by simpa using h) ha.2 (by simpa using h0)
    refine ⟨?_, ?_⟩
    · rw [List.takeWhile_cons, if_pos ha.1, i1, List.take_succ_cons]
    · simp at i2
      simp [i2]
theorem no_zero (d : L8) (h : d.all (fun c => c != 0) = true) : d.contains 0 = false := by
  rw [all_ne] at h
  simpa using h
/-- What the document's Text tells. -/
def txtL (strs : L8) (o : Nat) : L8 := if endsAt strs o = true then nameAt strs o else []
set_option maxHeartbeats 1000000 in
theorem text22 (l : L8) (o : Nat) (ho : o < 4294967296) (hl : l.length ≤ 1000000) (w : World) : Calls Try.prog 22 #[.string ⟨l.toArray⟩, .int .u32 (o : Int)] w fun e w' => e = .returned (.tuple #[.string ⟨(txtL l o).toArray⟩, .bool (endsAt l o)]) ∧ w' = w := by
  obtain ⟨S, hS⟩ : ∃ S : ByteArray, S = ⟨l.toArray⟩ := ⟨_, rfl⟩
  have hSl : S.toList = l := by rw [hS]; exact bal l
  have hsz : S.size = l.length := by rw [← hSl, bt_len]
  rw [← hS]
  have hm : S.size ≤ 1000000 := by omega
  have h64 : (S.size : Int) % 18446744073709551616 = (S.size : Int) := by omega
  have h64' : IntKind.u64.wrap (S.size : Int) = (S.size : Int) := by rw [IntKind.wrap_u64]; omega
  have hoi : (o : Int) < 4294967296 := by omega
  by_cases h : o < l.length
  · have hq : ¬ (S.size : Int) ≤ (o : Int) := by omega
    have dq := decide_eq_false hq
    have HS : Hid (S.toList = l ∧ S.size = l.length ∧ o < l.length) := ⟨hSl, hsz, h⟩
    clear hS hSl hsz h hl ho
    go_enter Try.func22, Try.ntmps22
    go_wp2
    go_loop [6] (fun i => ∃ k : Nat, o + k ≤ S.size ∧ i = .int .i64 ((o : Int) + (k : Int)) ∧ ((l.drop o).take k).all (fun c => c != 0) = true) (fun i => S.size - (intOf i).toNat)
    case atStart => exact ⟨0, by have := HS.out; omega, by simp, rfl⟩
    case round =>
      obtain ⟨k, hk, rfl, hall⟩ := hrel
      obtain ⟨J, hJ⟩ : ∃ J, J = o + k := ⟨_, rfl⟩
      have hJi : (o : Int) + (k : Int) = (J : Int) := by omega
      rw [hJi]
      have hkJ : J ≤ S.size := by omega
      have hoJ : o ≤ J := by omega
      have hoJi : (o : Int) ≤ (J : Int) := by omega
      by_cases hlt : J < S.size
      · have hlti : (J : Int) < (S.size : Int) := by omega
        have hdl : k < (l.drop o).length := by rw [List.length_drop]; have := HS.out.2; omega
        have hlJ : J < S.toList.length := by rw [bt_len]; exact hlt
        have hgt : S[J] = (l.drop o)[k] := by
          rw [bt_get S J hlt hlJ, List.getElem_drop]
          simp only [HS.out.1, hJ]
        obtain ⟨c, hc⟩ : ∃ c : Nat, c = (S[J]).toNat := ⟨_, rfl⟩
        have hcs : (S[J]).toNat = c := hc.symm
        by_cases h0 : c = 0
        · have h00 : (l.drop o)[k] = 0 := by rw [← hgt]; exact UInt8.toNat_inj.1 (by rw [hcs, h0]; rfl)
          obtain ⟨t1, t2⟩ := tw_at _ k hdl hall h00
          have HE : Hid (endsAt l o = true ∧ S.extract o J = ⟨(txtL l o).toArray⟩) := by
            have he : endsAt l o = true := by unfold endsAt; rw [t2, decide_eq_true HS.out.2.2]; rfl
            refine ⟨he, ?_⟩
            unfold txtL
            rw [if_pos he, nameAt, t1, ext_list, HS.out.1, hJ, List.drop_take, Nat.add_sub_cancel_left]
          clear hc hgt hlJ hdl hall h00 t1 t2 hJ
          subst h0
          go_wp2
          go_ret2
          exact ⟨by rw [HE.out.1, ← HE.out.2]; rfl, rfl⟩
        · have h0i : ¬ (c : Int) = 0 := by omega
          have h0b : ((c : Int) == 0) = false := by simpa using h0
          have HA : Hid (((l.drop o).take (k + 1)).all (fun c => c != 0) = true) := by
            rw [Hid, List.take_succ_eq_append_getElem hdl, List.all_append, hall, ← hgt]
            have : ¬ S[J] = 0 := fun e => h0 (by rw [← hcs, e]; rfl)
            simpa using this
          have HJ : Hid (J = o + k) := hJ
          clear hc hgt hlJ hdl hall hJ hJi
          go_wp2
          go_round
          case rel => exact ⟨k + 1, by have := HJ.out; omega, by have := HJ.out; first | (congr 1; omega) | (simp; omega), HA.out⟩
          case measure => have := HJ.out; simp [intOf]; omega
      · have HE : Hid (endsAt l o = false ∧ txtL l o = []) := by
          have he : endsAt l o = false := by
            unfold endsAt
            rw [List.take_of_length_le (by rw [List.length_drop]; have := HS.out.2; omega)] at hall
            rw [no_zero _ hall, Bool.and_false]
          refine ⟨he, ?_⟩
          unfold txtL
          rw [if_neg (by rw [he]; decide)]
        have hlti : ¬ (J : Int) < (S.size : Int) := by omega
        clear hall hJ hJi
        go_wp2
        go_ret2
        exact ⟨by rw [HE.out.1, HE.out.2]; rfl, rfl⟩
  · have HE : endsAt l o = false ∧ txtL l o = [] := by
      have he : endsAt l o = false := by unfold endsAt; rw [decide_eq_false h]; rfl
      refine ⟨he, ?_⟩
      unfold txtL
      rw [if_neg (by rw [he]; decide)]
    rw [HE.1, HE.2]
    have hq : (S.size : Int) ≤ (o : Int) := by omega
    have dq := decide_eq_true hq
    clear hS hSl hsz h hl HE ho
    go_enter Try.func22, Try.ntmps22
    go_wp2
    go_ret2
    exact ⟨rfl, rfl⟩
/-- What Cut tells of a text and a byte 0. -/
def cufB (d : L8) : L8 := if d.contains 0 = true then d.takeWhile (· != 0) else d
def cufA (d : L8) : L8 := if d.contains 0 = true then d.drop ((d.takeWhile (· != 0)).length + 1) else []
theorem tw_lt (d : L8) (h : d.contains 0 = true) : (d.takeWhile (· != 0)).length < d.length := by
  induction d with
  | nil => simp at h
  | cons c t ih =>
    by_cases e : c = 0
    · subst e; simp
    · have h1 : (c != 0) = true := by simpa using e
      rw [List.takeWhile_cons, if_pos h1]
      simp only [List.length_cons]
      have : t.contains 0 = true := by
        simp at h
        rcases h with h | h
        · exact absurd h.symm e
        · simpa using h
      have := ih this
      omega
theorem take_tw (d : L8) : d.take (d.takeWhile (· != 0)).length = d.takeWhile (· != 0) := by
  induction d with
  | nil => rfl
  | cons c t ih =>
    by_cases e : c = 0
    · subst e; simp
    · have h1 : (c != 0) = true := by simpa using e
      rw [List.takeWhile_cons, if_pos h1, List.length_cons, List.take_succ_cons, ih]
theorem below_drN {B : Nat} {w w1 : World} (h : Below B w w1) (n : Nat) : Below B w (w1.drewN n) := h.trans ⟨rfl, rfl, rfl, Nat.le_refl _, fun _ _ => rfl⟩
set_option maxHeartbeats 1000000 in
theorem cut45 (S : ByteArray) (hm : S.size ≤ 1000000) (w : World) : Calls Try.prog 45 #[.string S, .string ⟨#[0]⟩] w fun e w' => e = .returned (.tuple #[.string ⟨(cufB S.toList).toArray⟩, .string ⟨(cufA S.toList).toArray⟩, .bool (S.toList.contains 0)]) ∧ Below w.heap.size w w' := by
  have K := index52 S w
  by_cases h : S.toList.contains 0 = true
  · have hin : (0 : UInt8) ∈ S.toList := by simpa using h
    obtain ⟨n, hn⟩ : ∃ n, n = (S.toList.takeWhile (· != 0)).length := ⟨_, rfl⟩
    rw [first_take S hin, ← hn] at K
    have hlt := tw_lt _ h
    rw [← hn, bt_len] at hlt
    have e1 : (⟨(cufB S.toList).toArray⟩ : ByteArray) = S.extract 0 n := by
      unfold cufB
      rw [if_pos h, ext_list, List.drop_zero, hn, take_tw]
    have e2 : (⟨(cufA S.toList).toArray⟩ : ByteArray) = S.extract (n + 1) S.size := by
      unfold cufA
      rw [if_pos h, ext_list, ← bt_len, List.take_length, hn]
    obtain ⟨n1, hn1⟩ : ∃ z, z = n + 1 := ⟨_, rfl⟩
    rw [← hn1] at e2
    have en : (n : Int) + 1 = (n1 : Int) := by omega
    have l1 : n ≤ S.size := by omega
    have l2 : n1 ≤ S.size := by omega
    have l1i : (n : Int) ≤ (S.size : Int) := by omega
    have l2i : (n1 : Int) ≤ (S.size : Int) := by omega
    have HE : Hid ((⟨(cufB S.toList).toArray⟩ : ByteArray) = S.extract 0 n ∧ (⟨(cufA S.toList).toArray⟩ : ByteArray) = S.extract n1 S.size) := ⟨e1, e2⟩
    rw [h]
    generalize (⟨(cufB S.toList).toArray⟩ : ByteArray) = X at HE ⊢
    generalize (⟨(cufA S.toList).toArray⟩ : ByteArray) = Y at HE ⊢
    clear h hin hn hlt e1 e2 hn1
    go_enter Try.func45, Try.ntmps45
    go_wp2_with fail
    refine K.mono ?_
    rintro e w1 ⟨rfl, rfl⟩
    clear K
    go_wp2
    go_quiet (fail)
    go_wp2
    go_ret3
    exact ⟨by rw [HE.out.1, HE.out.2]; rfl, below_drN (Below.refl _ _) _⟩
  · have h : S.toList.contains 0 = false := by simpa using h
    have hin : (0 : UInt8) ∉ S.toList := by simpa using h
    rw [first_no S hin] at K
    have e1 : (⟨(cufB S.toList).toArray⟩ : ByteArray) = S := by
      unfold cufB
      rw [if_neg (by rw [h]; decide), ByteArray.toList_eq]
    have e2 : cufA S.toList = [] := by unfold cufA; rw [if_neg (by rw [h]; decide)]
    rw [e1, e2, h]
    clear h hin e1 e2
    go_enter Try.func45, Try.ntmps45
    go_wp2_with fail
    refine K.mono ?_
    rintro e w1 ⟨rfl, rfl⟩
    clear K
    go_wp2
    go_ret3
    exact ⟨rfl, Below.refl _ _⟩
theorem cut33 (S : ByteArray) (hm : S.size ≤ 1000000) (w : World) : Calls Try.prog 33 #[.string S, .string ⟨#[0]⟩] w fun e w' => e = .returned (.tuple #[.string ⟨(cufB S.toList).toArray⟩, .string ⟨(cufA S.toList).toArray⟩, .bool (S.toList.contains 0)]) ∧ Below w.heap.size w w' := by
  have K := cut45 S hm w
  generalize (⟨(cufB S.toList).toArray⟩ : ByteArray) = X at K ⊢
  generalize (⟨(cufA S.toList).toArray⟩ : ByteArray) = Y at K ⊢
  generalize S.toList.contains 0 = B at K ⊢
  go_enter Try.func33, Try.ntmps33
  go_wp2_with fail
  refine K.mono ?_
  rintro e w1 ⟨rfl, hb1⟩
  clear K
  go_wp2
  go_ret3
  exact ⟨rfl, hb1⟩
end Go.Proofs.Ytmkfgoacbehhcaa
