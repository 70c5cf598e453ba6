import Derived.Test.YtimfipkbddpdmaaGreatDoorMSpan
import Derived.Laws.ResultCell
import Derived.Test.YtimfipkbddpdmaaGreatDoorMHeld
import Derived.Test.YtimfipkbddpdmaaGreatDoorMCopied
import Derived.Test.YtimfipkbddpdmaaGreatDoorMBitsOf
import Derived.Deep.RegionHeld3
import Derived.Test.YtimfipkbddpdmaaGreatDoorMGw
import Derived.Test.YtimfipkbddpdmaaGreatDoorLast
set_option linter.unusedVariables false
set_option linter.unusedSimpArgs false
set_option maxRecDepth 100000
open Go Go.RowKit
namespace Go.Proofs.YtimfipkbddpdmaaGreatDoor.Gm
set_option maxHeartbeats 1000000 in
theorem found60 (v : Value) (A B C : List (Nat × Int)) (at_ : Nat) (w : World) (hS : Sl .u64 w v (A ++ B ++ C)) (hn : (A ++ B ++ C).length <= 1073741824)
  (hA : ∀ x ∈ A, x.1 < at_) (hB : ∀ x ∈ B, at_ <= x.1 /\ x.1 <= at_) (hC : ∀ x ∈ C, at_ <= x.1 /\ at_ < x.1) :
  Calls Tryz.prog 216 #[v, .func (.func 217) #[] #[], .int .u64 at_] w
   fun e w' => e = .returned (.tuple #[.agg #[.int .u64 ((B.headD (0, 0)).1 : Int), .int .u64 (B.headD (0, 0)).2], .bool (!B.isEmpty)]) /\ Below w.heap.size w w' := by
 have HS : Hid (∀ w', Below w.heap.size w w' -> Sl .u64 w' v (A ++ B ++ C)) := fun w' hb => hS.keep hb
 have K : Hid (∀ w, Sl .u64 w v (A ++ B ++ C) -> Calls Tryz.prog 222 #[v, .func (.func 217) #[] #[], .int .u64 at_, .int .u64 at_] w
   fun e w' => e = .returned (.tuple #[.int .i64 A.length, .int .i64 ((A.length + B.length : Nat) : Int)]) /\ Below w.heap.size w w') := fun w h => span50 v A B C at_ at_ w h hn hA hB hC
 have hl : A.length + B.length <= 1073741824 := by simp at hn; omega
 clear hA hB hC hn
 obtain ⟨W, hW, hb, hsz, cA, cB, fA, fB⟩ := box2 w (.int .u64 0) (.int .u64 0) 48
 have KW := K.out W (HS.out W hb)
 clear K
 cases B with
 | nil =>
  clear hS
  go_enter Tryz.func216, Tryz.ntmps216
  go_wp2_with fail
  refine KW.mono ?_
  rintro e w1 ⟨rfl, hb1⟩
  have dA := keep_cell hb1 cA
  have dB := keep_cell hb1 cB
  have gA := keep_frozen hb1 (by simp [hsz]) fA
  have gB := keep_frozen hb1 (by simp [hsz]) fB
  have hbb := below_tr hb hb1
  clear hW cA cB fA fB KW hb hb1
  go_wp2
  (try simp only [Exit.inBlock, Exit.then])
  refine bodyPost_ret (v := .tuple #[.agg #[.int .u64 0, .int .u64 0], .bool false]) ?_ rfl ⟨by simp, ?_⟩
  ·rw [results_cell_tmp rfl]
   go_simp
  exact (hbb.setCell (Nat.le_refl _) _).setCell (Nat.le_refl _) _
 | cons x B =>
  obtain ⟨b, o, n, cap, rfl, hln, hnc, hcap, c0, c1⟩ := sl_at hS
  clear hS
  go_enter Tryz.func216, Tryz.ntmps216
  go_wp2_with fail
  refine KW.mono ?_
  rintro e w1 ⟨rfl, hb1⟩
  have dA := keep_cell hb1 cA
  have dB := keep_cell hb1 cB
  have gA := keep_frozen hb1 (by simp [hsz]) fA
  have gB := keep_frozen hb1 (by simp [hsz]) fB
  have hbb := below_tr hb hb1
  have d0 := keep_cell hbb c0
  have d1 := keep_cell hbb c1
  clear hW cA cB fA fB KW hb hb1 c0 c1 HS
  go_wp2
  (try simp only [Exit.inBlock, Exit.then])
  refine bodyPost_ret (v := .tuple #[.agg #[.int .u64 x.1, .int .u64 x.2], .bool true]) ?_ rfl ⟨by simp, ?_⟩
  ·rw [results_cell_tmp rfl]
   go_simp
  exact (hbb.setCell (Nat.le_refl _) _).setCell (Nat.le_refl _) _
theorem found60s (v : Value) (xs : List (Nat × Int)) (at_ : Nat) (w : World) (hS : Sl .u64 w v xs) (hs : Srt xs) (hn : xs.length <= 1073741824) :
  Calls Tryz.prog 216 #[v, .func (.func 217) #[] #[], .int .u64 at_] w
   fun e w' => e = .returned (.tuple #[.agg #[.int .u64 (((mid xs at_ at_).headD (0, 0)).1 : Int), .int .u64 ((mid xs at_ at_).headD (0, 0)).2], .bool (!(mid xs at_ at_).isEmpty)]) /\ Below w.heap.size w w' := by
 have e := parts xs hs at_ at_ (Nat.le_refl _)
 rw [e] at hS hn
 exact found60 v _ _ _ at_ w hS hn (fun x hx => by simpa [lo] using (List.mem_filter.1 hx).2) (fun x hx => by simpa [mid] using (List.mem_filter.1 hx).2) (fun x hx => by have := (List.mem_filter.1 hx).2; simp at this; omega)
set_option maxHeartbeats 1000000 in
theorem word46 (vm vc : Value) (cs : List (Nat × Int)) (a : Nat) (w : World) (hm : ∃ x n p, vm = .slice x n p) (hc : Sl .u64 w vc cs) (hs : Srt cs) (hn : cs.length <= 1073741824) :
  Calls Tryz.prog 205 #[.agg #[vm, vc], .int .u64 a] w fun e w' => e = .returned (.int .u64 (wordOf cs a)) /\ Below w.heap.size w w' := by
 obtain ⟨W, hW, hb, hsz, c0, c1, _, _⟩ := box2 w vm vc 29
 have K : Hid (Calls Tryz.prog 216 #[vc, .func (.func 217) #[] #[], .int .u64 a] W fun e w' => e = .returned (.tuple #[.agg #[.int .u64 (((mid cs a a).headD (0, 0)).1 : Int), .int .u64 ((mid cs a a).headD (0, 0)).2], .bool (!(mid cs a a).isEmpty)]) /\ Below W.heap.size W w') := found60s vc cs a W (hc.keep hb) hs hn
 have HR : Hid (((mid cs a a).headD (0, 0)).2 = wordOf cs a) := mid_word cs a
 obtain ⟨x, n, p, rfl⟩ := hm
 obtain ⟨x', n', p', rfl⟩ : ∃ a n p, vc = .slice a n p := by obtain ⟨a, p, h, _⟩ := hc; exact ⟨_, _, _, h⟩
 clear hc hs
 generalize ((mid cs a a).headD (0, 0)).1 = y at K
 generalize ((mid cs a a).headD (0, 0)).2 = z at K HR
 generalize (!(mid cs a a).isEmpty) = b at K
 go_enter Tryz.func205, Tryz.ntmps205
 go_wp2_with fail
 refine K.out.mono ?_
 rintro e w1 ⟨rfl, hb1⟩
 go_wp2
 go_ret
 exact ⟨by rw [<- HR.out]; rfl, (below_tr hb hb1).alloc (below_tr hb hb1).size _⟩
set_option maxHeartbeats 2000000 in
theorem firstFault44 (vm vc : Value) (ms : List (Nat × Int)) (at_ n : Nat) (need : Int) (w : World) (hm : Sl .i64 w vm ms) (hc : ∃ a n p, vc = .slice a n p) (hs : Srt ms) (hl : ms.length <= 1073741824) (ha : at_ < 18446744073709551616) (hn : n <= 8) :
  Calls Tryz.prog 203 #[.agg #[vm, vc], .int .u64 at_, .int .u64 n, .int .i64 need] w
   fun e w' => e = .returned (.agg #[.int .i64 (faultFrom ms at_ need 0 n).1, .int .u64 ((faultFrom ms at_ need 0 n).2 : Int)]) /\ Below w.heap.size w w' := by
 obtain ⟨W, hW, hb, hsz, c0, c1, _, _, g0, g1⟩ := box2b w vm vc (.int .i64 0) (.int .u64 0) 29 38
 have K : Hid (∀ w' (pg : Nat), Below W.heap.size W w' -> Calls Tryz.prog 214 #[vm, .func (.func 215) #[] #[], .int .u64 pg] w'
   fun e w'' => e = .returned (.tuple #[.agg #[.int .u64 (((mid ms pg pg).headD (0, 0)).1 : Int), .int .i64 ((mid ms pg pg).headD (0, 0)).2], .bool (!(mid ms pg pg).isEmpty)]) /\ Below w'.heap.size w' w'') := fun w' pg hb' => found32s vm ms pg w' (hm.keep (below_tr hb hb')) hs hl
 obtain ⟨x, nm, p, rfl⟩ : ∃ a n p, vm = .slice a n p := by obtain ⟨a, p, h, _⟩ := hm; exact ⟨_, _, _, h⟩
 obtain ⟨x', n', p', rfl⟩ := hc
 obtain ⟨F, hF⟩ : ∃ F, F = faultFrom ms at_ need 0 n := ⟨_, rfl⟩
 rw [<- hF]
 have HA : Hid (at_ < 18446744073709551616) := ha
 have H0 : Hid (F = faultFrom ms at_ need 0 n) := hF
 clear hm hs hF ha
 go_enter Tryz.func203, Tryz.ntmps203
 go_wp2
 go_loopw [14] (fun i wr => ∃ k : Nat, k <= n /\ i = .int .u64 k /\ F = faultFrom ms at_ need k (n - k) /\ Below W.heap.size W wr) (fun i _ => n - (intOf i).toNat)
 case atStart => exact ⟨0, Nat.zero_le _, rfl, H0.out, Below.refl _ _⟩
 case round =>
  obtain ⟨k, hk, rfl, hfk, hbr⟩ := hrel
  have HFK : Hid (F = faultFrom ms at_ need k (n - k)) := hfk
  clear hfk
  have e0 := keep_cell hbr c0
  have e1 := keep_cell hbr c1
  by_cases hkn : k < n
  ·obtain ⟨a, haa⟩ : ∃ a, a = (at_ + k) % 18446744073709551616 := ⟨_, rfl⟩
   obtain ⟨pg, hpg⟩ : ∃ pg, pg = a / 16384 := ⟨_, rfl⟩
   have hA : IntKind.u64.wrap ((at_ : Int) + (k : Int)) = (a : Int) := by rw [IntKind.wrap_u64]; omega
   have hP : IntKind.u64.wrap ((a : Int) / 16384) = (pg : Int) := by rw [IntKind.wrap_u64]; omega
   have hlt : ((a : Int) < (at_ : Int)) ↔ 18446744073709551616 <= at_ + k := by have := HA.out; omega
   have HLT : Hid _ := hlt
   have HPG : Hid (pg = ((at_ + k) % 18446744073709551616) / 16384 /\ a = (at_ + k) % 18446744073709551616) := ⟨by rw [hpg, haa], haa⟩
   have HSTEP : Hid (F = if faultK ms at_ k need = 0 then faultFrom ms at_ need (k + 1) (n - (k + 1)) else (faultK ms at_ k need, a)) := by
    have h := HFK.out
    rw [show n - k = (n - (k + 1)) + 1 by omega, faultFrom, <- haa] at h
    exact h
   have hmf := mid_find ms pg
   have HKK : Hid (faultK ms at_ k need = match (mid ms pg pg).head? with | none => 1 | some x => if 18446744073709551616 <= at_ + k then 1 else if bits .and .i64 x.2 need = 0 then 2 else 0) := by
    show _ = _
    rw [hmf, faultK, HPG.out.1]
    rfl
   have KW := K.out wr pg hbr
   clear hmf hlt haa hpg
   obtain ⟨y1, hy1⟩ : ∃ y, y = ((mid ms pg pg).headD (0, 0)).1 := ⟨_, rfl⟩
   obtain ⟨y2, hy2⟩ : ∃ y, y = ((mid ms pg pg).headD (0, 0)).2 := ⟨_, rfl⟩
   obtain ⟨bb, hbb⟩ : ∃ b, b = !(mid ms pg pg).isEmpty := ⟨_, rfl⟩
   have HK2 : Hid ((bb = false -> faultK ms at_ k need = 1) /\ (bb = true -> faultK ms at_ k need = if 18446744073709551616 <= at_ + k then 1 else if bits .and .i64 y2 need = 0 then 2 else 0)) := by
    have h := HKK.out
    generalize mid ms pg pg = M at h hy2 hbb
    cases M with
    | nil => exact ⟨fun _ => h, fun e => by rw [e] at hbb; simp at hbb⟩
    | cons y M => exact ⟨fun e => by rw [e] at hbb; simp at hbb, fun _ => by rw [h, hy2]; rfl⟩
   rw [<- hy1, <- hy2, <- hbb] at KW
   clear hy1 hy2 hbb HKK
   cases bb with
   | false =>
    have HK3 : Hid (faultK ms at_ k need = 1) := HK2.out.1 rfl
    clear HK2
    go_wp2_with fail
    refine KW.mono ?_
    rintro e wq ⟨rfl, hb1⟩
    have HF : Hid (F = (1, a)) := by
     have h := HSTEP.out
     rw [HK3.out] at h
     show F = (1, a)
     simpa using h
    clear KW
    obtain ⟨W3, hW3, hb3, _, m0, m1, _, _⟩ := box2 wq (.int .u64 y1) (.int .i64 y2) 86
    have G0 : Free W3 ⟨w.heap.size + 1, 0, none⟩ := freeA
    have G1 : Free W3 ⟨w.heap.size + 1, 1, none⟩ := freeA
    have q0 := G0.cell
    have q1 := G1.cell
    have q2 := G0.frozen
    have q3 := G1.frozen
    go_wp2
    (try simp only [Exit.inBlock, Exit.then])
    obtain ⟨r0, r1⟩ := res2 W3 (w.heap.size + 1) (.int .i64 1) (.int .u64 a) G0 G1
    refine bodyPost_ret (v := .agg #[.int .i64 1, .int .u64 a]) ?_ rfl ⟨by first | (rw [HF.out]; done) | (rw [HF.out]; rfl), belA⟩
    rw [results_cell1 rfl]; simp [go_sem, r0, r1]
   | true =>
    have HK3 : Hid (faultK ms at_ k need = if 18446744073709551616 <= at_ + k then 1 else if bits .and .i64 y2 need = 0 then 2 else 0) := HK2.out.2 rfl
    clear HK2
    go_wp2_with fail
    refine KW.mono ?_
    rintro e wq ⟨rfl, hb1⟩
    clear KW
    obtain ⟨W3, hW3, hb3, _, m0, m1, _, _⟩ := box2 wq (.int .u64 y1) (.int .i64 y2) 86
    have G0 : Free W3 ⟨w.heap.size + 1, 0, none⟩ := freeA
    have G1 : Free W3 ⟨w.heap.size + 1, 1, none⟩ := freeA
    have q0 := G0.cell
    have q1 := G1.cell
    have q2 := G0.frozen
    have q3 := G1.frozen
    by_cases a1 : (a : Int) < (at_ : Int)
    ·have HF : Hid (F = (1, a)) := by
      have h := HSTEP.out
      rw [show faultK ms at_ k need = 1 from by rw [HK3.out, if_pos (HLT.out.1 a1)]] at h
      show F = (1, a)
      simpa using h
     go_wp2
     (try simp only [Exit.inBlock, Exit.then])
     obtain ⟨r0, r1⟩ := res2 W3 (w.heap.size + 1) (.int .i64 1) (.int .u64 a) G0 G1
     refine bodyPost_ret (v := .agg #[.int .i64 1, .int .u64 a]) ?_ rfl ⟨by first | (rw [HF.out]; done) | (rw [HF.out]; rfl), belA⟩
     rw [results_cell1 rfl]; simp [go_sem, r0, r1]
    have H1 : Hid (¬ 18446744073709551616 <= at_ + k) := fun h => a1 (HLT.out.2 h)
    by_cases a2 : bits .and .i64 y2 need = 0
    ·have HF : Hid (F = (2, a)) := by
      have h := HSTEP.out
      rw [show faultK ms at_ k need = 2 from by rw [HK3.out, if_neg H1.out, if_pos a2]] at h
      show F = (2, a)
      simpa using h
     go_wp2
     (try simp only [Exit.inBlock, Exit.then])
     obtain ⟨r0, r1⟩ := res2 W3 (w.heap.size + 1) (.int .i64 2) (.int .u64 a) G0 G1
     refine bodyPost_ret (v := .agg #[.int .i64 2, .int .u64 a]) ?_ rfl ⟨by first | (rw [HF.out]; done) | (rw [HF.out]; rfl), belA⟩
     rw [results_cell1 rfl]; simp [go_sem, r0, r1]
    ·have HR : Hid (F = faultFrom ms at_ need (k + 1) (n - (k + 1))) := by
      have h := HSTEP.out
      rw [show faultK ms at_ k need = 0 from by rw [HK3.out, if_neg H1.out, if_neg a2]] at h
      show F = faultFrom ms at_ need (k + 1) (n - (k + 1))
      simpa using h
     have A2 : (bits .and .i64 y2 need == 0) = false := by simpa using a2
     go_wp2
     go_roundw
     case rel => exact ⟨k + 1, by omega, by go_num, HR.out, belA⟩
     case measure => simp [intOf]; omega
  ·have HF : Hid (F = (0, 0)) := by
    have h := HFK.out
    rw [show n - k = 0 by omega, faultFrom] at h
    exact h
   obtain ⟨wq, hwq⟩ : ∃ wq, wq = wr := ⟨_, rfl⟩
   subst hwq
   have G0 : Free wq ⟨w.heap.size + 1, 0, none⟩ := freeA
   have G1 : Free wq ⟨w.heap.size + 1, 1, none⟩ := freeA
   have q0 := G0.cell
   have q1 := G1.cell
   have q2 := G0.frozen
   have q3 := G1.frozen
   go_wp2
   (try simp only [Exit.inBlock, Exit.then])
   obtain ⟨r0, r1⟩ := res2 wq (w.heap.size + 1) (.int .i64 0) (.int .u64 0) G0 G1
   refine bodyPost_ret (v := .agg #[.int .i64 0, .int .u64 0]) ?_ rfl ⟨by first | (rw [HF.out]; done) | (rw [HF.out]; rfl), belA⟩
   rw [results_cell1 rfl]; simp [go_sem, r0, r1]
set_option maxHeartbeats 2000000 in
theorem load20_ok (vm vc : Value) (ms cs : List (Nat × Int)) (a k : Nat) (w : World) (hm : Sl .i64 w vm ms) (hc : Sl .u64 w vc cs) (sm : Srt ms) (sc : Srt cs) (lm : ms.length <= 1073741824) (lc : cs.length <= 1073741824) (hw : Words cs)
  (ha : a < 18446744073709551616) (k1 : 1 <= k) (k8 : k <= 8) (hf : (faultFrom ms a 1 0 k).1 = 0) :
  Calls Tryz.prog 150 #[.agg #[vm, vc], .int .u64 a, .int .i64 k] w fun e w' => e = .returned (.tuple #[.int .u64 ((loadN cs a k : Nat) : Int), .agg #[.int .i64 0, .int .u64 0]]) /\ Below w.heap.size w w' := by
 obtain ⟨W, hW, hb, hsz, c0, c1, _, _, g0, g1⟩ := box2b w vm vc (.int .i64 0) (.int .u64 0) 29 38
 obtain ⟨hf0, hfj⟩ := faultFrom_kind ms a 1 k 0 hf
 have hlast : a + (k - 1) < 18446744073709551616 := faultK_lt ms a (k - 1) 1 (hfj _ (by omega) (by omega))
 obtain ⟨last, hl⟩ : ∃ last, last = a + k - 1 := ⟨_, rfl⟩
 obtain ⟨x, nm, p, rfl⟩ : ∃ a n p, vm = .slice a n p := by obtain ⟨a, p, h, _⟩ := hm; exact ⟨_, _, _, h⟩
 obtain ⟨x', nc, p', rfl⟩ : ∃ a n p, vc = .slice a n p := by obtain ⟨a, p, h, _⟩ := hc; exact ⟨_, _, _, h⟩
 have K44 : Hid (Calls Tryz.prog 203 #[.agg #[.slice x nm p, .slice x' nc p'], .int .u64 a, .int .u64 k, .int .i64 1] W fun e w' => e = .returned (.agg #[.int .i64 0, .int .u64 0]) /\ Below W.heap.size W w') := by
  have h := firstFault44 (.slice x nm p) (.slice x' nc p') ms a k 1 W (hm.keep hb) ⟨_, _, _, rfl⟩ sm lm ha k8
  rw [hf0] at h
  exact h
 have K45 : Hid (∀ (b : Nat) w', b < 18446744073709551616 -> Calls Tryz.prog 204 #[.int .u64 b] w' fun e w'' => e = .returned (.int .u64 ((cellOf b : Nat) : Int)) /\ w'' = w') := fun b w' hb' => cellOf45 b hb' w'
 have K46 : Hid (∀ (b : Nat) w', Below W.heap.size W w' -> Calls Tryz.prog 205 #[.agg #[.slice x nm p, .slice x' nc p'], .int .u64 b] w' fun e w'' => e = .returned (.int .u64 ((wordN cs b : Nat) : Int)) /\ Below w'.heap.size w' w'') := fun b w' hb' => by
  have h := word46 (.slice x nm p) (.slice x' nc p') cs b w' ⟨_, _, _, rfl⟩ (hc.keep (below_tr hb hb')) sc lc
  rw [wordOf_eq cs hw] at h
  exact h
 have HL : Hid (last = a + k - 1 /\ a < 18446744073709551616 /\ last < 18446744073709551616 /\ a <= last /\ last < a + 8) := ⟨hl, ha, by omega, by omega, by omega⟩
 have HW : Hid _ := hw
 obtain ⟨low, hlow⟩ : ∃ c, c = cellOf a := ⟨_, rfl⟩
 obtain ⟨high, hhigh⟩ : ∃ c, c = cellOf last := ⟨_, rfl⟩
 have HC : Hid (low = cellOf a /\ high = cellOf last) := ⟨hlow, hhigh⟩
 have hwl : IntKind.u64.wrap (IntKind.u64.wrap ((a : Int) + (k : Int)) - 1) = (last : Int) := by rw [IntKind.wrap_u64, IntKind.wrap_u64]; omega
 obtain ⟨M1, hM1⟩ : ∃ M, M = maskOf (max a low - low) (min last (low + 7) - low) := ⟨_, rfl⟩
 obtain ⟨M2, hM2⟩ : ∃ M, M = maskOf (max a high - high) (min last (high + 7) - high) := ⟨_, rfl⟩
 have c1' := cellOf_facts a
 have c2' := cellOf_facts last
 rw [<- hlow] at c1'
 rw [<- hhigh] at c2'
 have K47 : Hid (∀ w', Calls Tryz.prog 206 #[.int .u64 low, .int .u64 a, .int .u64 last] w' fun e w'' => e = .returned (.int .u64 M1) /\ w'' = w') := fun w' => by
  rw [hM1]; exact bitsOf47 low a last w' c1'.1 (by omega) ha (by omega) (by omega) (by omega)
 have K47' : Hid (∀ w', Calls Tryz.prog 206 #[.int .u64 high, .int .u64 a, .int .u64 last] w' fun e w'' => e = .returned (.int .u64 M2) /\ w'' = w') := fun w' => by
  rw [hM2]; exact bitsOf47 high a last w' c2'.1 (by omega) ha (by omega) (by omega) (by omega)
 have HM : Hid (M1 = maskOf (max a low - low) (min last (low + 7) - low) /\ M2 = maskOf (max a high - high) (min last (high + 7) - high)) := ⟨hM1, hM2⟩
 have HCF : Hid (low % 8 = 0 /\ low <= a /\ a <= low + 7 /\ high % 8 = 0 /\ high <= last /\ last <= high + 7) := ⟨c1'.1, c1'.2.1, c1'.2.2, c2'.1, c2'.2.1, c2'.2.2⟩
 clear hM1 hM2 c1' c2'
 clear hm hc sm sc hf hfj hf0 hlast hl hw ha hlow hhigh
 go_enter Tryz.func150, Tryz.ntmps150
 go_wp2_with fail
 refine K44.out.mono ?_
 rintro e w1 ⟨rfl, hb1⟩
 have e0 := keep_cell hb1 c0
 have e1 := keep_cell hb1 c1
 go_wp2_with fail
 obtain ⟨W3, hW3, hb3, _, m0, m1, _, _⟩ := box2 w1 (.int .i64 0) (.int .u64 0) 38
 have e0 := keep_cell hb3 e0
 have e1 := keep_cell hb3 e1
 rw [hW3]
 refine (K45.out a W3 HL.out.2.1).mono ?_
 rintro e w4 ⟨rfl, h4⟩
 subst h4
 rw [<- HC.out.1]
 go_wp2_with fail
 refine (K45.out last w4 HL.out.2.2.1).mono ?_
 rintro e w5 ⟨rfl, h5⟩
 subst h5
 rw [<- HC.out.2]
 go_wp2_with fail
 refine (K46.out low w5 (below_tr hb1 hb3)).mono ?_
 rintro e w6 ⟨rfl, hb6⟩
 have e0 := keep_cell hb6 e0
 have e1 := keep_cell hb6 e1
 go_wp2_with fail
 refine (K47.out w6).mono ?_
 rintro e w7 ⟨rfl, h7⟩
 subst h7
 have hbW : Below W.heap.size W w7 := below_tr (below_tr hb1 hb3) hb6
 by_cases hhl : high = low
 ·subst hhl
  have G0 : Free w7 ⟨w.heap.size + 1, 0, none⟩ := freeA
  have G1 : Free w7 ⟨w.heap.size + 1, 1, none⟩ := freeA
  have q0 := G0.cell
  have q1 := G1.cell
  have q2 := G0.frozen
  have q3 := G1.frozen
  go_wp2
  (try simp only [Exit.inBlock, Exit.then])
  obtain ⟨r0, r1⟩ := res2 w7 (w.heap.size + 1) (.int .i64 0) (.int .u64 0) G0 G1
  refine bodyPost_ret (v := .tuple #[.int .u64 ((loadN cs a k : Nat) : Int), .agg #[.int .i64 0, .int .u64 0]]) ?_ rfl ⟨rfl, belA⟩
  rw [results_tmp_cell rfl]
  simp [go_sem, r0, r1]
  obtain ⟨f1, f2, f3, f4, f5, f6⟩ := HCF.out
  obtain ⟨l1, l2, l3, l4, l5⟩ := HL.out
  rw [shiftE a high f2 f3 l2, andShr _ _ _ (wordN_lt cs HW.out _) (by rw [HM.out.1]; exact mask_lt _ _) (by omega), loadN, <- l1, <- HC.out.2, if_pos HC.out.1, lowPart, <- HC.out.1, <- HM.out.1]
 ·have hne : ((high : Int) != (low : Int)) = true := by simp; omega
  go_wp2_with fail
  refine (K46.out high w7 hbW).mono ?_
  rintro e w8 ⟨rfl, hb8⟩
  have e0 := keep_cell hb8 e0
  have e1 := keep_cell hb8 e1
  have HHL : Hid (¬ high = low) := hhl
  clear hhl
  go_wp2_with fail
  refine (K47'.out w8).mono ?_
  rintro e w9 ⟨rfl, h9⟩
  subst h9
  have G0 : Free w9 ⟨w.heap.size + 1, 0, none⟩ := freeA
  have G1 : Free w9 ⟨w.heap.size + 1, 1, none⟩ := freeA
  have q0 := G0.cell
  have q1 := G1.cell
  have q2 := G0.frozen
  have q3 := G1.frozen
  go_wp2
  (try simp only [Exit.inBlock, Exit.then])
  obtain ⟨r0, r1⟩ := res2 w9 (w.heap.size + 1) (.int .i64 0) (.int .u64 0) G0 G1
  refine bodyPost_ret (v := .tuple #[.int .u64 ((loadN cs a k : Nat) : Int), .agg #[.int .i64 0, .int .u64 0]]) ?_ rfl ⟨rfl, belA⟩
  rw [results_tmp_cell rfl]
  simp [go_sem, r0, r1]
  obtain ⟨f1, f2, f3, f4, f5, f6⟩ := HCF.out
  obtain ⟨l1, l2, l3, l4, l5⟩ := HL.out
  have hhl := HHL.out
  have hgt : a < high /\ high <= a + 7 := by omega
  rw [shiftE a low f2 f3 l2, shiftE high a (by omega) hgt.2 (by omega), andShr _ _ _ (wordN_lt cs HW.out _) (by rw [HM.out.1]; exact mask_lt _ _) (by omega),
   andShl _ _ _ (wordN_lt cs HW.out _) (by rw [HM.out.2]; exact mask_lt _ _) (by omega), or64 _ _ (Nat.lt_of_le_of_lt (Nat.div_le_self _ _) (Nat.lt_of_le_of_lt Nat.and_le_left (wordN_lt cs HW.out _))) (Nat.mod_lt _ (by omega)),
   loadN, <- l1, <- HC.out.2, <- HC.out.1, if_neg hhl, lowPart, highPart, <- HC.out.1, <- HC.out.2, <- HM.out.1, <- HM.out.2]
set_option maxHeartbeats 2000000 in
theorem load20_fault (vm vc : Value) (ms cs : List (Nat × Int)) (a k : Nat) (w : World) (hm : Sl .i64 w vm ms) (hc : Sl .u64 w vc cs) (sm : Srt ms) (lm : ms.length <= 1073741824)
  (ha : a < 18446744073709551616) (k1 : 1 <= k) (k8 : k <= 8) (hf : (faultFrom ms a 1 0 k).1 ≠ 0) :
  Calls Tryz.prog 150 #[.agg #[vm, vc], .int .u64 a, .int .i64 k] w fun e w' => e = .returned (.tuple #[.int .u64 0, .agg #[.int .i64 (faultFrom ms a 1 0 k).1, .int .u64 ((faultFrom ms a 1 0 k).2 : Int)]]) /\ Below w.heap.size w w' := by
 obtain ⟨W, hW, hb, hsz, c0, c1, _, _, g0, g1⟩ := box2b w vm vc (.int .i64 0) (.int .u64 0) 29 38
 obtain ⟨x, nm, p, rfl⟩ : ∃ a n p, vm = .slice a n p := by obtain ⟨a, p, h, _⟩ := hm; exact ⟨_, _, _, h⟩
 obtain ⟨x', nc, p', rfl⟩ : ∃ a n p, vc = .slice a n p := by obtain ⟨a, p, h, _⟩ := hc; exact ⟨_, _, _, h⟩
 have K44 : Hid (Calls Tryz.prog 203 #[.agg #[.slice x nm p, .slice x' nc p'], .int .u64 a, .int .u64 k, .int .i64 1] W fun e w' => e = .returned (.agg #[.int .i64 (faultFrom ms a 1 0 k).1, .int .u64 ((faultFrom ms a 1 0 k).2 : Int)]) /\ Below W.heap.size W w') :=
  firstFault44 (.slice x nm p) (.slice x' nc p') ms a k 1 W (hm.keep hb) ⟨_, _, _, rfl⟩ sm lm ha k8
 generalize (faultFrom ms a 1 0 k).1 = fk at K44 hf |-
 generalize (faultFrom ms a 1 0 k).2 = fa at K44 |-
 have hne : (fk != 0) = true := by simpa using hf
 clear hm hc sm hf ha
 go_enter Tryz.func150, Tryz.ntmps150
 go_wp2_with fail
 refine K44.out.mono ?_
 rintro e w1 ⟨rfl, hb1⟩
 obtain ⟨W3, hW3, hb3, _, m0, m1, _, _⟩ := box2 w1 (.int .i64 fk) (.int .u64 fa) 38
 have G0 : Free W3 ⟨w.heap.size + 1, 0, none⟩ := freeA
 have G1 : Free W3 ⟨w.heap.size + 1, 1, none⟩ := freeA
 have hlt : w.heap.size + 1 < w1.heap.size := by have := hb1.size; omega
 have HLT : Hid (w.heap.size + 1 < w1.heap.size) := hlt
 clear hlt K44
 have q0 := G0.cell
 have q1 := G1.cell
 have q2 := G0.frozen
 have q3 := G1.frozen
 go_wp2
 go_region_held3 (fun w' => Below w.heap.size w w' /\ w'.cell? ⟨w1.heap.size, 0, none⟩ = some (.int .i64 fk) /\ w'.cell? ⟨w1.heap.size, 1, none⟩ = some (.int .u64 fa) /\ w'.cell? ⟨w.heap.size + 1, 0, none⟩ = some (cellAt w' ⟨w.heap.size + 1, 0, none⟩) /\ w'.cell? ⟨w.heap.size + 1, 1, none⟩ = some (cellAt w' ⟨w.heap.size + 1, 1, none⟩) /\ w'.frozen? ⟨w.heap.size + 1, 0, none⟩ = false /\ w'.frozen? ⟨w.heap.size + 1, 1, none⟩ = false)
  (refine ⟨?_, ?_, ?_, ?_, ?_, ?_, ?_⟩ <;> first | (with_reducible refine Free.cell ?_; exact freeA) | (with_reducible refine Free.frozen ?_; exact freeA) | exact belA | ((repeat (first | with_reducible assumption | with_reducible refine cell_drew ?_ | (with_reducible refine cell_far ?_ ?_ _; rotate_left; focus (have := HLT.out; simp; omega)))); done)) (fail)
 all_goals (go_wp2; (try simp only [Exit.inBlock, Exit.then]))
 all_goals obtain ⟨r0, r1⟩ := res2 W3 (w.heap.size + 1) (.int .i64 fk) (.int .u64 fa) G0 G1
 all_goals have r2 := World.cell?_setCell_same W3 ⟨w.heap.size + 1, 0, none⟩ (.int .i64 fk) q0
 all_goals refine bodyPost_ret (v := .tuple #[.int .u64 0, .agg #[.int .i64 fk, .int .u64 fa]]) ?_ rfl ⟨rfl, belA⟩
 all_goals (rw [results_tmp_cell rfl]; simp [go_sem, r0, r1])
set_option maxHeartbeats 4000000 in
theorem store22_ok (vm vc : Value) (ms cs : List (Nat × Int)) (a k v : Nat) (w : World) (hm : Sl .i64 w vm ms) (hc : Sl .u64 w vc cs) (sm : Srt ms) (sc : Srt cs) (lm : ms.length <= 1073741824) (lc : cs.length <= 1073741822) (hw : Words cs)
  (ha : a < 18446744073709551616) (k1 : 1 <= k) (k8 : k <= 8) (hv : v < 18446744073709551616) (hf : (faultFrom ms a 2 0 k).1 = 0) :
  Calls Tryz.prog 225 #[.agg #[vm, vc], .int .u64 a, .int .i64 k, .int .u64 v] w fun e w' => ∃ vm' vc', e = .returned (.tuple #[.agg #[vm', vc'], .agg #[.int .i64 0, .int .u64 0]]) /\ OwnH w.heap.size w' vm' vc' ms (storeN cs a k v) /\ Below w.heap.size w w' := by
 obtain ⟨W, hW, hb, hsz, c0, c1, g0, g1, g2, g3⟩ := box2c w vm vc (.slice none 0 0) (.slice none 0 0) (.int .i64 0) (.int .u64 0) 29 29 38
 obtain ⟨hf0, hfj⟩ := faultFrom_kind ms a 2 k 0 hf
 have hlast : a + (k - 1) < 18446744073709551616 := faultK_lt ms a (k - 1) 2 (hfj _ (by omega) (by omega))
 obtain ⟨last, hl⟩ : ∃ last, last = a + k - 1 := ⟨_, rfl⟩
 obtain ⟨x, nm, p, rfl⟩ : ∃ a n p, vm = .slice a n p := by obtain ⟨a, p, h, _⟩ := hm; exact ⟨_, _, _, h⟩
 obtain ⟨x', nc, p', rfl⟩ : ∃ a n p, vc = .slice a n p := by obtain ⟨a, p, h, _⟩ := hc; exact ⟨_, _, _, h⟩
 have K44 : Hid (Calls Tryz.prog 203 #[.agg #[.slice x nm p, .slice x' nc p'], .int .u64 a, .int .u64 k, .int .i64 2] W fun e w' => e = .returned (.agg #[.int .i64 0, .int .u64 0]) /\ Below W.heap.size W w') := by
  have h := firstFault44 (.slice x nm p) (.slice x' nc p') ms a k 2 W (hm.keep hb) ⟨_, _, _, rfl⟩ sm lm ha k8
  rw [hf0] at h
  exact h
 have K45 : Hid (∀ (b : Nat) w', b < 18446744073709551616 -> Calls Tryz.prog 204 #[.int .u64 b] w' fun e w'' => e = .returned (.int .u64 ((cellOf b : Nat) : Int)) /\ w'' = w') := fun b w' hb' => cellOf45 b hb' w'
 have K46 : Hid (∀ (b : Nat) w', Below W.heap.size W w' -> Calls Tryz.prog 205 #[.agg #[.slice x nm p, .slice x' nc p'], .int .u64 b] w' fun e w'' => e = .returned (.int .u64 ((wordN cs b : Nat) : Int)) /\ Below w'.heap.size w' w'') := fun b w' hb' => by
  have h := word46 (.slice x nm p) (.slice x' nc p') cs b w' ⟨_, _, _, rfl⟩ (hc.keep (below_tr hb hb')) sc (by omega)
  rw [wordOf_eq cs hw] at h
  exact h
 have HL : Hid (last = a + k - 1 /\ a < 18446744073709551616 /\ last < 18446744073709551616 /\ a <= last /\ last < a + 8) := ⟨hl, ha, by omega, by omega, by omega⟩
 have HW : Hid (Words cs) := hw
 obtain ⟨low, hlow⟩ : ∃ c, c = cellOf a := ⟨_, rfl⟩
 obtain ⟨high, hhigh⟩ : ∃ c, c = cellOf last := ⟨_, rfl⟩
 have HC : Hid (low = cellOf a /\ high = cellOf last) := ⟨hlow, hhigh⟩
 have hwl : IntKind.u64.wrap (IntKind.u64.wrap ((a : Int) + (k : Int)) - 1) = (last : Int) := by rw [IntKind.wrap_u64, IntKind.wrap_u64]; omega
 obtain ⟨M1, hM1⟩ : ∃ M, M = maskOf (max a low - low) (min last (low + 7) - low) := ⟨_, rfl⟩
 obtain ⟨M2, hM2⟩ : ∃ M, M = maskOf (max a high - high) (min last (high + 7) - high) := ⟨_, rfl⟩
 have c1' := cellOf_facts a
 have c2' := cellOf_facts last
 rw [<- hlow] at c1'
 rw [<- hhigh] at c2'
 have hlh : low <= high := by omega
 have K47 : Hid (∀ w', Calls Tryz.prog 206 #[.int .u64 low, .int .u64 a, .int .u64 last] w' fun e w'' => e = .returned (.int .u64 M1) /\ w'' = w') := fun w' => by
  rw [hM1]; exact bitsOf47 low a last w' c1'.1 (by omega) ha (by omega) (by omega) (by omega)
 have K47' : Hid (∀ w', Calls Tryz.prog 206 #[.int .u64 high, .int .u64 a, .int .u64 last] w' fun e w'' => e = .returned (.int .u64 M2) /\ w'' = w') := fun w' => by
  rw [hM2]; exact bitsOf47 high a last w' c2'.1 (by omega) ha (by omega) (by omega) (by omega)
 have HM : Hid (M1 < 18446744073709551616 /\ M2 < 18446744073709551616) := ⟨by rw [hM1]; exact mask_lt _ _, by rw [hM2]; exact mask_lt _ _⟩
 have hWL : Hid (∀ b, wordN cs b < 18446744073709551616) := wordN_lt cs hw
 have K50 : Hid (∀ w', Below W.heap.size W w' -> Calls Tryz.prog 222 #[.slice x' nc p', .func (.func 217) #[] #[], .int .u64 low, .int .u64 high] w'
   fun e w'' => e = .returned (.tuple #[.int .i64 ((lo cs low).length : Int), .int .i64 (((lo cs low).length + (mid cs low high).length : Nat) : Int)]) /\ Below w'.heap.size w' w'') := fun w' hb' => span50s _ cs low high w' (hc.keep (below_tr hb hb')) sc (by omega) hlh
 obtain ⟨f, hfdef⟩ : ∃ f, f = (lo cs low).length := ⟨_, rfl⟩
 obtain ⟨t, htdef⟩ : ∃ t, t = (lo cs low).length + (mid cs low high).length := ⟨_, rfl⟩
 have hlen := parts_len cs sc low high hlh
 have u1 : cs.take f = lo cs low := by rw [hfdef]; exact parts_take cs sc low high hlh
 have u2 : cs.drop t = hi cs high := by rw [htdef]; exact parts_drop cs sc low high hlh
 rw [<- htdef, <- hfdef] at K50
 have K51 : Hid (∀ vn ns w1, Below W.heap.size W w1 -> Sl .u64 w1 vn ns -> ns.length <= 2 -> Calls Tryz.prog 236 #[.agg #[.slice x nm p, .slice x' nc p'], .int .i64 f, .int .i64 t, vn] w1 fun e w' => ∃ b1 k1 q1 b2 k2 q2, e = .returned (.agg #[.slice b1 k1 q1, .slice b2 k2 q2]) /\ w'.ownsRow (w.heap.size + 3) 86 2 (.slice b1 k1 q1) ms.length (rowOf .i64 ms) /\
   w'.ownsRow (w.heap.size + 3) 48 2 (.slice b2 k2 q2) (lo cs low ++ ns ++ hi cs high).length (rowOf .u64 (lo cs low ++ ns ++ hi cs high)) /\ Below w1.heap.size w1 w') := fun vn ns w1 hb1 hsn hns => by
  have h := exchanged51 (.slice x nm p) (.slice x' nc p') vn ms cs ns f t w1 (hm.keep (below_tr hb hb1)) (hc.keep (below_tr hb hb1)) hsn lm (by rw [u1, u2]; simp; omega) (by omega) (by omega) (by omega)
  rw [u1, u2] at h
  refine h.mono ?_
  rintro e w' ⟨v1, v2, rfl, ho, ho2, hB⟩
  obtain ⟨b1, k1, q1, rfl⟩ := own_shape ho
  obtain ⟨b2, k2, q2, rfl⟩ := own_shape ho2
  have := hb1.size
  exact ⟨b1, k1, q1, b2, k2, q2, rfl, own_base ho (by omega), own_base ho2 (by omega), hB⟩
 have HCF : Hid (low % 8 = 0 /\ low <= a /\ a <= low + 7 /\ high % 8 = 0 /\ high <= last /\ last <= high + 7) := ⟨c1'.1, c1'.2.1, c1'.2.2, c2'.1, c2'.2.1, c2'.2.2⟩
 obtain ⟨V1, hV1⟩ : ∃ V, V = v * 2 ^ (8 * (a - low)) % 18446744073709551616 := ⟨_, rfl⟩
 obtain ⟨V2, hV2⟩ : ∃ V, V = v / 2 ^ (8 * (high - a)) := ⟨_, rfl⟩
 have HV : Hid (V1 < 18446744073709551616 /\ V2 < 18446744073709551616) := ⟨by omega, by rw [hV2]; exact Nat.lt_of_le_of_lt (Nat.div_le_self _ _) hv⟩
 have y1 : IntKind.u64.wrap ((v : Int) * 2 ^ min (IntKind.u64.wrap (8 * IntKind.u64.wrap ((a : Int) - (low : Int)))).toNat 64) = (V1 : Int) := by
  rw [shiftE a low c1'.2.1 c1'.2.2 ha, shl64 _ _ (by omega), hV1]
 have HY2 : Hid (¬ high = low -> (v : Int) / 2 ^ min (IntKind.u64.wrap (8 * IntKind.u64.wrap ((high : Int) - (a : Int)))).toNat 64 = (V2 : Int)) := fun hne => by
  rw [shiftE high a (by omega) (by omega) (by omega), shr64 _ _ (by omega), hV2]
 have HS : Hid (storeN cs a k v = lo cs low ++ (cellIf low (nowN (wordN cs low) M1 V1) ++ (if high = low then [] else cellIf high (nowN (wordN cs high) M2 V2))) ++ hi cs high) := by
  show _ = _
  rw [storeN, putCells, <- hl, <- hlow, <- hhigh, <- hM1, <- hM2, <- hV1, <- hV2]
 have hlenW : W.heap.size = w.heap.size + 3 := hsz
 clear hM1 hM2 c1' c2' hfdef htdef hlen u1 u2 hV1 hV2
 clear hm hc sm sc hf hfj hf0 hlast hl hw ha hlow hhigh hlh
 obtain ⟨ZS, hZS⟩ : ∃ z, z = storeN cs a k v := ⟨_, rfl⟩
 rw [<- hZS]
 have HZ : Hid (ZS = lo cs low ++ (cellIf low (nowN (wordN cs low) M1 V1) ++ (if high = low then [] else cellIf high (nowN (wordN cs high) M2 V2))) ++ hi cs high) := hZS.trans HS.out
 clear HS hZS
 go_enter Tryz.func225, Tryz.ntmps225
 go_wp2_with fail
 refine K44.out.mono ?_
 rintro e w1 ⟨rfl, hb1⟩
 have e0 := keep_cell hb1 c0
 have e1 := keep_cell hb1 c1
 go_wp2_with fail
 obtain ⟨W3, hW3, hb3, _, m0, m1, _, _⟩ := box2 w1 (.int .i64 0) (.int .u64 0) 38
 have e0 := keep_cell hb3 e0
 have e1 := keep_cell hb3 e1
 rw [hW3]
 refine (K45.out a W3 HL.out.2.1).mono ?_
 rintro e w4 ⟨rfl, h4⟩
 subst h4
 rw [<- HC.out.1]
 go_wp2_with fail
 refine (K45.out last w4 HL.out.2.2.1).mono ?_
 rintro e w5 ⟨rfl, h5⟩
 subst h5
 rw [<- HC.out.2]
 go_wp2_with fail
 refine (K46.out low w5 (below_tr hb1 hb3)).mono ?_
 rintro e w6 ⟨rfl, hb6⟩
 have e0 := keep_cell hb6 e0
 have e1 := keep_cell hb6 e1
 go_wp2_with fail
 refine (K47.out w6).mono ?_
 rintro e w7 ⟨rfl, h7⟩
 subst h7
 have hbW : Below W.heap.size W w7 := below_tr (below_tr hb1 hb3) hb6
 clear e0 e1 hb1 hb3 hb6 m0 m1 hW3
 go_wp2_with fail
 refine (changed49 (.slice none 0 0) [] low (wordN cs low) M1 V1 W.heap.size w7 (World.ownsRow_nil _ _ _ _) hbW.size (by simp) (hWL.out _) HM.out.1 HV.out.1).mono ?_
 rintro e w8 ⟨cv, rfl, how, hb8, _⟩
 have hbW8 : Below W.heap.size W w8 := hbW.trans hb8
 have e0 := keep_cell hbW8 c0
 have e1 := keep_cell hbW8 c1
 have HO : Hid (w8.ownsRow W.heap.size 48 2 cv (cellIf low (nowN (wordN cs low) M1 V1)).length (rowOf .u64 (cellIf low (nowN (wordN cs low) M1 V1)))) := by have h := how; simp only [List.nil_append] at h; exact h
 obtain ⟨ca, cn, cp, rfl⟩ := own_shape how
 clear how hb8 hbW
 by_cases hhl : high = low
 ·subst hhl
  go_wp2_with fail
  refine (K50.out w8 hbW8).mono ?_
  rintro e wa ⟨rfl, hba⟩
  have hbWa : Below W.heap.size W wa := below_tr hbW8 hba
  have e0 := keep_cell hba e0
  have e1 := keep_cell hba e1
  go_wp2_with fail
  refine (K51.out _ (cellIf high (nowN (wordN cs high) M1 V1)) wa hbWa (own_sl (own_keep HO.out hba)) (Nat.le_trans (cellIf_len _ _) (by omega))).mono ?_
  rintro e w9 ⟨b1, k1', q1, b2, k2, q2, rfl, ho, ho2, hb9⟩
  have F0 := g0.keep hbWa
  have F1 := g1.keep hbWa
  have F2 := g2.keep hbWa
  have F3 := g3.keep hbWa
  have hbwa := below_tr hb hbWa
  have ho2 : w9.ownsRow (w.heap.size + 3) 48 2 (.slice b2 k2 q2) ZS.length (rowOf .u64 ZS) := by
   have h := HZ.out
   simp only [↓reduceIte, List.append_nil] at h
   rw [h]
   exact ho2
  have G0 : Free w9 ⟨w.heap.size + 1, 0, none⟩ := freeA
  have G1 : Free w9 ⟨w.heap.size + 1, 1, none⟩ := freeA
  have G2 : Free w9 ⟨w.heap.size + 1 + 1, 0, none⟩ := freeA
  have G3 : Free w9 ⟨w.heap.size + 1 + 1, 1, none⟩ := freeA
  have i0 := G0.cell
  have i1 := G1.cell
  have i2 := G2.cell
  have i3 := G3.cell
  have j0 := G0.frozen
  have j1 := G1.frozen
  have j2 := G2.frozen
  have j3 := G3.frozen
  have SM : Hid (World.ownsRow ((((w9.setCell ⟨w.heap.size + 1, 0, none⟩ (.slice b1 k1' q1)).setCell ⟨w.heap.size + 1, 1, none⟩ (.slice b2 k2 q2)).setCell ⟨w.heap.size + 1 + 1, 0, none⟩ (.int .i64 0)).setCell ⟨w.heap.size + 1 + 1, 1, none⟩ (.int .u64 0)) w.heap.size 86 2 (.slice b1 k1' q1) ms.length (rowOf .i64 ms)) := res4_own ho (by omega) (by omega) (by omega)
  have SC : Hid (World.ownsRow ((((w9.setCell ⟨w.heap.size + 1, 0, none⟩ (.slice b1 k1' q1)).setCell ⟨w.heap.size + 1, 1, none⟩ (.slice b2 k2 q2)).setCell ⟨w.heap.size + 1 + 1, 0, none⟩ (.int .i64 0)).setCell ⟨w.heap.size + 1 + 1, 1, none⟩ (.int .u64 0)) w.heap.size 48 2 (.slice b2 k2 q2) ZS.length (rowOf .u64 ZS)) := res4_own ho2 (by omega) (by omega) (by omega)
  clear ho ho2
  go_wp2
  (try simp only [Exit.inBlock, Exit.then])
  obtain ⟨r0, r1, r2, r3⟩ := res4 w9 (w.heap.size + 1) (w.heap.size + 1 + 1) (.slice b1 k1' q1) (.slice b2 k2 q2) (.int .i64 0) (.int .u64 0) (by omega) G0 G1 G2 G3
  refine bodyPost_ret (v := .tuple #[.agg #[.slice b1 k1' q1, .slice b2 k2 q2], .agg #[.int .i64 0, .int .u64 0]]) ?_ rfl ⟨_, _, rfl, ⟨SM.out, SC.out⟩, belA⟩
  rw [results_cells rfl]; simp [go_sem, r0, r1, r2, r3]
 ·have hne : ((high : Int) != (low : Int)) = true := by simp; omega
  have y2 := HY2.out hhl
  have HHL : Hid (¬ high = low) := hhl
  clear hhl
  go_wp2_with fail
  refine (K46.out high w8 hbW8).mono ?_
  rintro e wa ⟨rfl, hba⟩
  have hbWa : Below W.heap.size W wa := below_tr hbW8 hba
  have e0 := keep_cell hba e0
  have e1 := keep_cell hba e1
  go_wp2_with fail
  refine (K47'.out wa).mono ?_
  rintro e wb ⟨rfl, hbb⟩
  subst hbb
  clear e0 e1
  go_wp2_with fail
  refine (changed49 _ (cellIf low (nowN (wordN cs low) M1 V1)) high (wordN cs high) M2 V2 W.heap.size wb (own_keep HO.out hba) hbWa.size (Nat.le_trans (cellIf_len _ _) (by omega)) (hWL.out _) HM.out.2 HV.out.2).mono ?_
  rintro e wc ⟨cv', rfl, how, hbc, _⟩
  have hbWc : Below W.heap.size W wc := hbWa.trans hbc
  have e0 := keep_cell hbWc c0
  have e1 := keep_cell hbWc c1
  have HO2 : Hid (wc.ownsRow W.heap.size 48 2 cv' (cellIf low (nowN (wordN cs low) M1 V1) ++ cellIf high (nowN (wordN cs high) M2 V2)).length (rowOf .u64 (cellIf low (nowN (wordN cs low) M1 V1) ++ cellIf high (nowN (wordN cs high) M2 V2)))) := how
  obtain ⟨ca', cn', cp', rfl⟩ := own_shape how
  clear how hbc
  go_wp2_with fail
  refine (K50.out wc hbWc).mono ?_
  rintro e wd ⟨rfl, hbd⟩
  have hbWd : Below W.heap.size W wd := below_tr hbWc hbd
  have e0 := keep_cell hbd e0
  have e1 := keep_cell hbd e1
  go_wp2_with fail
  refine (K51.out _ _ wd hbWd (own_sl (own_keep HO2.out hbd)) (by rw [List.length_append]; exact Nat.add_le_add (cellIf_len _ _) (cellIf_len _ _))).mono ?_
  rintro e w9 ⟨b1, k1', q1, b2, k2, q2, rfl, ho, ho2, hb9⟩
  have F0 := g0.keep hbWd
  have F1 := g1.keep hbWd
  have F2 := g2.keep hbWd
  have F3 := g3.keep hbWd
  have hbwd := below_tr hb hbWd
  have ho2 : w9.ownsRow (w.heap.size + 3) 48 2 (.slice b2 k2 q2) ZS.length (rowOf .u64 ZS) := by
   have h := HZ.out
   rw [if_neg HHL.out] at h
   rw [h]
   exact ho2
  have G0 : Free w9 ⟨w.heap.size + 1, 0, none⟩ := freeA
  have G1 : Free w9 ⟨w.heap.size + 1, 1, none⟩ := freeA
  have G2 : Free w9 ⟨w.heap.size + 1 + 1, 0, none⟩ := freeA
  have G3 : Free w9 ⟨w.heap.size + 1 + 1, 1, none⟩ := freeA
  have i0 := G0.cell
  have i1 := G1.cell
  have i2 := G2.cell
  have i3 := G3.cell
  have j0 := G0.frozen
  have j1 := G1.frozen
  have j2 := G2.frozen
  have j3 := G3.frozen
  have SM : Hid (World.ownsRow ((((w9.setCell ⟨w.heap.size + 1, 0, none⟩ (.slice b1 k1' q1)).setCell ⟨w.heap.size + 1, 1, none⟩ (.slice b2 k2 q2)).setCell ⟨w.heap.size + 1 + 1, 0, none⟩ (.int .i64 0)).setCell ⟨w.heap.size + 1 + 1, 1, none⟩ (.int .u64 0)) w.heap.size 86 2 (.slice b1 k1' q1) ms.length (rowOf .i64 ms)) := res4_own ho (by omega) (by omega) (by omega)
  have SC : Hid (World.ownsRow ((((w9.setCell ⟨w.heap.size + 1, 0, none⟩ (.slice b1 k1' q1)).setCell ⟨w.heap.size + 1, 1, none⟩ (.slice b2 k2 q2)).setCell ⟨w.heap.size + 1 + 1, 0, none⟩ (.int .i64 0)).setCell ⟨w.heap.size + 1 + 1, 1, none⟩ (.int .u64 0)) w.heap.size 48 2 (.slice b2 k2 q2) ZS.length (rowOf .u64 ZS)) := res4_own ho2 (by omega) (by omega) (by omega)
  clear ho ho2
  go_wp2
  (try simp only [Exit.inBlock, Exit.then])
  obtain ⟨r0, r1, r2, r3⟩ := res4 w9 (w.heap.size + 1) (w.heap.size + 1 + 1) (.slice b1 k1' q1) (.slice b2 k2 q2) (.int .i64 0) (.int .u64 0) (by omega) G0 G1 G2 G3
  refine bodyPost_ret (v := .tuple #[.agg #[.slice b1 k1' q1, .slice b2 k2 q2], .agg #[.int .i64 0, .int .u64 0]]) ?_ rfl ⟨_, _, rfl, ⟨SM.out, SC.out⟩, belA⟩
  rw [results_cells rfl]; simp [go_sem, r0, r1, r2, r3]
theorem load20_any (vm vc : Value) (ms cs : List (Nat × Int)) (a k : Nat) (w : World) (hm : Sl .i64 w vm ms) (hc : Sl .u64 w vc cs) (sm : Srt ms) (sc : Srt cs) (lm : ms.length <= 1073741824) (lc : cs.length <= 1073741824) (hw : Words cs)
  (ha : a < 18446744073709551616) (k1 : 1 <= k) (k8 : k <= 8) :
  Calls Tryz.prog 150 #[.agg #[vm, vc], .int .u64 a, .int .i64 k] w fun e w' => e = .returned (.tuple #[.int .u64 ((loadV ms cs a k : Nat) : Int), .agg #[.int .i64 (faultFrom ms a 1 0 k).1, .int .u64 ((faultFrom ms a 1 0 k).2 : Int)]]) /\ Below w.heap.size w w' := by
 by_cases hf : (faultFrom ms a 1 0 k).1 = 0
 ·have h := load20_ok vm vc ms cs a k w hm hc sm sc lm lc hw ha k1 k8 hf
  rw [loadV, if_pos hf, (faultFrom_kind ms a 1 k 0 hf).1]
  exact h
 ·have h := load20_fault vm vc ms cs a k w hm hc sm lm ha k1 k8 hf
  rw [loadV, if_neg hf]
  exact h
end Go.Proofs.YtimfipkbddpdmaaGreatDoor.Gm
