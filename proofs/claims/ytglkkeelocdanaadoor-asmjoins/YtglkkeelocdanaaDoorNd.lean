/- What is proved here: the parts of a pattern are handed out, one behind the other: the program's iterator. -/
import Derived.Test.YtglkkeelocdanaaDoorNk
import Derived.Test.YtglkkeelocdanaaDoorPs
import Derived.RangeFuncBox
import Derived.OwnWalkIn
import Derived.LoopTactic
import Derived.TacticsInMore
import Derived.LoopNIn
import Derived.LoopIn
import Derived.WalkKit
namespace Go.Proofs.YtglkkeelocdanaaDoor
open Go.RowKit
set_option linter.unusedVariables false
set_option linter.unusedSimpArgs false
set_option maxRecDepth 100000
attribute [local go_sem] Oper.semAt_some
def encS (x : L8) : Array Value := #[.string ⟨x.toArray⟩]
/-- The next part. -/
def PtNx (p : L8) (pre : List L8) (x : L8) : Prop := ∃ suf, pre ++ x :: suf = partsL p
theorem parts22 (p : ByteArray) (w : World) : Calls Tryd.prog 16 #[.string p] w fun e w' => e = .returned (.func (.func 38) #[] #[.pointer (some ⟨w.heap.size, 0, none⟩)]) ∧ w' = w.alloc (.cells #[.string p] 9) := by
  go_enter Tryd.func16, Tryd.ntmps16
  go_wp2
  go_ret
  exact ⟨rfl, rfl⟩
theorem ext_list (p : ByteArray) (f k : Nat) : p.extract f k = ⟨((p.toList.take k).drop f).toArray⟩ := by
  rw [ByteArray.toList_eq]
  have h : (p.extract f k).data = p.data.extract f k := ByteArray.data_extract
  have e : (p.data.extract f k).toList = (p.data.toList.take k).drop f := by
    rw [Array.toList_extract, List.extract_eq_drop_take']
  have : p.extract f k = ⟨(p.extract f k).data⟩ := rfl
  rw [this, h, ← e]
theorem acc_snoc (l : L8) (f k : Nat) (hk : k < l.length) (hf : f ≤ k) : (l.take (k + 1)).drop f = (l.take k).drop f ++ [l[k]] := by
  rw [List.take_succ_eq_append_getElem hk, List.drop_append_of_le_length (by simp; omega)]
theorem acc_nil (l : L8) (f k : Nat) (hk : k ≤ l.length) : ((l.take k).drop f = []) = (k ≤ f) := by
  apply propext
  constructor
  · intro h
    have := congrArg List.length h
    simp at this
    omega
  · intro h
    apply List.eq_nil_of_length_eq_zero
    simp; omega
theorem drop_cons (l : L8) (k : Nat) (hk : k < l.length) : l.drop k = l[k] :: l.drop (k + 1) := List.drop_eq_getElem_cons hk
theorem bt_get (p : ByteArray) (k : Nat) (h : k < p.size) (h' : k < p.toList.length) : p[k] = p.toList[k] := by
  simp [ByteArray.toList_eq]
  rfl
theorem bt_len (p : ByteArray) : p.toList.length = p.size := by rw [ByteArray.toList_eq]; rfl
set_option maxHeartbeats 1000000 in
theorem parts53_in (m : Nat) (hm : 2 ≤ m) (l Bp : Nat) (p : ByteArray) (hp : p.size ≤ 1000) (J Jx : List L8 → World → Prop) (Jp : List PanicEntry → World → Prop)
    (hY : ∀ pre x W, J pre W → PtNx p.toList pre x → YieldAt Fence.wide (m - 1) Tryd.prog l (encS x) W fun e W' =>
      (e = .returned (.bool true) ∧ J (pre ++ [x]) W' ∧ W'.cell? ⟨Bp, 0, none⟩ = W.cell? ⟨Bp, 0, none⟩) ∨ (e = .returned (.bool false) ∧ Jx (pre ++ [x]) W') ∨ (∃ ch, e = .panicked ch ∧ Jp ch W'))
    (W : World) (hc : W.cell? ⟨Bp, 0, none⟩ = some (.string p)) (h0 : J [] W) :
    CallsIn Fence.wide m Tryd.prog 38 #[.func (.yield l) #[] #[], .pointer (some ⟨Bp, 0, none⟩)] W fun e W' => ((∃ v, e = .returned v) ∧ ((∃ xs, xs = partsL p.toList ∧ J xs W') ∨ (∃ pre, True ∧ Jx pre W'))) ∨ (∃ ch, e = .panicked ch ∧ Jp ch W') := by
  have hlen := bt_len p
  have HY : Hid _ := hY
  clear hY
  have K54 : Hid (∀ (c : Nat), c < 256 → ∀ w', CallsIn Fence.wide (m - 1) Tryd.prog 39 #[.int .u8 (c : Int)] w' fun e w'' => e = .returned (.bool (isLow c)) ∧ w'' = w') := fun c hc w' => callsIn_wide.2 (isLetter54 c hc w')
  refine callsIn_of_wp Tryd.func38 rfl trivial ?_ rfl
  simp only [Tryd.ntmps38, List.size_toArray, List.length_cons, List.length_nil, Nat.reduceAdd, Nat.reduceSub, Array.replicate_succ, Array.replicate_zero, List.push_toArray, List.append_toArray, List.nil_append, List.cons_append]
  gi_wp2
  gi_loopw [3, 7] (fun x y wr => ∃ (k f : Nat) (pre : List L8), x = .int .i64 (f : Int) ∧ y = .int .i64 (k : Int) ∧ f ≤ k ∧ k ≤ p.size ∧ J pre wr ∧ pre ++ ptR ((p.toList.take k).drop f) (p.toList.drop k) = partsL p.toList ∧ wr.cell? ⟨Bp, 0, none⟩ = some (.string p))
    (fun _ y _ => p.size - (intOf y).toNat)
  case atStart => exact ⟨0, 0, [], rfl, rfl, Nat.le_refl _, Nat.zero_le _, h0, rfl, hc⟩
  case round =>
    obtain ⟨k, f, pre, rfl, rfl, hfk, hk, hJ, hpt, hcell⟩ := hrel
    clear h0 hc
    by_cases hlt : k < p.size
    · have hll : k < p.toList.length := by omega
      obtain ⟨b, hb⟩ : ∃ b, b = p.toList[k] := ⟨_, rfl⟩
      have hix : p[k] = b := by rw [hb]; exact bt_get p k hlt hll
      rw [drop_cons _ _ hll, ← hb] at hpt
      have hsn := acc_snoc p.toList f k hll hfk
      rw [← hb] at hsn
      have hni := acc_nil p.toList f k (by omega)
      have K := K54.out b.toNat (UInt8.toNat_lt b) wr
      have HPT : Hid (pre ++ ptR ((p.toList.take k).drop f) (b :: p.toList.drop (k + 1)) = partsL p.toList) := hpt
      have HSN : Hid ((p.toList.take (k + 1)).drop f = (p.toList.take k).drop f ++ [b]) := hsn
      have HNI : Hid (((p.toList.take k).drop f = []) = (k ≤ f)) := hni
      clear hpt hsn hni hb
      have hik : (k : Int) < (p.size : Int) := by omega
      have hsl : ∀ W', (Instr.slice 9 (.string p) (some (.int .i64 (k : Int))) (some (.int .i64 ((k : Int) + 1))) none).run Tryd.prog W' = .ok (.string (p.extract k (k + 1))) W' := fun W' => by
        rw [run_slice_string W' 9 p .i64 .i64 (k : Int) ((k : Int) + 1) Tryd.underlying9 (by omega) (by omega) (by omega)]
        congr 3
      gi_wp2
      refine ⟨trivial, fun _ => by omega, K.mono ?_⟩
      rintro e w1 ⟨rfl, rfl⟩
      clear K
      cases hl : isLow b.toNat with
      | false =>
        have HN : Hid (pre ++ ptR ((p.toList.take (k + 1)).drop f) (p.toList.drop (k + 1)) = partsL p.toList) := by
          have := HPT.out
          rw [ptR, show isLw b = false from hl] at this
          rw [HSN.out]
          exact this
        clear HPT HSN HNI hix hl
        gi_wp2
        go_roundw
        case rel => exact ⟨k + 1, f, pre, rfl, by simp, by omega, by omega, hJ, HN.out, hcell⟩
        case measure => simp [intOf]; omega
      | true =>
        by_cases hfk2 : f < k
        · obtain ⟨acc, hacc⟩ : ∃ z, z = (p.toList.take k).drop f := ⟨_, rfl⟩
          have HE : Hid (pre ++ acc :: ([b] :: ptR [] (p.toList.drop (k + 1))) = partsL p.toList) := by
            have h := HPT.out
            have hne : ¬ acc = [] := by rw [hacc, HNI.out]; omega
            rw [ptR, show isLw b = true from hl, ← hacc, if_neg hne] at h
            show _ = _
            simpa using h
          obtain ⟨fn, tmps, assign, body, hy, hRd⟩ := HY.out pre acc w1 hJ ⟨_, HE.out⟩
          simp only [encS] at hy
          rw [hacc, ← ext_list] at hy
          have hx2 : p.extract k (k + 1) = ⟨#[b]⟩ := by
            rw [ext_list, acc_snoc _ _ _ hll (Nat.le_refl _), ← bt_get p k hlt hll, hix]
            simp
          have hfi : (f : Int) < (k : Int) := by omega
          clear hix HPT HSN HNI hacc hl
          gi_wp2
          refine ⟨fun _ => by omega, hRd.mono ?_⟩
          rintro e W3 (⟨rfl, hJ3, hk3⟩ | ⟨rfl, hJx3⟩ | ⟨ch, rfl, hJp⟩)
          · have hcell3 := hk3.trans hcell
            obtain ⟨fn2, tmps2, assign2, body2, hy2, hRd2⟩ := HY.out (pre ++ [acc]) [b] W3 hJ3 ⟨_, by rw [List.append_assoc]; exact HE.out⟩
            simp only [encS] at hy2
            clear hRd hy hcell hk3
            gi_wp2
            refine ⟨fun _ => by omega, hRd2.mono ?_⟩
            rintro e W4 (⟨rfl, hJ4, hk4⟩ | ⟨rfl, hJx4⟩ | ⟨ch, rfl, hJp⟩)
            · have hcell4 := hk4.trans hcell3
              clear hRd2 hy2 hk4
              gi_wp2
              go_roundw
              case rel => exact ⟨k + 1, k + 1, pre ++ [acc] ++ [[b]], by simp, by simp, by omega, by omega, hJ4, by have := HE.out; simp; exact this, hcell4⟩
              case measure => simp [intOf]; omega
            · clear hRd2 hy2
              gi_wp2
              refine bodyPost_ret (results_none rfl _ _ _) rfl ?_
              exact .inl ⟨⟨_, rfl⟩, .inr ⟨_, trivial, hJx4⟩⟩
            · exact ⟨rfl, .inr ⟨ch, rfl, hJp⟩⟩
          · clear hRd hy
            gi_wp2
            refine ⟨(fun _ h => nomatch h), ?_⟩
            gi_wp2
            refine bodyPost_ret (results_none rfl _ _ _) rfl ?_
            exact .inl ⟨⟨_, rfl⟩, .inr ⟨_, trivial, hJx3⟩⟩
          · exact ⟨rfl, .inr ⟨ch, rfl, hJp⟩⟩
        · have HE : Hid (pre ++ [b] :: ptR [] (p.toList.drop (k + 1)) = partsL p.toList) := by
            have h := HPT.out
            have he : (p.toList.take k).drop f = [] := by rw [HNI.out]; omega
            rw [ptR, show isLw b = true from hl, if_pos he] at h
            show _ = _
            simpa using h
          have hx2 : p.extract k (k + 1) = ⟨#[b]⟩ := by
            rw [ext_list, acc_snoc _ _ _ hll (Nat.le_refl _), ← bt_get p k hlt hll, hix]
            simp
          obtain ⟨fn2, tmps2, assign2, body2, hy2, hRd2⟩ := HY.out pre [b] w1 hJ ⟨_, HE.out⟩
          simp only [encS] at hy2
          have hfi : decide ((f : Int) < (k : Int)) = false := by simpa using hfk2
          have hfj : ¬ (f : Int) < (k : Int) := by omega
          clear hix HPT HSN HNI hl
          gi_wp2
          refine ⟨(fun _ h => nomatch h), ?_⟩
          gi_wp2
          refine ⟨fun _ => by omega, hRd2.mono ?_⟩
          rintro e W4 (⟨rfl, hJ4, hk4⟩ | ⟨rfl, hJx4⟩ | ⟨ch, rfl, hJp⟩)
          · have hcell4 := hk4.trans hcell
            clear hRd2 hy2 hk4
            gi_wp2
            go_roundw
            case rel => exact ⟨k + 1, k + 1, pre ++ [[b]], by simp, by simp, by omega, by omega, hJ4, by have := HE.out; simp; exact this, hcell4⟩
            case measure => simp [intOf]; omega
          · clear hRd2 hy2
            gi_wp2
            refine bodyPost_ret (results_none rfl _ _ _) rfl ?_
            exact .inl ⟨⟨_, rfl⟩, .inr ⟨_, trivial, hJx4⟩⟩
          · exact ⟨rfl, .inr ⟨ch, rfl, hJp⟩⟩
    · obtain rfl : k = p.size := by omega
      by_cases hf : f < p.size
      · obtain ⟨acc, hacc⟩ : ∃ z, z = (p.toList.take p.size).drop f := ⟨_, rfl⟩
        have HE : Hid (pre ++ [acc] = partsL p.toList) := by
          have hne : ¬ acc = [] := by rw [hacc, acc_nil _ _ _ (by omega)]; omega
          have hd : p.toList.drop p.size = [] := List.drop_eq_nil_of_le (by omega)
          rw [hd, ← hacc, ptR, if_neg hne] at hpt
          exact hpt
        obtain ⟨fn, tmps, assign, body, hy, hRd⟩ := HY.out pre acc wr hJ ⟨[], HE.out⟩
        simp only [encS] at hy
        rw [hacc, ← ext_list] at hy
        clear hpt hacc
        gi_wp2
        refine ⟨fun _ => by omega, hRd.mono ?_⟩
        rintro e W3 (⟨rfl, hJ3, hk3⟩ | ⟨rfl, hJx3⟩ | ⟨ch, rfl, hJp⟩)
        · clear hRd hy
          gi_wp2
          go_end0
          exact .inl ⟨⟨_, rfl⟩, .inl ⟨_, HE.out, hJ3⟩⟩
        · clear hRd hy
          gi_wp2
          go_end0
          exact .inl ⟨⟨_, rfl⟩, .inr ⟨_, trivial, hJx3⟩⟩
        · exact ⟨rfl, .inr ⟨ch, rfl, hJp⟩⟩
      · have HE : Hid (pre = partsL p.toList) := by
          have he : (p.toList.take p.size).drop f = [] := by rw [acc_nil _ _ _ (by omega)]; omega
          have hd : p.toList.drop p.size = [] := List.drop_eq_nil_of_le (by omega)
          rw [hd, he, ptR, if_pos rfl, List.append_nil] at hpt
          exact hpt
        clear hpt
        gi_wp2
        go_end0
        exact .inl ⟨⟨_, rfl⟩, .inl ⟨_, HE.out, hJ⟩⟩
theorem parts_next (m : Nat) (hm : 2 ≤ m) (p : ByteArray) (hp : p.size ≤ 1000) (Bp : Nat) (w0 : World) (hc : w0.cell? ⟨Bp, 0, none⟩ = some (.string p)) :
    SeqPx m Tryd.prog 38 #[.pointer (some ⟨Bp, 0, none⟩)] encS (fun A C => C.cell? ⟨Bp, 0, none⟩ = A.cell? ⟨Bp, 0, none⟩) (PtNx p.toList) (fun xs => xs = partsL p.toList) (fun _ => True) w0 := by
  intro l J Jx Jp W hb _ _ hY h0
  have hcW := keep_cell hb hc
  exact parts53_in m hm l Bp p hp J Jx Jp hY W hcW h0
end Go.Proofs.YtglkkeelocdanaaDoor
