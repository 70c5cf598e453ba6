/- What is proved here: a layout's parts. -/
import Derived.Test.YtgdflobcbhnimaaGreatPkf
import Derived.Test.YtgdflobcbhnimaaGreatPkh
import Derived.Test.YtgdflobcbhnimaaGreatPkj
import Derived.Test.YtgdflobcbhnimaaGreatPkl
import Derived.Test.YtgdflobcbhnimaaGreatPkm
import Derived.Test.YtgdflobcbhnimaaGreatPkn
import Derived.Test.YtgdflobcbhnimaaGreatNn
import Derived.Test.YtgdflobcbhnimaaGreatEWr
namespace Go.Proofs.YtgdflobcbhnimaaGreat
open Go.RowKit 
set_option linter.unusedVariables false
set_option linter.unusedSimpArgs false
set_option maxRecDepth 100000
open E (SlG)
theorem plcN_lt (l : List L8) (hl : ∀ s ∈ l, s.length ≤ 31) : ∀ (t : L8) (n : Nat), t.length + 32 * l.length ≤ n → ∀ p ∈ plcN t l, p ≤ n := by
  induction l with
  | nil => intro t n _ p hp; simp [plcN] at hp
  | cons a r ih =>
    intro t n h p hp
    rw [List.length_cons] at h
    simp only [plcN, List.mem_cons] at hp
    rcases hp with rfl | hp
    · omega
    · refine ih (fun s hs => hl s (List.mem_cons_of_mem _ hs)) (t ++ nm0 a) n ?_ p hp
      have := hl a List.mem_cons_self
      have h3 : (nm0 a).length = a.length + 1 := by unfold nm0; simp
      rw [List.length_append]
      omega
def Ly.tv (y : Ly) : Array Value := #[stC (y.part 0), stC (y.part 1), stC (y.part 2), stC (y.part 3), stC (y.part 4), stC (y.part 5), stC (y.part 6), stC (y.part 7), stC (y.part 8), stC (y.part 9)]
theorem keep_other {w w' : World} {b b' k : Nat} {v : Value} (hg : w.grownBy w' (some b)) (hb : b' ≠ b) (h : w.cell? ⟨b', k, none⟩ = some v) : w'.cell? ⟨b', k, none⟩ = some v := by
  rw [World.cell?_of_block (w := w) (hg.block b' (World.block_lt_of_cell? w _ h) (by simp; exact hb))]
  exact h
set_option maxHeartbeats 8000000 in
theorem texts27 (y : Ly) (q : Lv) (b : Nat) (w : World) (h : BY y q b w) (ok : y.Ok) (hv : LvIs y.lib q w) (hbd : y.lib.Bd) :
    Calls Tryz.prog 27 #[.pointer (some ⟨b, 0, none⟩)] w fun e w' => e = .returned (.agg y.tv) ∧ Below w.heap.size w w' := by
  have HY : Hid (BY y q b w ∧ y.Ok ∧ LvIs y.lib q w ∧ y.lib.Bd) := ⟨h, ok, hv, hbd⟩
  have d3 : w.cell? ⟨b, 3, none⟩ = some (.string ⟨y.lib.code.toArray⟩) := h.lib 3 rfl
  have d4 : w.cell? ⟨b, 4, none⟩ = some (.string ⟨y.lib.data.toArray⟩) := h.lib 4 rfl
  obtain ⟨W1, hW1⟩ : ∃ z, w.alloc (.cells #[.string ⟨#[]⟩, .string ⟨#[]⟩, .string ⟨#[]⟩, .string ⟨#[]⟩, .string ⟨#[]⟩, .string ⟨#[]⟩, .string ⟨#[]⟩, .string ⟨#[]⟩, .string ⟨#[]⟩, .string ⟨#[]⟩] 64) = z := ⟨_, rfl⟩
  have hbw : Below w.heap.size w W1 := by rw [← hW1]; exact (Below.refl _ _).alloc (Nat.le_refl _) _
  have HZ : Hid (SB w w.heap.size 64 10 W1 ∧ w.heap.size < W1.heap.size) := ⟨⟨hbw, _, by rw [← hW1]; exact new_heap w _ _, rfl⟩, by rw [← hW1]; simp⟩
  have K59 : Hid (∀ w', Below w.heap.size w w' → Calls Tryz.prog 59 #[.pointer (some ⟨b, 0, none⟩)] w' fun e w'' => (∃ v', e = .returned v' ∧ OwnY w'.heap.size w'' v' y.placed) ∧ Below w'.heap.size w' w'') := fun w' hw => placed59 y q b w' (HY.out.1.keep hw) HY.out.2.1 ((HY.out.2.2.1.keep hw).s) HY.out.2.2.2.y
  have K58 : Hid (∀ v w', SlY w' v y.placed → Calls Tryz.prog 58 #[v, .int .i64 3] w' fun e w'' => e = .returned (y.tab.val) ∧ Below w'.heap.size w' w'') := fun v w' hs => write18 y.placed v 3 w' hs (placed_bd y HY.out.2.2.2.y) (by have := HY.out.2.1.fit.y0; unfold Ly.placed; rw [List.length_map]; omega)
  have hstr := ok.strs
  have K60 : Hid (∀ w', Below w.heap.size w w' → Calls Tryz.prog 60 #[.pointer (some ⟨b, 0, none⟩), .string ⟨y.tab.strs.toArray⟩] w' fun e w'' => (∃ v, e = .returned (.tuple #[.string ⟨(strsN y.tab.strs y.lib.names).toArray⟩, v]) ∧ SlN w'' v (plcN y.tab.strs y.lib.names)) ∧ Below w'.heap.size w' w'') := fun w' hw => named60 y q b y.tab.strs w' (HY.out.1.keep hw) HY.out.2.1 ((HY.out.2.2.1.keep hw).n) (by rw [hstr.1]; omega)
  have hpl : (plcN y.tab.strs y.lib.names).length = y.lib.needed.length + 1 := by rw [plcN_len]; unfold Lb.names; simp
  have hpb : ∀ p ∈ plcN y.tab.strs y.lib.names, p < 4294967296 := fun p hp => by
    have hn := names_le y ok
    have := plcN_lt y.lib.names hn.2 y.tab.strs 3000 (by rw [hstr.1]; omega) p hp
    omega
  have K62 : Hid (∀ w', Below w.heap.size w w' → Calls Tryz.prog 62 #[.pointer (some ⟨b, 0, none⟩)] w' fun e w'' => (∃ v, e = .returned (y.head.val v) ∧ SlG w'' v y.segs) ∧ Below w'.heap.size w' w'') := fun w' hw => head62 y q b w' (HY.out.1.keep hw) HY.out.2.1
  have K61 : Hid (∀ v w', SlG w' v y.segs → Calls Tryz.prog 61 #[y.head.val v] w' fun e w'' => e = .returned (stC (y.part 0)) ∧ Below w'.heap.size w' w'') := fun v w' hs => E.write15 y.head v w' hs (segs_bd HY.out.2.1) (entry_lt HY.out.2.1) (by show y.segs.length ≤ 1000; rw [segs_len]; split <;> decide)
  have K63 : Hid (∀ w', Below w.heap.size w w' → Calls Tryz.prog 63 #[.pointer (some ⟨b, 0, none⟩)] w' fun e w'' => e = .returned (stC (y.part 1)) ∧ Below w'.heap.size w' w'') := fun w' hw => loader63 y q b w' (HY.out.1.keep hw) HY.out.2.1.fit.ip.1
  have K64 : Hid (∀ v w', Below w.heap.size w w' → SlN w' v (plcN y.tab.strs y.lib.names) → Calls Tryz.prog 64 #[.pointer (some ⟨b, 0, none⟩), v] w' fun e w'' => e = .returned (stC (y.part 2)) ∧ Below w'.heap.size w' w'') := fun v w' hw hs => linking64 y q b _ v w' (HY.out.1.keep hw) HY.out.2.1 (HY.out.2.2.1.keep hw).n (HY.out.2.2.1.keep hw).s (HY.out.2.2.1.keep hw).l hs hpl hpb
  have K65 : Hid (∀ w', Below w.heap.size w w' → Calls Tryz.prog 65 #[.pointer (some ⟨b, 0, none⟩)] w' fun e w'' => e = .returned (stC (y.part 6)) ∧ Below w'.heap.size w' w'') := fun w' hw => relocations65 y q b w' (HY.out.1.keep hw) HY.out.2.1 (HY.out.2.2.1.keep hw).r HY.out.2.2.2.r
  have K66 : Hid (∀ w', Below w.heap.size w w' → Calls Tryz.prog 66 #[.pointer (some ⟨b, 0, none⟩)] w' fun e w'' => e = .returned (stC (y.part 8)) ∧ Below w'.heap.size w' w'') := fun w' hw => places66 y q b w' (HY.out.1.keep hw) HY.out.2.1 (HY.out.2.2.1.keep hw).s (HY.out.2.2.1.keep hw).l HY.out.2.2.2.y HY.out.2.2.2.l
  have htv : y.tv = #[stC (y.part 0), stC (y.part 1), stC (y.part 2), stC (y.part 3), stC (y.part 4), stC (y.part 5), stC (y.part 6), stC (y.part 7), stC (y.part 8), stC (y.part 9)] := rfl
  rw [htv]
  have HT : Hid (stC (y.part 3) = .string ⟨y.tab.hash.toArray⟩ ∧ stC (y.part 4) = .string ⟨y.tab.syms.toArray⟩ ∧ stC (y.part 5) = .string ⟨(strsN y.tab.strs y.lib.names).toArray⟩ ∧ stC (y.part 7) = .string ⟨y.lib.code.toArray⟩ ∧ stC (y.part 9) = .string ⟨y.lib.data.toArray⟩) := ⟨rfl, rfl, rfl, rfl, rfl⟩
  rw [HT.out.1, HT.out.2.1, HT.out.2.2.1, HT.out.2.2.2.1, HT.out.2.2.2.2]
  unfold stC at K61 K63 K64 K65 K66 ⊢
  obtain ⟨P0, hP0⟩ : ∃ z : ByteArray, z = ⟨(y.part 0).toArray⟩ := ⟨_, rfl⟩
  obtain ⟨P1, hP1⟩ : ∃ z : ByteArray, z = ⟨(y.part 1).toArray⟩ := ⟨_, rfl⟩
  obtain ⟨P2, hP2⟩ : ∃ z : ByteArray, z = ⟨(y.part 2).toArray⟩ := ⟨_, rfl⟩
  obtain ⟨P6, hP6⟩ : ∃ z : ByteArray, z = ⟨(y.part 6).toArray⟩ := ⟨_, rfl⟩
  obtain ⟨P8, hP8⟩ : ∃ z : ByteArray, z = ⟨(y.part 8).toArray⟩ := ⟨_, rfl⟩
  rw [← hP0] at K61 ⊢
  rw [← hP1] at K63 ⊢
  rw [← hP2] at K64 ⊢
  rw [← hP6] at K65 ⊢
  rw [← hP8] at K66 ⊢
  obtain ⟨PN, hPN⟩ : ∃ z, z = plcN y.tab.strs y.lib.names := ⟨_, rfl⟩
  rw [← hPN] at K60 K64
  obtain ⟨TB, hTB⟩ : ∃ z, z = y.tab := ⟨_, rfl⟩
  rw [← hTB] at K58 K60 ⊢
  obtain ⟨P5, hP5⟩ : ∃ z : ByteArray, z = ⟨(strsN TB.strs y.lib.names).toArray⟩ := ⟨_, rfl⟩
  rw [← hP5] at K60 ⊢
  obtain ⟨P7, hP7⟩ : ∃ z : ByteArray, z = ⟨y.lib.code.toArray⟩ := ⟨_, rfl⟩
  obtain ⟨P9, hP9⟩ : ∃ z : ByteArray, z = ⟨y.lib.data.toArray⟩ := ⟨_, rfl⟩
  rw [← hP7] at d3 ⊢
  rw [← hP9] at d4 ⊢
  obtain ⟨SS, hSS⟩ : ∃ z : ByteArray, z = ⟨TB.syms.toArray⟩ := ⟨_, rfl⟩
  obtain ⟨QS, hQS⟩ : ∃ z : ByteArray, z = ⟨TB.strs.toArray⟩ := ⟨_, rfl⟩
  obtain ⟨HH, hHH⟩ : ∃ z : ByteArray, z = ⟨TB.hash.toArray⟩ := ⟨_, rfl⟩
  have HTB : Hid (SS = ⟨TB.syms.toArray⟩ ∧ QS = ⟨TB.strs.toArray⟩ ∧ HH = ⟨TB.hash.toArray⟩) := ⟨hSS, hQS, hHH⟩
  unfold Tb.val at K58
  rw [← hSS, ← hQS, ← hHH] at K58
  rw [← hQS] at K60
  rw [← hSS, ← hHH]
  clear h ok hv hbd hbw hstr hpl hpb htv hP0 hP1 hP2 hP6 hP8 hPN hTB hP5 hP7 hP9 hSS hQS hHH HT
  go_enter Tryz.func27, Tryz.ntmps27
  go_wp2_with fail
  refine (K59.out W1 HZ.out.1.1).mono ?_
  rintro e w2 ⟨⟨v2, rfl, hO2⟩, hb2⟩
  have H2 : Hid (SB w w.heap.size 64 10 w2 ∧ w.heap.size < w2.heap.size ∧ SlY w2 v2 y.placed) := ⟨HZ.out.1.step hb2, Nat.lt_of_lt_of_le HZ.out.2 hb2.size, hO2.sl⟩
  clear hO2 hb2 hW1
  go_wp2_with fail
  refine (K58.out v2 w2 H2.out.2.2).mono ?_
  rintro e w3 ⟨rfl, hb3⟩
  obtain ⟨V4, W4, hV4, hW4, ⟨q0, q1, q2⟩, ⟨f0, f1, f2⟩, e4, hb4, hz4⟩ := new3 w3 TB
  rw [← HTB.out.1, ← HTB.out.2.1, ← HTB.out.2.2] at hW4
  have e4c := e4.cells
  rw [← HTB.out.1, ← HTB.out.2.1, ← HTB.out.2.2] at e4c
  have H4 : Hid (SB w w.heap.size 64 10 W4 ∧ w.heap.size < w3.heap.size ∧ (W4.cell? ⟨w3.heap.size, 0, none⟩ = some (.string SS) ∧ W4.cell? ⟨w3.heap.size, 1, none⟩ = some (.string QS) ∧ W4.cell? ⟨w3.heap.size, 2, none⟩ = some (.string HH))) := ⟨(H2.out.1.step hb3).step hb4, Nat.lt_of_lt_of_le H2.out.2.1 hb3.size, e4c⟩
  obtain ⟨r0, r1, r2⟩ := H4.out.2.2
  clear H2 hb3 hb4 hz4 e4 e4c K58 K59
  go_wp2_with fail
  refine (K60.out W4 H4.out.1.1).mono ?_
  rintro e w5 ⟨⟨v5, rfl, hS5⟩, hb5⟩
  have H5 : Hid (SB w w.heap.size 64 10 w5 ∧ w5.cell? ⟨w3.heap.size, 0, none⟩ = some (.string SS) ∧ w5.cell? ⟨w3.heap.size, 2, none⟩ = some (.string HH) ∧ SlN w5 v5 PN) := ⟨H4.out.1.step hb5, keep_cell hb5 r0, keep_cell hb5 r2, hS5⟩
  have HNE : Hid (w3.heap.size ≠ w.heap.size) := by have := H4.out.2.1; show _ ≠ _; omega
  generalize w3.heap.size = g3 at *
  clear q0 q1 q2 f0 f1 f2 r0 r1 r2 hV4 hW4 hS5 hb5 K60 H4
  go_upto_region 3 with fail
  obtain ⟨RR, hRR⟩ : ∃ RR : World → Prop, RR = fun w' => w'.cell? ⟨g3, 0, none⟩ = some (.string SS) ∧ w'.cell? ⟨g3, 2, none⟩ = some (.string HH):= ⟨_, rfl⟩
  have HR0 : Hid (∀ w', RR w' → w'.cell? ⟨g3, 0, none⟩ = some (.string SS) ∧ w'.cell? ⟨g3, 2, none⟩ = some (.string HH)) := fun w' h => by rw [hRR] at h; exact h
  have HR1 : Hid (∀ w' w'', RR w' → Below w'.heap.size w' w'' → RR w'') := fun w' w'' h hb => by rw [hRR] at h ⊢; exact ⟨keep_cell hb h.1, keep_cell hb h.2⟩
  have HR2 : Hid (∀ w' X, RR w' → RR (w'.setRow w.heap.size X)) := fun w' X h => by rw [hRR] at h ⊢; exact ⟨keep_other (grown_setRow w' _ X) HNE.out h.1, keep_other (grown_setRow w' _ X) HNE.out h.2⟩
  have hP : SlN w5.drew v5 PN := H5.out.2.2.2.keep ((Below.refl _ _).trans ⟨rfl, rfl, rfl, Nat.le_refl _, fun _ _ => rfl⟩)
  have HS0 : SB w w.heap.size 64 10 w5.drew ∧ RR w5.drew := ⟨H5.out.1.step ((Below.refl _ _).trans ⟨rfl, rfl, rfl, Nat.le_refl _, fun _ _ => rfl⟩), by rw [hRR]; exact ⟨H5.out.2.1, H5.out.2.2.1⟩⟩
  clear hRR H5
  refine wp_region_held_drew (S := fun w' => SB w w.heap.size 64 10 w' ∧ RR w') (by kernel_rfl) (by exact HS0) (fun hS => ?_)
  refine wpAnyH_take (i := 0) (v := .pointer (some ⟨b, 0, none⟩)) rfl (by kernel_rfl) (by kernel_rfl) (by kernel_rfl) (fun _ _ _ h => h) (Or.inl ⟨by kernel_rfl, fun wq hSw => ?_⟩) hS ?_
  · go_simp
  simp only [Act.put, List.getElem_toArray, List.getElem_cons_zero, List.getElem_cons_succ, List.setIfInBounds_toArray, List.set_cons_zero, List.set_cons_succ]
  refine wpAnyH_take (i := 3) (v := .pointer (some ⟨b, 0, none⟩)) rfl (by kernel_rfl) (by kernel_rfl) (by kernel_rfl) (fun _ _ _ h => h) (Or.inl ⟨by kernel_rfl, fun wq hSw => ?_⟩) hS ?_
  · go_simp
  simp only [Act.put, List.getElem_toArray, List.getElem_cons_zero, List.getElem_cons_succ, List.setIfInBounds_toArray, List.set_cons_zero, List.set_cons_succ]
  refine wpAnyH_take (i := 5) (v := .pointer (some ⟨b, 0, none⟩)) rfl (by kernel_rfl) (by kernel_rfl) (by kernel_rfl) (fun _ _ _ h => h) (Or.inl ⟨by kernel_rfl, fun wq hSw => ?_⟩) hS ?_
  · go_simp
  simp only [Act.put, List.getElem_toArray, List.getElem_cons_zero, List.getElem_cons_succ, List.setIfInBounds_toArray, List.set_cons_zero, List.set_cons_succ]
  refine wpAnyH_take (i := 6) (v := v5) rfl (by kernel_rfl) (by kernel_rfl) (by kernel_rfl) (fun _ _ _ h => h) (Or.inl ⟨by kernel_rfl, fun wq hSw => ?_⟩) hS ?_
  · go_simp
  simp only [Act.put, List.getElem_toArray, List.getElem_cons_zero, List.getElem_cons_succ, List.setIfInBounds_toArray, List.set_cons_zero, List.set_cons_succ]
  refine wpAnyH_take (i := 8) (v := .pointer (some ⟨g3, 2, none⟩)) rfl (by kernel_rfl) (by kernel_rfl) (by kernel_rfl) (fun _ _ _ h => h) (Or.inl ⟨by kernel_rfl, fun wq hSw => ?_⟩) hS ?_
  · go_simp
  simp only [Act.put, List.getElem_toArray, List.getElem_cons_zero, List.getElem_cons_succ, List.setIfInBounds_toArray, List.set_cons_zero, List.set_cons_succ]
  refine wpAnyH_take (i := 9) (v := .string HH) rfl (by kernel_rfl) (by kernel_rfl) (by kernel_rfl) (fun _ _ _ h => h) (Or.inl ⟨by kernel_rfl, fun wq hSw => ?_⟩) hS ?_
  · have p_ := (HR0.out _ hSw.2).1; have p2_ := (HR0.out _ hSw.2).2; go_simp
  simp only [Act.put, List.getElem_toArray, List.getElem_cons_zero, List.getElem_cons_succ, List.setIfInBounds_toArray, List.set_cons_zero, List.set_cons_succ]
  refine wpAnyH_take (i := 10) (v := .pointer (some ⟨g3, 0, none⟩)) rfl (by kernel_rfl) (by kernel_rfl) (by kernel_rfl) (fun _ _ _ h => h) (Or.inl ⟨by kernel_rfl, fun wq hSw => ?_⟩) hS ?_
  · go_simp
  simp only [Act.put, List.getElem_toArray, List.getElem_cons_zero, List.getElem_cons_succ, List.setIfInBounds_toArray, List.set_cons_zero, List.set_cons_succ]
  refine wpAnyH_take (i := 11) (v := .string SS) rfl (by kernel_rfl) (by kernel_rfl) (by kernel_rfl) (fun _ _ _ h => h) (Or.inl ⟨by kernel_rfl, fun wq hSw => ?_⟩) hS ?_
  · have p_ := (HR0.out _ hSw.2).1; have p2_ := (HR0.out _ hSw.2).2; go_simp
  simp only [Act.put, List.getElem_toArray, List.getElem_cons_zero, List.getElem_cons_succ, List.setIfInBounds_toArray, List.set_cons_zero, List.set_cons_succ]
  refine wpAnyH_take (i := 12) (v := .string P5) rfl (by kernel_rfl) (by kernel_rfl) (by kernel_rfl) (fun _ _ _ h => h) (Or.inl ⟨by kernel_rfl, fun wq hSw => ?_⟩) hS ?_
  · go_simp
  simp only [Act.put, List.getElem_toArray, List.getElem_cons_zero, List.getElem_cons_succ, List.setIfInBounds_toArray, List.set_cons_zero, List.set_cons_succ]
  refine wpAnyH_take (i := 13) (v := .pointer (some ⟨b, 0, none⟩)) rfl (by kernel_rfl) (by kernel_rfl) (by kernel_rfl) (fun _ _ _ h => h) (Or.inl ⟨by kernel_rfl, fun wq hSw => ?_⟩) hS ?_
  · go_simp
  simp only [Act.put, List.getElem_toArray, List.getElem_cons_zero, List.getElem_cons_succ, List.setIfInBounds_toArray, List.set_cons_zero, List.set_cons_succ]
  refine wpAnyH_take (i := 15) (v := .pointer (some ⟨b, 0, none⟩)) rfl (by kernel_rfl) (by kernel_rfl) (by kernel_rfl) (fun _ _ _ h => h) (Or.inl ⟨by kernel_rfl, fun wq hSw => ?_⟩) hS ?_
  · go_simp
  simp only [Act.put, List.getElem_toArray, List.getElem_cons_zero, List.getElem_cons_succ, List.setIfInBounds_toArray, List.set_cons_zero, List.set_cons_succ]
  refine wpAnyH_take (i := 16) (v := .pointer (some ⟨b, 0, none⟩)) rfl (by kernel_rfl) (by kernel_rfl) (by kernel_rfl) (fun _ _ _ h => h) (Or.inl ⟨by kernel_rfl, fun wq hSw => ?_⟩) hS ?_
  · go_simp
  simp only [Act.put, List.getElem_toArray, List.getElem_cons_zero, List.getElem_cons_succ, List.setIfInBounds_toArray, List.set_cons_zero, List.set_cons_succ]
  refine wpAnyH_take (i := 17) (v := .pointer (some ⟨b, 0, none⟩)) rfl (by kernel_rfl) (by kernel_rfl) (by kernel_rfl) (fun _ _ _ h => h) (Or.inl ⟨by kernel_rfl, fun wq hSw => ?_⟩) hS ?_
  · go_simp
  simp only [Act.put, List.getElem_toArray, List.getElem_cons_zero, List.getElem_cons_succ, List.setIfInBounds_toArray, List.set_cons_zero, List.set_cons_succ]
  refine wpAnyH_take (i := 18) (v := .pointer (some ⟨b, 3, none⟩)) rfl (by kernel_rfl) (by kernel_rfl) (by kernel_rfl) (fun _ _ _ h => h) (Or.inl ⟨by kernel_rfl, fun wq hSw => ?_⟩) hS ?_
  · go_simp
  simp only [Act.put, List.getElem_toArray, List.getElem_cons_zero, List.getElem_cons_succ, List.setIfInBounds_toArray, List.set_cons_zero, List.set_cons_succ]
  refine wpAnyH_take (i := 19) (v := .string P7) rfl (by kernel_rfl) (by kernel_rfl) (by kernel_rfl) (fun _ _ _ h => h) (Or.inl ⟨by kernel_rfl, fun wq hSw => ?_⟩) hS ?_
  · have p_ := keep_cell hSw.1.1 d3; go_simp
  simp only [Act.put, List.getElem_toArray, List.getElem_cons_zero, List.getElem_cons_succ, List.setIfInBounds_toArray, List.set_cons_zero, List.set_cons_succ]
  refine wpAnyH_take (i := 20) (v := .pointer (some ⟨b, 0, none⟩)) rfl (by kernel_rfl) (by kernel_rfl) (by kernel_rfl) (fun _ _ _ h => h) (Or.inl ⟨by kernel_rfl, fun wq hSw => ?_⟩) hS ?_
  · go_simp
  simp only [Act.put, List.getElem_toArray, List.getElem_cons_zero, List.getElem_cons_succ, List.setIfInBounds_toArray, List.set_cons_zero, List.set_cons_succ]
  refine wpAnyH_take (i := 22) (v := .pointer (some ⟨b, 0, none⟩)) rfl (by kernel_rfl) (by kernel_rfl) (by kernel_rfl) (fun _ _ _ h => h) (Or.inl ⟨by kernel_rfl, fun wq hSw => ?_⟩) hS ?_
  · go_simp
  simp only [Act.put, List.getElem_toArray, List.getElem_cons_zero, List.getElem_cons_succ, List.setIfInBounds_toArray, List.set_cons_zero, List.set_cons_succ]
  refine wpAnyH_take (i := 23) (v := .pointer (some ⟨b, 0, none⟩)) rfl (by kernel_rfl) (by kernel_rfl) (by kernel_rfl) (fun _ _ _ h => h) (Or.inl ⟨by kernel_rfl, fun wq hSw => ?_⟩) hS ?_
  · go_simp
  simp only [Act.put, List.getElem_toArray, List.getElem_cons_zero, List.getElem_cons_succ, List.setIfInBounds_toArray, List.set_cons_zero, List.set_cons_succ]
  refine wpAnyH_take (i := 24) (v := .pointer (some ⟨b, 0, none⟩)) rfl (by kernel_rfl) (by kernel_rfl) (by kernel_rfl) (fun _ _ _ h => h) (Or.inl ⟨by kernel_rfl, fun wq hSw => ?_⟩) hS ?_
  · go_simp
  simp only [Act.put, List.getElem_toArray, List.getElem_cons_zero, List.getElem_cons_succ, List.setIfInBounds_toArray, List.set_cons_zero, List.set_cons_succ]
  refine wpAnyH_take (i := 25) (v := .pointer (some ⟨b, 4, none⟩)) rfl (by kernel_rfl) (by kernel_rfl) (by kernel_rfl) (fun _ _ _ h => h) (Or.inl ⟨by kernel_rfl, fun wq hSw => ?_⟩) hS ?_
  · go_simp
  simp only [Act.put, List.getElem_toArray, List.getElem_cons_zero, List.getElem_cons_succ, List.setIfInBounds_toArray, List.set_cons_zero, List.set_cons_succ]
  refine wpAnyH_take (i := 26) (v := .string P9) rfl (by kernel_rfl) (by kernel_rfl) (by kernel_rfl) (fun _ _ _ h => h) (Or.inl ⟨by kernel_rfl, fun wq hSw => ?_⟩) hS ?_
  · have p_ := keep_cell hSw.1.1 d4; go_simp
  simp only [Act.put, List.getElem_toArray, List.getElem_cons_zero, List.getElem_cons_succ, List.setIfInBounds_toArray, List.set_cons_zero, List.set_cons_succ]
  refine wpAnyH_ready (rs := [1]) (by kernel_rfl) (by simp) (AllReadyH.cons rfl (fun K hK => ?_) AllReadyH.nil)
  refine if_yes (by kernel_rfl) ?_
  simp [go_sem]
  refine (K62.out _ hS.1.1).mono ?_
  rintro e w6 ⟨⟨v17, rfl, hsg⟩, hb6⟩
  have hS := And.intro (hS.1.step hb6) (HR1.out _ _ hS.2 hb6)
  have hP := hP.keep hb6
  refine hK.out _ _ hS (fun _ => ?_)
  clear hK K hb6
  try simp only [Act.put, List.getElem_toArray, List.getElem_cons_zero, List.getElem_cons_succ, List.setIfInBounds_toArray, List.set_cons_zero, List.set_cons_succ]
  refine wpAnyH_ready (rs := [2]) (by kernel_rfl) (by simp) (AllReadyH.cons rfl (fun K hK => ?_) AllReadyH.nil)
  refine if_yes (by kernel_rfl) ?_
  simp [go_sem]
  refine (K61.out _ _ hsg).mono ?_
  rintro e w6 ⟨rfl, hb6⟩
  have hS := And.intro (hS.1.step hb6) (HR1.out _ _ hS.2 hb6)
  have hP := hP.keep hb6
  refine hK.out _ _ hS (fun _ => ?_)
  clear hK K hb6
  try simp only [Act.put, List.getElem_toArray, List.getElem_cons_zero, List.getElem_cons_succ, List.setIfInBounds_toArray, List.set_cons_zero, List.set_cons_succ]
  refine wpAnyH_ready (rs := [4]) (by kernel_rfl) (by simp) (AllReadyH.cons rfl (fun K hK => ?_) AllReadyH.nil)
  refine if_yes (by kernel_rfl) ?_
  simp [go_sem]
  refine (K63.out _ hS.1.1).mono ?_
  rintro e w6 ⟨rfl, hb6⟩
  have hS := And.intro (hS.1.step hb6) (HR1.out _ _ hS.2 hb6)
  have hP := hP.keep hb6
  refine hK.out _ _ hS (fun _ => ?_)
  clear hK K hb6
  try simp only [Act.put, List.getElem_toArray, List.getElem_cons_zero, List.getElem_cons_succ, List.setIfInBounds_toArray, List.set_cons_zero, List.set_cons_succ]
  refine wpAnyH_ready (rs := [7]) (by kernel_rfl) (by simp) (AllReadyH.cons rfl (fun K hK => ?_) AllReadyH.nil)
  refine if_yes (by kernel_rfl) ?_
  simp [go_sem]
  refine (K64.out _ _ hS.1.1 hP).mono ?_
  rintro e w6 ⟨rfl, hb6⟩
  have hS := And.intro (hS.1.step hb6) (HR1.out _ _ hS.2 hb6)
  have hP := hP.keep hb6
  refine hK.out _ _ hS (fun _ => ?_)
  clear hK K hb6
  try simp only [Act.put, List.getElem_toArray, List.getElem_cons_zero, List.getElem_cons_succ, List.setIfInBounds_toArray, List.set_cons_zero, List.set_cons_succ]
  refine wpAnyH_ready (rs := [14]) (by kernel_rfl) (by simp) (AllReadyH.cons rfl (fun K hK => ?_) AllReadyH.nil)
  refine if_yes (by kernel_rfl) ?_
  simp [go_sem]
  refine (K65.out _ hS.1.1).mono ?_
  rintro e w6 ⟨rfl, hb6⟩
  have hS := And.intro (hS.1.step hb6) (HR1.out _ _ hS.2 hb6)
  have hP := hP.keep hb6
  refine hK.out _ _ hS (fun _ => ?_)
  clear hK K hb6
  try simp only [Act.put, List.getElem_toArray, List.getElem_cons_zero, List.getElem_cons_succ, List.setIfInBounds_toArray, List.set_cons_zero, List.set_cons_succ]
  refine wpAnyH_ready (rs := [21]) (by kernel_rfl) (by simp) (AllReadyH.cons rfl (fun K hK => ?_) AllReadyH.nil)
  refine if_yes (by kernel_rfl) ?_
  simp [go_sem]
  refine (K66.out _ hS.1.1).mono ?_
  rintro e w6 ⟨rfl, hb6⟩
  have hS := And.intro (hS.1.step hb6) (HR1.out _ _ hS.2 hb6)
  have hP := hP.keep hb6
  refine hK.out _ _ hS (fun _ => ?_)
  clear hK K hb6
  try simp only [Act.put, List.getElem_toArray, List.getElem_cons_zero, List.getElem_cons_succ, List.setIfInBounds_toArray, List.set_cons_zero, List.set_cons_succ]
  refine wpAnyH_take (i := 27) (v := .agg #[.string P0, .string P1, .string P2, .string HH, .string SS, .string P5, .string P6, .string P7, .string P8, .string P9]) rfl (by kernel_rfl) (by kernel_rfl) (by kernel_rfl) (fun _ _ _ h => h) (Or.inl ⟨by kernel_rfl, fun wq hSw => ?_⟩) hS ?_
  · go_simp
  simp only [Act.put, List.getElem_toArray, List.getElem_cons_zero, List.getElem_cons_succ, List.setIfInBounds_toArray, List.set_cons_zero, List.set_cons_succ]
  refine wpAnyH_putR (R := RR) (i := 28) (by kernel_rfl) rfl (by kernel_rfl) (by kernel_rfl) 64 (.tmp 2) (.tmp 43) (by kernel_rfl) w.heap.size #[.string P0, .string P1, .string P2, .string HH, .string SS, .string P5, .string P6, .string P7, .string P8, .string P9] (by kernel_rfl) (by kernel_rfl) hS (Nat.le_refl _) (by kernel_rfl) (by simp [Value.oneCell']) (HR2.out _ _ hS.2) (fun W9 hS i9 => ?_)
  refine wpAnyH_done (by kernel_rfl) ?_ _
  have H9 : Hid (Below w.heap.size w W9) := hS.1.1
  clear hS hP d3 d4 K61 K62 K63 K64 K65 K66 HZ
  go_wp2
  refine bodyPost_ret (v := .agg #[.string P0, .string P1, .string P2, .string HH, .string SS, .string P5, .string P6, .string P7, .string P8, .string P9]) ?_ rfl ?_
  · exact results_cell_row rfl _ _ w.heap.size 64 _ (0, 0) _ rfl i9 (by rfl) (by rfl) (by rfl)
  · exact ⟨rfl, H9.out⟩
end Go.Proofs.YtgdflobcbhnimaaGreat
