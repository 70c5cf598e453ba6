/- What is proved here: a fit header's bytes are read as it; a header that is cut short is none, and with more behind it it is the same; which headers are the same. -/
import Derived.Test.YthhallhmolgpbaaPa
namespace Go.Proofs.Ythhallhmolgpbaa
open Go.RowKit
set_option linter.unusedVariables false
set_option linter.unusedSimpArgs false
set_option maxRecDepth 100000
theorem part_of (l A B C : L8) (a b : Nat) (h : l = A ++ (B ++ C)) (ha : A.length = a) (hb : B.length = b) : (l.drop a).take b = B := by
  subst h ha hb
  rw [List.drop_append_of_le_length (Nat.le_refl _), List.drop_length, List.nil_append, List.take_append_of_le_length (Nat.le_refl _), List.take_length]
theorem head_parts (e : Ef) (z : L8) : ((headB e ++ z).take 16 = magicL) ∧ ((headB e ++ z).drop 16).take 2 = bN 2 (if e.shared then 3 else 2) ∧ ((headB e ++ z).drop 18).take 6 = entL ∧ ((headB e ++ z).drop 24).take 4 = bN 4 e.entry ∧ ((headB e ++ z).drop 28).take 16 = cntL ∧ ((headB e ++ z).drop 44).take 2 = bN 2 e.segs.length ∧ ((headB e ++ z).drop 46).take 6 = endL := by
  unfold headB
  refine ⟨?_, ?_, ?_, ?_, ?_, ?_, ?_⟩
  · exact part_of _ [] magicL _ 0 16 (by simp only [List.nil_append, List.append_assoc]; rfl) rfl rfl
  · exact part_of _ magicL _ _ 16 2 (by simp only [List.append_assoc]; rfl) rfl (bN_len _ _)
  · exact part_of _ (magicL ++ bN 2 (if e.shared then 3 else 2)) _ _ 18 6 (by simp only [List.append_assoc]; rfl) (by simp only [List.length_append, bN_len]; rfl) rfl
  · exact part_of _ (magicL ++ (bN 2 (if e.shared then 3 else 2) ++ entL)) _ _ 24 4 (by simp only [List.append_assoc]; rfl) (by simp only [List.length_append, bN_len]; rfl) (bN_len _ _)
  · exact part_of _ (magicL ++ (bN 2 (if e.shared then 3 else 2) ++ (entL ++ bN 4 e.entry))) _ _ 28 16 (by simp only [List.append_assoc]; rfl) (by simp only [List.length_append, bN_len]; rfl) rfl
  · exact part_of _ (magicL ++ (bN 2 (if e.shared then 3 else 2) ++ (entL ++ (bN 4 e.entry ++ cntL)))) _ _ 44 2 (by simp only [List.append_assoc]; rfl) (by simp only [List.length_append, bN_len]; rfl) (bN_len _ _)
  · exact part_of _ (magicL ++ (bN 2 (if e.shared then 3 else 2) ++ (entL ++ (bN 4 e.entry ++ (cntL ++ bN 2 e.segs.length))))) endL z 46 6 (by simp only [List.append_assoc]) (by simp only [List.length_append, bN_len]; rfl) rfl
theorem seg_parts (g : Sg) (hb : g.Bd) (hp : 0 ≤ g.prot ∧ g.prot ≤ 7) (hk : 1 ≤ g.kind ∧ g.kind ≤ 3) (z : L8) : segN (segB g ++ z) = g ∧ segOk (segB g ++ z) = true := by
  have h1 := hb.o; have h2 := hb.a; have h3 := hb.s; have h4 := hb.r; have h5 := hb.l
  have p7 := protN_le (g.prot % 4294967296).toNat
  have hk' : (g.kind % 4294967296).toNat < 4294967296 := by omega
  have w0 : wd (segB g ++ z) 0 = (g.kind % 4294967296).toNat := by
    unfold wd segB
    rw [part_of _ [] (bN 4 (g.kind % 4294967296).toNat) _ 0 4 (by simp only [List.nil_append, List.append_assoc]; rfl) rfl (bN_len _ _), be4 _ hk']
  have w4 : wd (segB g ++ z) 4 = g.off := by
    unfold wd segB
    rw [part_of _ (bN 4 (g.kind % 4294967296).toNat) (bN 4 g.off) _ 4 4 (by simp only [List.append_assoc]; rfl) (bN_len _ _) (bN_len _ _), be4 _ h1]
  have w8 : wd (segB g ++ z) 8 = g.at_ := by
    unfold wd segB
    rw [part_of _ (bN 4 (g.kind % 4294967296).toNat ++ bN 4 g.off) (bN 4 g.at_) _ 8 4 (by simp only [List.append_assoc]; rfl) (by simp only [List.length_append, bN_len]) (bN_len _ _), be4 _ h2]
  have w12 : wd (segB g ++ z) 12 = g.at_ := by
    unfold wd segB
    rw [part_of _ (bN 4 (g.kind % 4294967296).toNat ++ (bN 4 g.off ++ bN 4 g.at_)) (bN 4 g.at_) _ 12 4 (by simp only [List.append_assoc]; rfl) (by simp only [List.length_append, bN_len]) (bN_len _ _), be4 _ h2]
  have w16 : wd (segB g ++ z) 16 = g.size := by
    unfold wd segB
    rw [part_of _ (bN 4 (g.kind % 4294967296).toNat ++ (bN 4 g.off ++ (bN 4 g.at_ ++ bN 4 g.at_))) (bN 4 g.size) _ 16 4 (by simp only [List.append_assoc]; rfl) (by simp only [List.length_append, bN_len]) (bN_len _ _), be4 _ h3]
  have w20 : wd (segB g ++ z) 20 = g.room := by
    unfold wd segB
    rw [part_of _ (bN 4 (g.kind % 4294967296).toNat ++ (bN 4 g.off ++ (bN 4 g.at_ ++ (bN 4 g.at_ ++ bN 4 g.size)))) (bN 4 g.room) _ 20 4 (by simp only [List.append_assoc]; rfl) (by simp only [List.length_append, bN_len]) (bN_len _ _), be4 _ h4]
  have w24 : wd (segB g ++ z) 24 = protN (g.prot % 4294967296).toNat := by
    unfold wd segB
    rw [part_of _ (bN 4 (g.kind % 4294967296).toNat ++ (bN 4 g.off ++ (bN 4 g.at_ ++ (bN 4 g.at_ ++ (bN 4 g.size ++ bN 4 g.room))))) (bN 4 (protN (g.prot % 4294967296).toNat)) _ 24 4 (by simp only [List.append_assoc]; rfl) (by simp only [List.length_append, bN_len]) (bN_len _ _), be4 _ (by omega)]
  have w28 : wd (segB g ++ z) 28 = g.align := by
    unfold wd segB
    rw [part_of _ (bN 4 (g.kind % 4294967296).toNat ++ (bN 4 g.off ++ (bN 4 g.at_ ++ (bN 4 g.at_ ++ (bN 4 g.size ++ (bN 4 g.room ++ bN 4 (protN (g.prot % 4294967296).toNat))))))) (bN 4 g.align) z 28 4 (by simp only [List.append_assoc]) (by simp only [List.length_append, bN_len]) (bN_len _ _), be4 _ h5]
  have ep : ((protN (protN (g.prot % 4294967296).toNat) : Nat) : Int) = g.prot := by rw [protN_back _ (by omega)]; omega
  have ek : (((g.kind % 4294967296).toNat : Nat) : Int) = g.kind := by omega
  constructor
  · unfold segN
    rw [w0, w4, w8, w16, w20, w24, w28, ep, ek]
  · unfold segOk
    rw [w8, w12, w24, Bool.and_eq_true]
    exact ⟨beq_self_eq_true _, decide_eq_true p7⟩
theorem fit_kind {g : Sg} (h : FitS g) : (0 ≤ g.prot ∧ g.prot ≤ 7) ∧ (1 ≤ g.kind ∧ g.kind ≤ 3) := by
  obtain ⟨h1, h2, _, _, _, h6⟩ := h
  exact ⟨⟨h1, h2⟩, by omega⟩
theorem flat_drop (gs : List Sg) (z : L8) : ∀ i (h : i < gs.length), ∃ r, (gs.flatMap segB ++ z).drop (32 * i) = segB gs[i] ++ r := by
  induction gs with
  | nil => intro i h; simp at h
  | cons g t ih =>
    intro i h
    match i, h with
    | 0, _ => exact ⟨t.flatMap segB ++ z, by simp [List.flatMap_cons, List.append_assoc]⟩
    | i + 1, h =>
      obtain ⟨r, hr⟩ := ih i (by simpa using h)
      refine ⟨r, ?_⟩
      rw [List.flatMap_cons, List.append_assoc, show 32 * (i + 1) = (segB g).length + 32 * i from by rw [segB_len]; omega, ← List.drop_drop, List.drop_append_of_le_length (Nat.le_refl _), List.drop_length, List.nil_append, hr]
      rfl
/-- What is written is read again. -/
theorem write_parse {a : Ef} (hf1 : fitE a = true) (hb : ∀ g ∈ a.segs, g.Bd) (he : a.entry < 4294967296) (z : L8) (hz : a.segs.any (farS (wrL a ++ z).length) = false) : parE (wrL a ++ z) = 0 ∧ efAt (wrL a ++ z) = a := by
  obtain ⟨hn, hall⟩ := fitE_parts hf1
  have hw : wrL a ++ z = headB a ++ (a.segs.flatMap segB ++ z) := by unfold wrL; rw [if_pos hf1, List.append_assoc]
  generalize wrL a ++ z = l at hw hz
  obtain ⟨m1, m2, m3, m4, m5, m6, m7⟩ := head_parts a (a.segs.flatMap segB ++ z)
  rw [← hw] at m1 m2 m3 m4 m5 m6 m7
  have k16 : hf l 16 = if a.shared then 3 else 2 := by unfold hf; rw [m2, be2 _ (by split <;> decide)]
  have k24 : wd l 24 = a.entry := by unfold wd; rw [m4, be4 _ he]
  have k44 : hf l 44 = a.segs.length := by unfold hf; rw [m6, be2 _ (by omega)]
  have hlen : l.length = 52 + 32 * a.segs.length + z.length := by rw [hw, List.length_append, List.length_append, headB_len, flat_len]; omega
  have hd52 : l.drop 52 = a.segs.flatMap segB ++ z := by rw [hw, show 52 = (headB a).length from (headB_len a).symm, List.drop_append_of_le_length (Nat.le_refl _), List.drop_length, List.nil_append]
  have hseg : ∀ i (h : i < a.segs.length), segN (l.drop (52 + 32 * i)) = a.segs[i] ∧ segOk (l.drop (52 + 32 * i)) = true := by
    intro i h
    obtain ⟨r, hr⟩ := flat_drop a.segs z i h
    rw [← List.drop_drop, hd52, hr]
    have hF := fit_kind (hall _ (List.getElem_mem h))
    exact seg_parts _ (hb _ (List.getElem_mem h)) hF.1 hF.2 r
  have hsegs : segsAt l (hf l 44) = a.segs := by
    rw [k44]
    unfold segsAt
    apply List.ext_getElem
    · simp
    · intro i h1 h2
      rw [List.getElem_map, List.getElem_range]
      exact (hseg i h2).1
  have hef : efAt l = a := by
    unfold efAt
    rw [hsegs, k16, k24]
    cases a with
    | mk s e g => cases s <;> rfl
  refine ⟨par_of (hd_of (by omega) (by rw [m1]; rfl) (form_of (by rw [k16]; cases a.shared <;> simp) m3 m5 (by omega) m7) (by omega) ?_ (by rw [hef]; exact hf1)) (by rw [hef]; exact hz), hef⟩
  unfold segsOk
  rw [k44, List.all_eq_true]
  intro i hi
  exact (hseg i (List.mem_range.1 hi)).2
theorem hf_app (l m : L8) (k : Nat) (h : k + 2 ≤ l.length) : hf (l ++ m) k = hf l k := by
  unfold hf
  rw [List.drop_append_of_le_length (by omega), List.take_append_of_le_length (by simp; omega)]
theorem wd_app (l m : L8) (k : Nat) (h : k + 4 ≤ l.length) : wd (l ++ m) k = wd l k := by
  unfold wd
  rw [List.drop_append_of_le_length (by omega), List.take_append_of_le_length (by simp; omega)]
theorem pt_app (l m : L8) (a b : Nat) (h : a + b ≤ l.length) : ((l ++ m).drop a).take b = (l.drop a).take b := by
  rw [List.drop_append_of_le_length (by omega), List.take_append_of_le_length (by simp; omega)]
theorem form_app (l m : L8) (h : 52 ≤ l.length) : formOk (l ++ m) = formOk l := by
  unfold formOk
  rw [hf_app _ _ _ (by omega), hf_app _ _ _ (by omega), pt_app _ _ _ _ (by omega), pt_app _ _ _ _ (by omega), pt_app _ _ _ _ (by omega)]
theorem seg_app (l m : L8) (h : 32 ≤ l.length) : segN (l ++ m) = segN l ∧ segOk (l ++ m) = segOk l := by
  unfold segN segOk
  rw [wd_app _ _ _ (by omega), wd_app _ _ _ (by omega), wd_app _ _ _ (by omega), wd_app _ _ _ (by omega), wd_app _ _ _ (by omega), wd_app _ _ _ (by omega), wd_app _ _ _ (by omega), wd_app _ _ _ (by omega)]
  exact ⟨rfl, rfl⟩
theorem segs_app (l m : L8) (n : Nat) (h : 52 + 32 * n ≤ l.length) : segsAt (l ++ m) n = segsAt l n ∧ segsOk (l ++ m) n = segsOk l n := by
  have key : ∀ i, i < n → segN ((l ++ m).drop (52 + 32 * i)) = segN (l.drop (52 + 32 * i)) ∧ segOk ((l ++ m).drop (52 + 32 * i)) = segOk (l.drop (52 + 32 * i)) := fun i hi => by
    rw [List.drop_append_of_le_length (by omega)]
    exact seg_app _ _ (by simp; omega)
  constructor
  · unfold segsAt
    exact List.map_congr_left fun i hi => (key i (List.mem_range.1 hi)).1
  · unfold segsOk
    rw [Bool.eq_iff_iff, List.all_eq_true, List.all_eq_true]
    exact ⟨fun H i hi => by rw [← (key i (List.mem_range.1 hi)).2]; exact H i hi, fun H i hi => by rw [(key i (List.mem_range.1 hi)).2]; exact H i hi⟩
/-- With more behind it it is the same. -/
theorem more_same {l : L8} (h : parE l = 0) (m : L8) : parE (l ++ m) = 0 ∧ efAt (l ++ m) = efAt l := by
  obtain ⟨h1, h2⟩ := par_zero h
  obtain ⟨g1, g2, g3, g4, g5, g6⟩ := hd_zero h1
  have e44 := hf_app l m 44 (by omega)
  have es := segs_app l m (hf l 44) g4
  have hef : efAt (l ++ m) = efAt l := by
    unfold efAt
    rw [e44, es.1, hf_app _ _ _ (by omega), wd_app _ _ _ (by omega)]
  have h16 : ((l ++ m).take 16 == magicL) = true := by
    rw [List.take_append_of_le_length (by omega)]
    exact g2
  refine ⟨par_of (hd_of (by simp; omega) h16 (by rw [form_app _ _ g1]; exact g3) (by rw [e44, List.length_append]; omega) (by rw [e44, es.2]; exact g5) (by rw [hef]; exact g6)) ?_, hef⟩
  rw [hef]
  rw [List.any_eq_false] at h2 ⊢
  intro g hg
  have := h2 g hg
  unfold farS at this ⊢
  rw [List.length_append]
  simp only [decide_eq_true_eq] at this ⊢
  omega
/-- Cut short it is none. -/
theorem cut_short {l : L8} (h : parE l = 0) (k : Nat) (hk : k < 52 + 32 * (efAt l).segs.length) : parE (l.take k) = 101 := by
  obtain ⟨h1, h2⟩ := par_zero h
  obtain ⟨g1, g2, g3, g4, g5, g6⟩ := hd_zero h1
  have e2 : (efAt l).segs.length = hf l 44 := by show (segsAt l (hf l 44)).length = _; unfold segsAt; simp
  rw [e2] at hk
  have hd : hdE (l.take k) = 101 := by
    unfold hdE
    by_cases c : k < 52
    · rw [if_pos (by simp; omega)]
    · have hl : (l.take k).length = k := by simp; omega
      have e44 := hf_app (l.take k) (l.drop k) 44 (by omega)
      rw [List.take_append_drop] at e44
      have ef := form_app (l.take k) (l.drop k) (by omega)
      rw [List.take_append_drop] at ef
      rw [if_neg (by omega), if_neg, if_neg (by rw [← ef, g3]; decide), if_pos (by rw [← e44, hl]; exact hk)]
      rw [List.take_take, Nat.min_eq_left (by omega), g2]
      decide
  unfold parE
  rw [if_neg (by rw [hd]; decide), hd]
def sgEq (a b : Sg) : Bool := a.kind == b.kind && (a.off == b.off && (a.at_ == b.at_ && (a.size == b.size && (a.room == b.room && (a.prot == b.prot && (a.align == b.align))))))
theorem sgEq_iff (a b : Sg) : sgEq a b = true ↔ a = b := by
  cases a; cases b
  simp only [sgEq, Bool.and_eq_true, beq_iff_eq, Sg.mk.injEq]
def sgsEq : List Sg → List Sg → Bool
  | [], [] => true
  | a :: s, b :: t => sgEq a b && sgsEq s t
  | _, _ => false
theorem sgsEq_iff : ∀ a b : List Sg, sgsEq a b = true ↔ a = b
  | [], [] => by simp [sgsEq]
  | a :: s, b :: t => by rw [sgsEq, Bool.and_eq_true, sgEq_iff, sgsEq_iff s t, List.cons.injEq]
  | [], b :: t => by simp [sgsEq]
  | a :: s, [] => by simp [sgsEq]
def sameE (a b : Ef) : Bool := a.shared == b.shared && (a.entry == b.entry && sgsEq a.segs b.segs)
theorem sameE_iff (a b : Ef) : sameE a b = true ↔ a = b := by
  cases a; cases b
  simp only [sameE, Bool.and_eq_true, beq_iff_eq, sgsEq_iff, Ef.mk.injEq]
end Go.Proofs.Ythhallhmolgpbaa
