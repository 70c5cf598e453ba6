/- What is proved here: the header of a file in plain words: what is read, what can be, what is written; there and back. -/
import Derived.Test.YtgdflobcbhnimaaGreatWBack
namespace Go.Proofs.YtgdflobcbhnimaaGreat.E
open Go.RowKit
set_option linter.unusedVariables false
set_option linter.unusedSimpArgs false
set_option maxRecDepth 100000
abbrev L8 := List UInt8
/-- n bytes of a number, the highest first. -/
def bN (n v : Nat) : L8 := (W.leB v n).reverse
theorem bN_len (n v : Nat) : (bN n v).length = n := by unfold bN; rw [List.length_reverse, W.leB_length]
theorem be_bN (n v : Nat) : W.beL (bN n v) = v % 2 ^ (8 * n) := W.beL_leB v n
theorem bN_be (l : L8) : bN l.length (W.beL l) = l := by unfold bN; rw [W.leB_beL', List.reverse_reverse]
theorem be4 (v : Nat) (h : v < 4294967296) : W.beL (bN 4 v) = v := by rw [be_bN]; exact Nat.mod_eq_of_lt h
theorem be2 (v : Nat) (h : v < 65536) : W.beL (bN 2 v) = v := by rw [be_bN]; exact Nat.mod_eq_of_lt h
theorem bN_is {l : L8} {n : Nat} (h : l.length = n) : bN n (W.beL l) = l := by subst h; exact bN_be l
/-- A segment. -/
structure Sg where
  kind : Int
  off : Nat
  at_ : Nat
  size : Nat
  room : Nat
  prot : Int
  align : Nat
structure Sg.Bd (g : Sg) : Prop where
  k0 : -9223372036854775808 ≤ g.kind
  k1 : g.kind ≤ 9223372036854775807
  o : g.off < 4294967296
  a : g.at_ < 4294967296
  s : g.size < 4294967296
  r : g.room < 4294967296
  p0 : -9223372036854775808 ≤ g.prot
  p1 : g.prot ≤ 9223372036854775807
  l : g.align < 4294967296
/-- A header. -/
structure Ef where
  shared : Bool
  entry : Nat
  segs : List Sg
def wd (l : L8) (k : Nat) : Nat := W.beL ((l.drop k).take 4)
def hf (l : L8) (k : Nat) : Nat := W.beL ((l.drop k).take 2)
/-- What may be done, of flags. -/
def protN (f : Nat) : Nat := (if f % 2 = 1 then 4 else 0) + ((if f / 2 % 2 = 1 then 2 else 0) + (if f / 4 % 2 = 1 then 1 else 0))
theorem protN_le (f : Nat) : protN f ≤ 7 := by unfold protN; split <;> split <;> split <;> omega
theorem protN_back : ∀ f, f ≤ 7 → protN (protN f) = f := by decide
def segN (l : L8) : Sg := ⟨(wd l 0 : Int), wd l 4, wd l 8, wd l 16, wd l 20, (protN (wd l 24) : Int), wd l 28⟩
def segOk (l : L8) : Bool := wd l 8 == wd l 12 && decide (wd l 24 ≤ 7)
/-- A segment that can be. -/
def FitS (g : Sg) : Prop := 0 ≤ g.prot ∧ g.prot ≤ 7 ∧ g.size ≤ g.room ∧ g.off + g.size < 4294967296 ∧ g.at_ + g.room < 4294967296 ∧ ((g.kind = 1 ∧ g.align = 4096 ∧ g.off % 4096 = g.at_ % 4096) ∨ ((g.kind = 2 ∨ g.kind = 3) ∧ g.align ≤ 4096))
instance (g : Sg) : Decidable (FitS g) := by unfold FitS; exact inferInstance
def fitS (g : Sg) : Bool := decide (FitS g)
def fitE (e : Ef) : Bool := decide (e.segs.length ≤ 16) && e.segs.all fitS
def magicL : L8 := [127, 69, 76, 70, 1, 2, 1, 0, 0, 0, 0, 0, 0, 0, 0, 0]
def entL : L8 := [0, 8, 0, 0, 0, 1]
def cntL : L8 := [0, 0, 0, 52, 0, 0, 0, 0, 112, 0, 16, 0, 0, 52, 0, 32]
def endL : L8 := [0, 0, 0, 0, 0, 0]
def formOk (l : L8) : Bool := (hf l 16 == 2 || hf l 16 == 3) && (((l.drop 18).take 6 == entL) && (((l.drop 28).take 16 == cntL) && (decide (hf l 44 ≤ 16) && ((l.drop 46).take 6 == endL))))
def segsAt (l : L8) (n : Nat) : List Sg := (List.range n).map fun i => segN (l.drop (52 + 32 * i))
def segsOk (l : L8) (n : Nat) : Bool := (List.range n).all fun i => segOk (l.drop (52 + 32 * i))
def efAt (l : L8) : Ef := ⟨hf l 16 == 3, wd l 24, segsAt l (hf l 44)⟩
/-- The first error of a header; 0: none. -/
def hdE (l : L8) : Nat := if l.length < 52 then 101 else if (l.take 16 == magicL) = false then 102 else if formOk l = false then 103 else if l.length < 52 + 32 * hf l 44 then 101 else if segsOk l (hf l 44) = false then 103 else if fitE (efAt l) = false then 103 else 0
def farS (n : Nat) (g : Sg) : Bool := decide (n < g.off + g.size)
def parE (l : L8) : Nat := if hdE l = 0 then (if (efAt l).segs.any (farS l.length) = true then 104 else 0) else hdE l
def zeroE : Ef := ⟨false, 0, []⟩
def parF (l : L8) : Ef := if parE l = 0 then efAt l else zeroE
/-- A segment's bytes. -/
def segB (g : Sg) : L8 := bN 4 (g.kind % 4294967296).toNat ++ (bN 4 g.off ++ (bN 4 g.at_ ++ (bN 4 g.at_ ++ (bN 4 g.size ++ (bN 4 g.room ++ (bN 4 (protN (g.prot % 4294967296).toNat) ++ bN 4 g.align))))))
def headB (e : Ef) : L8 := magicL ++ (bN 2 (if e.shared then 3 else 2) ++ (entL ++ (bN 4 e.entry ++ (cntL ++ (bN 2 e.segs.length ++ endL)))))
def wrL (e : Ef) : L8 := if fitE e = true then headB e ++ e.segs.flatMap segB else []
theorem segB_len (g : Sg) : (segB g).length = 32 := by unfold segB; simp only [List.length_append, bN_len]
theorem headB_len (e : Ef) : (headB e).length = 52 := by unfold headB; simp only [List.length_append, bN_len]; rfl
theorem flat_len (gs : List Sg) : (gs.flatMap segB).length = 32 * gs.length := by
  induction gs with
  | nil => rfl
  | cons g t ih => rw [List.flatMap_cons, List.length_append, segB_len, ih, List.length_cons]; omega
theorem fitE_parts {e : Ef} (h : fitE e = true) : e.segs.length ≤ 16 ∧ ∀ g ∈ e.segs, FitS g := by
  unfold fitE at h
  rw [Bool.and_eq_true, decide_eq_true_eq, List.all_eq_true] at h
  exact ⟨h.1, fun g hg => of_decide_eq_true (h.2 g hg)⟩
theorem hd_of {l : L8} (h1 : 52 ≤ l.length) (h2 : (l.take 16 == magicL) = true) (h3 : formOk l = true) (h4 : 52 + 32 * hf l 44 ≤ l.length) (h5 : segsOk l (hf l 44) = true) (h6 : fitE (efAt l) = true) : hdE l = 0 := by
  unfold hdE
  rw [if_neg (by omega), if_neg (by rw [h2]; decide), if_neg (by rw [h3]; decide), if_neg (by omega), if_neg (by rw [h5]; decide), if_neg (by rw [h6]; decide)]
theorem par_of {l : L8} (h : hdE l = 0) (h2 : (efAt l).segs.any (farS l.length) = false) : parE l = 0 := by
  unfold parE
  rw [if_pos h, if_neg (by rw [h2]; decide)]
theorem form_parts {l : L8} (h : formOk l = true) : (hf l 16 = 2 ∨ hf l 16 = 3) ∧ (l.drop 18).take 6 = entL ∧ (l.drop 28).take 16 = cntL ∧ hf l 44 ≤ 16 ∧ (l.drop 46).take 6 = endL := by
  unfold formOk at h
  simp only [Bool.and_eq_true, Bool.or_eq_true, beq_iff_eq, decide_eq_true_eq] at h
  exact h
theorem form_of {l : L8} (h1 : hf l 16 = 2 ∨ hf l 16 = 3) (h2 : (l.drop 18).take 6 = entL) (h3 : (l.drop 28).take 16 = cntL) (h4 : hf l 44 ≤ 16) (h5 : (l.drop 46).take 6 = endL) : formOk l = true := by
  unfold formOk
  simp only [Bool.and_eq_true, Bool.or_eq_true, beq_iff_eq, decide_eq_true_eq]
  exact ⟨h1, h2, h3, h4, h5⟩
theorem tkt (l : L8) (a b c d : Nat) (h : c = a + b) : (l.drop a).take b ++ (l.drop c).take d = (l.drop a).take (b + d) := by subst h; rw [← List.drop_drop, ← List.take_add]
theorem part_len (l : L8) (a b : Nat) (h : a + b ≤ l.length) : ((l.drop a).take b).length = b := by simp; omega
theorem bN_hf (l : L8) (k : Nat) (h : k + 2 ≤ l.length) : bN 2 (hf l k) = (l.drop k).take 2 := bN_is (part_len l k 2 h)
theorem bN_wd (l : L8) (k : Nat) (h : k + 4 ≤ l.length) : bN 4 (wd l k) = (l.drop k).take 4 := bN_is (part_len l k 4 h)
theorem be_lt (l : L8) (n : Nat) (h : l.length ≤ n) : W.beL l < 256 ^ n := by
  have h1 := W.foldl_lt l 0
  have h2 : 256 ^ l.length ≤ 256 ^ n := Nat.pow_le_pow_right (by decide) h
  unfold W.beL
  omega
theorem wd_lt (l : L8) (k : Nat) : wd l k < 4294967296 := be_lt _ 4 (by simp; omega)
theorem hf_lt (l : L8) (k : Nat) : hf l k < 65536 := be_lt _ 2 (by simp; omega)
theorem segN_bd (l : L8) : (segN l).Bd := by
  have h0 := wd_lt l 0
  have h6 := protN_le (wd l 24)
  refine ⟨?_, ?_, wd_lt _ _, wd_lt _ _, wd_lt _ _, wd_lt _ _, ?_, ?_, wd_lt _ _⟩ <;> simp only [segN] <;> omega
end Go.Proofs.YtgdflobcbhnimaaGreat.E
namespace Go.Proofs.YtgdflobcbhnimaaGreat.E
open Go.RowKit
set_option linter.unusedVariables false
set_option linter.unusedSimpArgs false
set_option maxRecDepth 100000
theorem part_of (l A B C : L8) (a b : Nat) (h : l = A ++ (B ++ C)) (ha : A.length = a) (hb : B.length = b) : (l.drop a).take b = B := by
  subst h ha hb
  rw [List.drop_append_of_le_length (Nat.le_refl _), List.drop_length, List.nil_append, List.take_append_of_le_length (Nat.le_refl _), List.take_length]
theorem head_parts (e : Ef) (z : L8) : ((headB e ++ z).take 16 = magicL) ∧ ((headB e ++ z).drop 16).take 2 = bN 2 (if e.shared then 3 else 2) ∧ ((headB e ++ z).drop 18).take 6 = entL ∧ ((headB e ++ z).drop 24).take 4 = bN 4 e.entry ∧ ((headB e ++ z).drop 28).take 16 = cntL ∧ ((headB e ++ z).drop 44).take 2 = bN 2 e.segs.length ∧ ((headB e ++ z).drop 46).take 6 = endL := by
  unfold headB
  refine ⟨?_, ?_, ?_, ?_, ?_, ?_, ?_⟩
  · exact part_of _ [] magicL _ 0 16 (by simp only [List.nil_append, List.append_assoc]; rfl) rfl rfl
  · exact part_of _ magicL _ _ 16 2 (by simp only [List.append_assoc]; rfl) rfl (bN_len _ _)
  · exact part_of _ (magicL ++ bN 2 (if e.shared then 3 else 2)) _ _ 18 6 (by simp only [List.append_assoc]; rfl) (by simp only [List.length_append, bN_len]; rfl) rfl
  · exact part_of _ (magicL ++ (bN 2 (if e.shared then 3 else 2) ++ entL)) _ _ 24 4 (by simp only [List.append_assoc]; rfl) (by simp only [List.length_append, bN_len]; rfl) (bN_len _ _)
  · exact part_of _ (magicL ++ (bN 2 (if e.shared then 3 else 2) ++ (entL ++ bN 4 e.entry))) _ _ 28 16 (by simp only [List.append_assoc]; rfl) (by simp only [List.length_append, bN_len]; rfl) rfl
  · exact part_of _ (magicL ++ (bN 2 (if e.shared then 3 else 2) ++ (entL ++ (bN 4 e.entry ++ cntL)))) _ _ 44 2 (by simp only [List.append_assoc]; rfl) (by simp only [List.length_append, bN_len]; rfl) (bN_len _ _)
  · exact part_of _ (magicL ++ (bN 2 (if e.shared then 3 else 2) ++ (entL ++ (bN 4 e.entry ++ (cntL ++ bN 2 e.segs.length))))) endL z 46 6 (by simp only [List.append_assoc]) (by simp only [List.length_append, bN_len]; rfl) rfl
theorem seg_parts (g : Sg) (hb : g.Bd) (hp : 0 ≤ g.prot ∧ g.prot ≤ 7) (hk : 1 ≤ g.kind ∧ g.kind ≤ 3) (z : L8) : segN (segB g ++ z) = g ∧ segOk (segB g ++ z) = true := by
  have h1 := hb.o; have h2 := hb.a; have h3 := hb.s; have h4 := hb.r; have h5 := hb.l
  have p7 := protN_le (g.prot % 4294967296).toNat
  have hk' : (g.kind % 4294967296).toNat < 4294967296 := by omega
  have w0 : wd (segB g ++ z) 0 = (g.kind % 4294967296).toNat := by
    unfold wd segB
    rw [part_of _ [] (bN 4 (g.kind % 4294967296).toNat) _ 0 4 (by simp only [List.nil_append, List.append_assoc]; rfl) rfl (bN_len _ _), be4 _ hk']
  have w4 : wd (segB g ++ z) 4 = g.off := by
    unfold wd segB
    rw [part_of _ (bN 4 (g.kind % 4294967296).toNat) (bN 4 g.off) _ 4 4 (by simp only [List.append_assoc]; rfl) (bN_len _ _) (bN_len _ _), be4 _ h1]
  have w8 : wd (segB g ++ z) 8 = g.at_ := by
    unfold wd segB
    rw [part_of _ (bN 4 (g.kind % 4294967296).toNat ++ bN 4 g.off) (bN 4 g.at_) _ 8 4 (by simp only [List.append_assoc]; rfl) (by simp only [List.length_append, bN_len]) (bN_len _ _), be4 _ h2]
  have w12 : wd (segB g ++ z) 12 = g.at_ := by
    unfold wd segB
    rw [part_of _ (bN 4 (g.kind % 4294967296).toNat ++ (bN 4 g.off ++ bN 4 g.at_)) (bN 4 g.at_) _ 12 4 (by simp only [List.append_assoc]; rfl) (by simp only [List.length_append, bN_len]) (bN_len _ _), be4 _ h2]
  have w16 : wd (segB g ++ z) 16 = g.size := by
    unfold wd segB
    rw [part_of _ (bN 4 (g.kind % 4294967296).toNat ++ (bN 4 g.off ++ (bN 4 g.at_ ++ bN 4 g.at_))) (bN 4 g.size) _ 16 4 (by simp only [List.append_assoc]; rfl) (by simp only [List.length_append, bN_len]) (bN_len _ _), be4 _ h3]
  have w20 : wd (segB g ++ z) 20 = g.room := by
    unfold wd segB
    rw [part_of _ (bN 4 (g.kind % 4294967296).toNat ++ (bN 4 g.off ++ (bN 4 g.at_ ++ (bN 4 g.at_ ++ bN 4 g.size)))) (bN 4 g.room) _ 20 4 (by simp only [List.append_assoc]; rfl) (by simp only [List.length_append, bN_len]) (bN_len _ _), be4 _ h4]
  have w24 : wd (segB g ++ z) 24 = protN (g.prot % 4294967296).toNat := by
    unfold wd segB
    rw [part_of _ (bN 4 (g.kind % 4294967296).toNat ++ (bN 4 g.off ++ (bN 4 g.at_ ++ (bN 4 g.at_ ++ (bN 4 g.size ++ bN 4 g.room))))) (bN 4 (protN (g.prot % 4294967296).toNat)) _ 24 4 (by simp only [List.append_assoc]; rfl) (by simp only [List.length_append, bN_len]) (bN_len _ _), be4 _ (by omega)]
  have w28 : wd (segB g ++ z) 28 = g.align := by
    unfold wd segB
    rw [part_of _ (bN 4 (g.kind % 4294967296).toNat ++ (bN 4 g.off ++ (bN 4 g.at_ ++ (bN 4 g.at_ ++ (bN 4 g.size ++ (bN 4 g.room ++ bN 4 (protN (g.prot % 4294967296).toNat))))))) (bN 4 g.align) z 28 4 (by simp only [List.append_assoc]) (by simp only [List.length_append, bN_len]) (bN_len _ _), be4 _ h5]
  have ep : ((protN (protN (g.prot % 4294967296).toNat) : Nat) : Int) = g.prot := by rw [protN_back _ (by omega)]; omega
  have ek : (((g.kind % 4294967296).toNat : Nat) : Int) = g.kind := by omega
  constructor
  · unfold segN
    rw [w0, w4, w8, w16, w20, w24, w28, ep, ek]
  · unfold segOk
    rw [w8, w12, w24, Bool.and_eq_true]
    exact ⟨beq_self_eq_true _, decide_eq_true p7⟩
theorem fit_kind {g : Sg} (h : FitS g) : (0 ≤ g.prot ∧ g.prot ≤ 7) ∧ (1 ≤ g.kind ∧ g.kind ≤ 3) := by
  obtain ⟨h1, h2, _, _, _, h6⟩ := h
  exact ⟨⟨h1, h2⟩, by omega⟩
theorem flat_drop (gs : List Sg) (z : L8) : ∀ i (h : i < gs.length), ∃ r, (gs.flatMap segB ++ z).drop (32 * i) = segB gs[i] ++ r := by
  induction gs with
  | nil => intro i h; simp at h
  | cons g t ih =>
    intro i h
    match i, h with
    | 0, _ => exact ⟨t.flatMap segB ++ z, by simp [List.flatMap_cons, List.append_assoc]⟩
    | i + 1, h =>
      obtain ⟨r, hr⟩ := ih i (by simpa using h)
      refine ⟨r, ?_⟩
      rw [List.flatMap_cons, List.append_assoc, show 32 * (i + 1) = (segB g).length + 32 * i from by rw [segB_len]; omega, ← List.drop_drop, List.drop_append_of_le_length (Nat.le_refl _), List.drop_length, List.nil_append, hr]
      rfl
/-- What is written is read again. -/
theorem write_parse {a : Ef} (hf1 : fitE a = true) (hb : ∀ g ∈ a.segs, g.Bd) (he : a.entry < 4294967296) (z : L8) (hz : a.segs.any (farS (wrL a ++ z).length) = false) : parE (wrL a ++ z) = 0 ∧ efAt (wrL a ++ z) = a := by
  obtain ⟨hn, hall⟩ := fitE_parts hf1
  have hw : wrL a ++ z = headB a ++ (a.segs.flatMap segB ++ z) := by unfold wrL; rw [if_pos hf1, List.append_assoc]
  generalize wrL a ++ z = l at hw hz
  obtain ⟨m1, m2, m3, m4, m5, m6, m7⟩ := head_parts a (a.segs.flatMap segB ++ z)
  rw [← hw] at m1 m2 m3 m4 m5 m6 m7
  have k16 : hf l 16 = if a.shared then 3 else 2 := by unfold hf; rw [m2, be2 _ (by split <;> decide)]
  have k24 : wd l 24 = a.entry := by unfold wd; rw [m4, be4 _ he]
  have k44 : hf l 44 = a.segs.length := by unfold hf; rw [m6, be2 _ (by omega)]
  have hlen : l.length = 52 + 32 * a.segs.length + z.length := by rw [hw, List.length_append, List.length_append, headB_len, flat_len]; omega
  have hd52 : l.drop 52 = a.segs.flatMap segB ++ z := by rw [hw, show 52 = (headB a).length from (headB_len a).symm, List.drop_append_of_le_length (Nat.le_refl _), List.drop_length, List.nil_append]
  have hseg : ∀ i (h : i < a.segs.length), segN (l.drop (52 + 32 * i)) = a.segs[i] ∧ segOk (l.drop (52 + 32 * i)) = true := by
    intro i h
    obtain ⟨r, hr⟩ := flat_drop a.segs z i h
    rw [← List.drop_drop, hd52, hr]
    have hF := fit_kind (hall _ (List.getElem_mem h))
    exact seg_parts _ (hb _ (List.getElem_mem h)) hF.1 hF.2 r
  have hsegs : segsAt l (hf l 44) = a.segs := by
    rw [k44]
    unfold segsAt
    apply List.ext_getElem
    · simp
    · intro i h1 h2
      rw [List.getElem_map, List.getElem_range]
      exact (hseg i h2).1
  have hef : efAt l = a := by
    unfold efAt
    rw [hsegs, k16, k24]
    cases a with
    | mk s e g => cases s <;> rfl
  refine ⟨par_of (hd_of (by omega) (by rw [m1]; rfl) (form_of (by rw [k16]; cases a.shared <;> simp) m3 m5 (by omega) m7) (by omega) ?_ (by rw [hef]; exact hf1)) (by rw [hef]; exact hz), hef⟩
  unfold segsOk
  rw [k44, List.all_eq_true]
  intro i hi
  exact (hseg i (List.mem_range.1 hi)).2
end Go.Proofs.YtgdflobcbhnimaaGreat.E
namespace Go.Proofs.YtgdflobcbhnimaaGreat.E
open Go.RowKit
set_option linter.unusedVariables false
set_option linter.unusedSimpArgs false
set_option maxRecDepth 100000
def midL (l : L8) : L8 := (l.drop 16).take 28
def finL (l : L8) : L8 := (l.drop 46).take 6
theorem mid_parts (l : L8) : midL l = (l.drop 16).take 2 ++ ((l.drop 18).take 6 ++ ((l.drop 24).take 4 ++ (l.drop 28).take 16)) := by
  unfold midL
  rw [tkt l 24 4 28 16 rfl, tkt l 18 6 24 20 rfl, tkt l 16 2 18 26 rfl]
theorem mid_get (l : L8) : ((midL l).drop 2).take 6 = (l.drop 18).take 6 ∧ ((midL l).drop 12).take 16 = (l.drop 28).take 16 := by
  unfold midL
  constructor
  · rw [List.drop_take, List.drop_drop, List.take_take]; rfl
  · rw [List.drop_take, List.drop_drop, List.take_take]; rfl
/-- The header that the document writes for comparison. -/
def cmpE (l : L8) : Ef := ⟨hf l 16 == 3, wd l 24, []⟩
theorem cmp_mid (l : L8) (h52 : 52 ≤ l.length) (hk : hf l 16 = 2 ∨ hf l 16 = 3) : midL (headB (cmpE l)) = (l.drop 16).take 2 ++ (entL ++ ((l.drop 24).take 4 ++ cntL)) ∧ finL (headB (cmpE l)) = endL := by
  obtain ⟨m1, m2, m3, m4, m5, m6, m7⟩ := head_parts (cmpE l) []
  rw [List.append_nil] at m1 m2 m3 m4 m5 m6 m7
  have e1 : (if (cmpE l).shared then 3 else 2) = hf l 16 := by
    show (if (hf l 16 == 3) = true then 3 else 2) = hf l 16
    rcases hk with k | k <;> rw [k] <;> rfl
  have e2 : (cmpE l).entry = wd l 24 := rfl
  refine ⟨?_, m7⟩
  rw [mid_parts, m2, m3, m4, m5, e1, e2, bN_hf l 16 (by omega), bN_wd l 24 (by omega)]
theorem cmp_form (l : L8) (h52 : 52 ≤ l.length) (hk : hf l 16 = 2 ∨ hf l 16 = 3) (hn : hf l 44 ≤ 16) : formOk l = ((midL l == midL (headB (cmpE l))) && (finL l == finL (headB (cmpE l)))) := by
  obtain ⟨c1, c2⟩ := cmp_mid l h52 hk
  rw [Bool.eq_iff_iff, Bool.and_eq_true, beq_iff_eq, beq_iff_eq, c1, c2]
  constructor
  · intro h
    obtain ⟨_, h2, h3, _, h5⟩ := form_parts h
    exact ⟨by rw [mid_parts, h2, h3], h5⟩
  · rintro ⟨h1, h2⟩
    obtain ⟨g1, g2⟩ := mid_get l
    rw [h1] at g1 g2
    have l2 : ((l.drop 16).take 2).length = 2 := part_len l 16 2 (by omega)
    have l4 : ((l.drop 24).take 4).length = 4 := part_len l 24 4 (by omega)
    refine form_of hk ?_ ?_ hn h2
    · rw [← g1]
      exact part_of _ ((l.drop 16).take 2) entL _ 2 6 rfl l2 rfl
    · rw [← g2]
      exact part_of _ ((l.drop 16).take 2 ++ (entL ++ (l.drop 24).take 4)) cntL [] 12 16 (by simp only [List.append_assoc, List.append_nil]) (by rw [List.length_append, List.length_append, l2, l4]; rfl) rfl
theorem cmp_fit (l : L8) : fitE (cmpE l) = true := rfl
theorem cmp_wr (l : L8) : wrL (cmpE l) = headB (cmpE l) := by
  unfold wrL
  rw [if_pos (cmp_fit l)]
  show headB (cmpE l) ++ [] = _
  rw [List.append_nil]
/-- The document's look at a segment. -/
def segOkD (l : L8) : Bool := segOk l && decide (wd l 0 ≤ 3)
theorem hd_101 {l : L8} (h : l.length < 52) : parE l = 101 := by
  have e : hdE l = 101 := by unfold hdE; rw [if_pos h]
  unfold parE; rw [if_neg (by rw [e]; decide), e]
theorem hd_102 {l : L8} (h1 : ¬ l.length < 52) (h2 : (l.take 16 == magicL) = false) : parE l = 102 := by
  have e : hdE l = 102 := by unfold hdE; rw [if_neg h1, if_pos h2]
  unfold parE; rw [if_neg (by rw [e]; decide), e]
theorem hd_103 {l : L8} (h1 : ¬ l.length < 52) (h2 : (l.take 16 == magicL) = true) (h3 : formOk l = false) : parE l = 103 := by
  have e : hdE l = 103 := by unfold hdE; rw [if_neg h1, if_neg (by rw [h2]; decide), if_pos h3]
  unfold parE; rw [if_neg (by rw [e]; decide), e]
theorem hd_cut {l : L8} (h1 : ¬ l.length < 52) (h2 : (l.take 16 == magicL) = true) (h3 : formOk l = true) (h4 : l.length < 52 + 32 * hf l 44) : parE l = 101 := by
  have e : hdE l = 101 := by unfold hdE; rw [if_neg h1, if_neg (by rw [h2]; decide), if_neg (by rw [h3]; decide), if_pos h4]
  unfold parE; rw [if_neg (by rw [e]; decide), e]
theorem hd_unfit {l : L8} (h1 : ¬ l.length < 52) (h2 : (l.take 16 == magicL) = true) (h3 : formOk l = true) (h4 : ¬ l.length < 52 + 32 * hf l 44) (h5 : fitE (efAt l) = false) : parE l = 103 := by
  have e : hdE l = 103 := by
    unfold hdE
    rw [if_neg h1, if_neg (by rw [h2]; decide), if_neg (by rw [h3]; decide), if_neg h4]
    by_cases h6 : segsOk l (hf l 44) = false
    · rw [if_pos h6]
    · rw [if_neg h6, if_pos h5]
  unfold parE; rw [if_neg (by rw [e]; decide), e]
theorem hd_seg {l : L8} (h1 : ¬ l.length < 52) (h2 : (l.take 16 == magicL) = true) (h3 : formOk l = true) (h4 : ¬ l.length < 52 + 32 * hf l 44) (k : Nat) (hk : k < hf l 44) (h5 : segOkD (l.drop (52 + 32 * k)) = false) : parE l = 103 := by
  by_cases h6 : fitE (efAt l) = false
  · exact hd_unfit h1 h2 h3 h4 h6
  · have h6 : fitE (efAt l) = true := by simpa using h6
    have h7 : segsOk l (hf l 44) = false := by
      cases h8 : segsOk l (hf l 44) with
      | false => rfl
      | true =>
        exfalso
        unfold segsOk at h8
        rw [List.all_eq_true] at h8
        have h9 := h8 k (List.mem_range.2 hk)
        unfold segOkD at h5
        rw [h9, Bool.true_and, decide_eq_false_iff_not] at h5
        have hm : segN (l.drop (52 + 32 * k)) ∈ (efAt l).segs := List.mem_map.2 ⟨k, List.mem_range.2 hk, rfl⟩
        have := (fit_kind ((fitE_parts h6).2 _ hm)).2.2
        simp only [segN] at this
        omega
    have e : hdE l = 103 := by
      unfold hdE
      rw [if_neg h1, if_neg (by rw [h2]; decide), if_neg (by rw [h3]; decide), if_neg h4, if_pos h7]
    unfold parE; rw [if_neg (by rw [e]; decide), e]
theorem hd_ok {l : L8} (h1 : ¬ l.length < 52) (h2 : (l.take 16 == magicL) = true) (h3 : formOk l = true) (h4 : ¬ l.length < 52 + 32 * hf l 44) (h5 : ∀ k, k < hf l 44 → segOkD (l.drop (52 + 32 * k)) = true) (h6 : fitE (efAt l) = true) : parE l = if (efAt l).segs.any (farS l.length) = true then 104 else 0 := by
  have e : hdE l = 0 := hd_of (by omega) h2 h3 (by omega) (by
    unfold segsOk
    rw [List.all_eq_true]
    intro i hi
    have := h5 i (List.mem_range.1 hi)
    unfold segOkD at this
    rw [Bool.and_eq_true] at this
    exact this.1) h6
  unfold parE
  rw [if_pos e]
end Go.Proofs.YtgdflobcbhnimaaGreat.E
