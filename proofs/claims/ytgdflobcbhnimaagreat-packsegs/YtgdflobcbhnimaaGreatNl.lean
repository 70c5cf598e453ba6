/- What is proved here: symbols' bytes and those of their names: the program's rows. -/
import Derived.Test.YtgdflobcbhnimaaGreatNi
import Derived.Test.YtgdflobcbhnimaaGreatNb
import Derived.OrdersHeld
namespace Go.Proofs.YtgdflobcbhnimaaGreat
open Go.RowKit
set_option linter.unusedVariables false
set_option linter.unusedSimpArgs false
set_option maxRecDepth 100000
/-- A symbol's own: the builder's text. -/
theorem len42 (B b : Nat) (l : L8) (v : Value) (w : World) (h : IsV B b l v w) (hl : l.length ≤ 1000000000) : Calls Tryz.prog 30 #[.pointer (some ⟨b, 0, none⟩)] w fun e w' => e = .returned (.int .i64 (l.length : Int)) ∧ w' = w := by
  obtain ⟨p, hp, hb⟩ := h.at_
  have c1 : w.cell? ⟨b, 1, none⟩ = some v := by rw [Lib.cell_of_heap hb]; rfl
  obtain ⟨ao, cap, rfl⟩ : ∃ ao cap, v = .slice ao l.length cap := by
    rcases h.own.2 with ⟨hv, hn⟩ | ⟨g, cap, cur, hv, _⟩
    · exact ⟨none, 0, by rw [hv, hn]⟩
    · exact ⟨_, _, hv⟩
  clear h hb hp
  go_enter Tryz.func30, Tryz.ntmps30
  go_wp2
  go_ret
  exact ⟨rfl, rfl⟩
theorem freeze_other (w : World) (g n k : Nat) (h : k ≠ g) : (w.freeze ⟨g, 0, none⟩ n).heap[k]? = w.heap[k]? := by
  unfold World.freeze
  split
  · rfl
  · simp only [Array.getElem?_modify]
    rw [if_neg (fun e => h e.symm)]
theorem string43v (B b : Nat) (l : L8) (v : Value) (w : World) (h : IsV B b l v w) (h0 : l ≠ []) : Calls Tryz.prog 31 #[.pointer (some ⟨b, 0, none⟩)] w fun e w' => e = .returned (.string ⟨l.toArray⟩) ∧ (Below B w w' ∧ ∀ k, v.ownBlock ≠ some k → w'.heap[k]? = w.heap[k]?) := by
  obtain ⟨p, hp, hbk⟩ := h.at_
  have hl0 : l.length ≠ 0 := by simpa using h0
  have hown := h.own
  obtain ⟨g, cap, cur, rfl, hbg, hg, hnc, hcm, hcs, htake⟩ : ∃ g cap cur, v = .slice (some ⟨g, 0, none⟩) l.length cap ∧ B ≤ g ∧ w.heap[g]? = some (.cells cur 5 (0, 0)) ∧ l.length ≤ cap ∧ cap ≤ maxLen ∧ cur.size = cap * 1 ∧ cur.toList.take (l.length * 1) = Lib.byteCells l := by
    rcases hown.2 with ⟨_, hz⟩ | ⟨g, cap, cur, hv, r⟩
    · exact absurd hz hl0
    · exact ⟨g, cap, cur, hv, r⟩
  have c1 : w.drew.cell? ⟨b, 1, none⟩ = some (.slice (some ⟨g, 0, none⟩) l.length cap) := by
    have : w.drew.heap[b]? = some (.cells #[p, .slice (some ⟨g, 0, none⟩) l.length cap] 63 (0, 0)) := hbk
    rw [Lib.cell_of_heap this]; rfl
  have hSD : (Builtin.unsafeSliceData_ #[61] 109 #[.slice (some ⟨g, 0, none⟩) l.length cap]).run Tryz.prog w.drew = .ok (.pointer (some ⟨g, 0, none⟩)) w.drew :=
    Lib.run_unsafeSliceData_row _ _ _ _ _ _ (by omega)
  have hUS : (Builtin.unsafeString_ #[109, 3] 9 #[.pointer (some ⟨g, 0, none⟩), .int .i64 l.length]).run Tryz.prog w.drew = .ok (.string ⟨l.toArray⟩) (w.drew.freeze ⟨g, 0, none⟩ l.length) := by
    refine Lib.run_unsafeString_row w.drew 109 3 9 5 Tryz.underlying109 (by kernel_rfl) g cur.size (by have hg' : w.drew.heap[g]? = some (.cells cur 5 (0, 0)) := hg; simp [World.shape?, hg']) l h0 (by omega) (by unfold maxLen at hcm; omega) ?_
    intro j x hx
    have := hown.cells (g := g) rfl j (.int .u8 x.toNat) (by simp [Lib.byteCells, hx])
    exact this
  have HE : Hid (Below B w (w.drew.freeze ⟨g, 0, none⟩ l.length) ∧ ∀ k, (Value.slice (some ⟨g, 0, none⟩) l.length cap).ownBlock ≠ some k → (w.drew.freeze ⟨g, 0, none⟩ l.length).heap[k]? = w.heap[k]?) :=
    ⟨Lib.below_freeze (Below.drew (Below.refl B w)) (p := ⟨g, 0, none⟩) hbg _, fun k hk => freeze_other w.drew g _ k (fun e => hk (by rw [e]; rfl))⟩
  clear h hbk hp hown hg hcs htake
  go_enter Tryz.func31, Tryz.ntmps31
  go_wp2
  go_region
  all_goals (go_wp2; go_ret; exact ⟨rfl, HE.out⟩)
/-- Two builders side by side. -/
def TwoB (B b1 b2 : Nat) (l1 l2 : L8) (w : World) : Prop := ∃ v1 v2, IsV B b1 l1 v1 w ∧ IsV B b2 l2 v2 w ∧ b1 ≠ b2 ∧ ∀ k, v1.ownBlock = some k → v2.ownBlock ≠ some k
theorem IsV.diff {B b b' : Nat} {l l' : L8} {v v' : Value} {w : World} (h : IsV B b l v w) (h' : IsV B b' l' v' w) : v.ownBlock ≠ some b' := by
  intro e
  obtain ⟨cur, hc⟩ := h.row e
  obtain ⟨p, _, hp⟩ := h'.at_
  rw [hc] at hp
  injection hp with hp
  injection hp with _ hp
  cases hp
theorem TwoB.swap {B b1 b2 : Nat} {l1 l2 : L8} {w : World} (h : TwoB B b1 b2 l1 l2 w) : TwoB B b2 b1 l2 l1 w := by
  obtain ⟨v1, v2, h1, h2, h3, h4⟩ := h
  exact ⟨v2, v1, h2, h1, fun e => h3 e.symm, fun k e e' => h4 k e' e⟩
theorem TwoB.below {B b1 b2 : Nat} {l1 l2 : L8} {w w' : World} (h : TwoB B b1 b2 l1 l2 w) (hb : Below w.heap.size w w') : TwoB B b1 b2 l1 l2 w' := by
  obtain ⟨v1, v2, h1, h2, h3, h4⟩ := h
  exact ⟨v1, v2, h1.below hb, h2.below hb, h3, h4⟩
theorem two_write {B b1 b2 : Nat} {l1 l2 : L8} (s : ByteArray) {w : World} (h : TwoB B b1 b2 l1 l2 w) (hlen : l1.length + s.size ≤ 1000000000) (hBw : B ≤ w.heap.size) :
    Calls Tryz.prog 28 #[.pointer (some ⟨b1, 0, none⟩), .string s] w fun e w' => e = .returned (.tuple #[.int .i64 s.size, .nilIface]) ∧ TwoB B b1 b2 (l1 ++ s.toList) l2 w' ∧ Below B w w' ∧ ∀ k g, B5 g k w → B5 g k w' := by
  obtain ⟨v1, v2, h1, h2, h3, h4⟩ := h
  refine (write41v B b1 l1 s v1 w h1 hlen hBw).mono ?_
  rintro e w' ⟨rfl, v', i1, i2, i3, i4⟩
  refine ⟨rfl, ⟨v', v2, i1, ?_, h3, ?_⟩, i2, ?_⟩
  · refine h2.keep (i3 b2 h2.lt (fun e => h3 e.symm) (h1.diff h2)) (fun g hg => ?_)
    obtain ⟨cur, hc⟩ := h2.row hg
    exact i3 g (Array.getElem?_eq_some_iff.1 hc).1 (fun e => h2.diff h1 (by rw [hg, e])) (fun e => h4 g e hg)
  · intro k hk
    rcases i4 with e | e | ⟨k', e, hk'⟩
    · rw [e] at hk; cases hk
    · rw [e] at hk; exact h4 k hk
    · rw [e] at hk
      injection hk with hk
      intro e2
      obtain ⟨cur, hc⟩ := h2.row e2
      have := (Array.getElem?_eq_some_iff.1 hc).1
      omega
  · intro k g hk
    refine (i3 k hk.lt ?_ ?_).trans hk
    · intro e
      subst e
      obtain ⟨p, _, hp⟩ := h1.at_
      have hk' : w.heap[k]? = _ := hk
      rw [hk'] at hp
      injection hp with hp
      injection hp with _ hp
      cases hp
    · intro e
      obtain ⟨cur, hc⟩ := h1.row e
      have hk' : w.heap[k]? = _ := hk
      rw [hk'] at hc
      injection hc with hc
      injection hc with _ hc
      cases hc
theorem two_write2 {B b1 b2 : Nat} {l1 l2 : L8} (s : ByteArray) {w : World} (h : TwoB B b1 b2 l1 l2 w) (hlen : l2.length + s.size ≤ 1000000000) (hBw : B ≤ w.heap.size) :
    Calls Tryz.prog 28 #[.pointer (some ⟨b2, 0, none⟩), .string s] w fun e w' => e = .returned (.tuple #[.int .i64 s.size, .nilIface]) ∧ TwoB B b1 b2 l1 (l2 ++ s.toList) w' ∧ Below B w w' ∧ ∀ k g, B5 g k w → B5 g k w' :=
  (two_write s h.swap hlen hBw).mono fun e w' h => ⟨h.1, h.2.1.swap, h.2.2⟩
theorem two_len {B b1 b2 : Nat} {l1 l2 : L8} {w : World} (h : TwoB B b1 b2 l1 l2 w) (hlen : l2.length ≤ 1000000000) : Calls Tryz.prog 30 #[.pointer (some ⟨b2, 0, none⟩)] w fun e w' => e = .returned (.int .i64 (l2.length : Int)) ∧ w' = w := by
  obtain ⟨v1, v2, h1, h2, h3, h4⟩ := h
  exact len42 B b2 l2 v2 w h2 hlen
theorem two_text1 {B b1 b2 : Nat} {l1 l2 : L8} {w : World} (h : TwoB B b1 b2 l1 l2 w) (h0 : l1 ≠ []) : Calls Tryz.prog 31 #[.pointer (some ⟨b1, 0, none⟩)] w fun e w' => e = .returned (.string ⟨l1.toArray⟩) ∧ (Below B w w' ∧ ∃ v2, IsV B b2 l2 v2 w') := by
  obtain ⟨v1, v2, h1, h2, h3, h4⟩ := h
  refine (string43v B b1 l1 v1 w h1 h0).mono ?_
  rintro e w' ⟨rfl, i1, i2⟩
  exact ⟨rfl, i1, v2, h2.keep (i2 b2 (h1.diff h2)) (fun g hg => i2 g (fun e => h4 g e hg))⟩
theorem two_new (w : World) : ∃ W1 W2, w.alloc (.cells #[.pointer none, .slice none 0 0] 63) = W1 ∧ W1.alloc (.cells #[.pointer none, .slice none 0 0] 63) = W2 ∧ W1.heap.size = w.heap.size + 1 ∧ Below w.heap.size w W1 ∧ Below w.heap.size w W2 ∧ TwoB w.heap.size w.heap.size (w.heap.size + 1) [] [] W2 ∧ w.heap.size ≤ W2.heap.size := by
  obtain ⟨W1, hW1⟩ : ∃ z, w.alloc (.cells #[.pointer none, .slice none 0 0] 63) = z := ⟨_, rfl⟩
  obtain ⟨W2, hW2⟩ : ∃ z, W1.alloc (.cells #[.pointer none, .slice none 0 0] 63) = z := ⟨_, rfl⟩
  have z1 : W1.heap.size = w.heap.size + 1 := by rw [← hW1]; simp
  have z2 : W2.heap.size = w.heap.size + 2 := by rw [← hW2, ← hW1]; simp
  have b1 : Below w.heap.size w W1 := by rw [← hW1]; exact (Below.refl _ _).alloc (Nat.le_refl _) _
  have b2 : Below W1.heap.size W1 W2 := by rw [← hW2]; exact (Below.refl _ _).alloc (Nat.le_refl _) _
  have h1 : W1.heap[w.heap.size]? = some (.cells #[.pointer none, .slice none 0 0] 63 (0, 0)) := by rw [← hW1]; exact World.alloc_heap_new w _
  have h2 : W2.heap[w.heap.size + 1]? = some (.cells #[.pointer none, .slice none 0 0] 63 (0, 0)) := by rw [← hW2, ← z1]; exact World.alloc_heap_new W1 _
  refine ⟨W1, W2, hW1, hW2, z1, b1, b1.trans (b2.mono (by omega)), ⟨.slice none 0 0, .slice none 0 0, ⟨Nat.le_refl _, ⟨_, Or.inl rfl, ?_⟩, ⟨rfl, Or.inl ⟨rfl, rfl⟩⟩, by simp [Value.ownBlock]⟩, ⟨by omega, ⟨_, Or.inl rfl, h2⟩, ⟨rfl, Or.inl ⟨rfl, rfl⟩⟩, by simp [Value.ownBlock]⟩, by omega, by simp [Value.ownBlock]⟩, by omega⟩
  exact (b2.block _ (by omega)).trans h1
theorem syms_ne (l : List Sy) : symsL l ≠ [] := by unfold symsL zero16; simp
theorem strs_ne (l : List Sy) : strsL l ≠ [] := by unfold strsL; simp
set_option maxHeartbeats 4000000 in
theorem rows29 (l : List Sy) (v : Value) (w : World) (hs : SlY w v l) (hb : ∀ s ∈ l, s.Bd) (hfit : ∀ s ∈ l, FitY s) (hl : l.length ≤ 200) :
    Calls Tryz.prog 84 #[v] w fun e w' => e = .returned (.tuple #[.string ⟨(symsL l).toArray⟩, .string ⟨(strsL l).toArray⟩]) ∧ Below w.heap.size w w' := by
  obtain ⟨ao, cap, rfl, s1, s2, s3, s4⟩ := hs
  have HS : Hid (∀ i (h : i < l.length), ∃ b o, ao = some ⟨b, o, none⟩ ∧ At5 w b (o + i * 5) l[i]) := s4
  have HBD : Hid ((∀ s ∈ l, s.Bd) ∧ (∀ s ∈ l, FitY s) ∧ l.length ≤ 200) := ⟨hb, hfit, hl⟩
  clear s3 s4 hb hfit
  obtain ⟨W1, W2, hW1, hW2, z1, b1, b2, h2, h2z⟩ := two_new w
  have K1 := two_write ⟨zero16.toArray⟩ h2 (by decide) h2z
  rw [bal, List.nil_append] at K1
  have hs0 : symsL [] = zero16 := by unfold symsL; simp [rowsG]
  rw [← hs0] at K1
  change Calls Tryz.prog 28 #[.pointer (some ⟨w.heap.size, 0, none⟩), .string ⟨#[0, 0, 0, 0, 0, 0, 0, 0, 0, 0, 0, 0, 0, 0, 0, 0]⟩] W2 _ at K1
  have HB2 : Hid (Below w.heap.size w W2) := b2
  clear hs0 h2 h2z b1 b2
  go_enter Tryz.func84, Tryz.ntmps84
  go_wp2_with fail
  refine K1.mono ?_
  rintro e w3 ⟨rfl, h3, hb3, _⟩
  clear K1 hW1 hW2 z1
  have HB3 : Hid (Below w.heap.size w w3) := HB2.out.trans hb3
  have K2 := two_write2 ⟨#[0]⟩ h3 (by decide) HB3.out.size
  have hs1 : [] ++ (⟨#[0]⟩ : ByteArray).toList = strsL [] := by rw [show (⟨#[0]⟩ : ByteArray) = ⟨([0] : L8).toArray⟩ from rfl, bal]; rfl
  rw [hs1] at K2
  clear h3 hb3 HB2 hs1
  go_wp2_with fail
  refine K2.mono ?_
  rintro e w4 ⟨rfl, h4, hb4, _⟩
  have H4 : Hid (TwoB w.heap.size w.heap.size (w.heap.size + 1) (symsL []) (strsL []) w4 ∧ Below w.heap.size w w4) := ⟨h4, HB3.out.trans hb4⟩
  clear K2 h4 hb4 HB3
  go_wp2
  go_loopw [12] (fun x wr => ∃ k : Nat, x = .int .i64 (k : Int) ∧ k ≤ l.length ∧ TwoB w.heap.size w.heap.size (w.heap.size + 1) (symsL (l.take k)) (strsL (l.take k)) wr ∧ Below w.heap.size w wr) (fun x _ => l.length - (intOf x).toNat)
  case atStart => exact ⟨0, rfl, Nat.zero_le _, H4.out.1, H4.out.2⟩
  case round =>
    obtain ⟨k, rfl, hk, hT, hbr⟩ := hrel
    by_cases hlt : k < l.length
    · obtain ⟨b, o, rfl, h7⟩ := HS.out k hlt
      have h7 := h7.keep hbr
      obtain ⟨g, hg⟩ : ∃ g, g = l[k] := ⟨_, rfl⟩
      rw [← hg] at h7
      have hmem : g ∈ l := by rw [hg]; exact List.getElem_mem hlt
      have hbd := HBD.out.1 g hmem
      have hft := HBD.out.2.1 g hmem
      obtain ⟨O, hO⟩ : ∃ O, O = (strsL (l.take k)).length := ⟨_, rfl⟩
      have hOl : O ≤ 6401 := by rw [hO]; exact strs_le l HBD.out.2.1 HBD.out.2.2 k
      have htk : l.take (k + 1) = l.take k ++ [g] := by rw [List.take_succ_eq_append_getElem hlt, hg]
      have HTK : Hid (symsL (l.take (k + 1)) = symsL (l.take k) ++ rowB g O ∧ strsL (l.take (k + 1)) = strsL (l.take k) ++ nmB g ∧ (symsL (l.take k)).length ≤ 4000 ∧ (strsL (l.take k)).length = O ∧ O ≤ 6401) := by
        refine ⟨by rw [htk, syms_snoc, hO], by rw [htk, strs_snoc], ?_, hO.symm, hOl⟩
        rw [syms_len, List.length_take]
        have := HBD.out.2.2
        omega
      have K35 : Hid (∀ w', Calls Tryz.prog 104 #[.agg #[.string ⟨g.name.toArray⟩, .int .u32 (g.value : Int), .int .u32 (g.size : Int), .int .i64 g.bind, .int .i64 g.part], .int .u32 (O : Int)] w' fun e w'' => e = .returned (.string ⟨(rowB g O).toArray⟩) ∧ Below w'.heap.size w' w'') := fun w' => row35 g O (by omega) hbd.v hbd.z hft.2.2.2.1 (by have := hft.2.2.2.2.1; omega) hft.2.2.2.2.2.1 (by have := hft.2.2.2.2.2.2; omega) w'
      have HSZ : Hid ((⟨(rowB g O).toArray⟩ : ByteArray).size = 16 ∧ (⟨(rowB g O).toArray⟩ : ByteArray).toList = rowB g O) := by
        refine ⟨?_, bal _⟩
        show (rowB g O).toArray.size = 16
        rw [List.size_toArray, rowB_len]
      have HNM : Hid ((⟨g.name.toArray⟩ : ByteArray) ++ ⟨#[0]⟩ = ⟨(nmB g).toArray⟩ ∧ g.name.length ≤ 31) := ⟨by rw [show (⟨#[0]⟩ : ByteArray) = ⟨([0] : L8).toArray⟩ from rfl, ba_app]; rfl, hft.2.1⟩
      have hnz : (⟨g.name.toArray⟩ : ByteArray).size ≤ 31 := by show g.name.toArray.size ≤ 31; rw [List.size_toArray]; exact hft.2.1
      have eO : (O : Int) % 4294967296 = (O : Int) := by omega
      have eO2 : IntKind.u32.wrap (O : Int) = (O : Int) := by rw [IntKind.wrap_u32]; exact eO
      obtain ⟨RB, hRB⟩ : ∃ z : ByteArray, z = ⟨(rowB g O).toArray⟩ := ⟨_, rfl⟩
      obtain ⟨NB, hNB⟩ : ∃ z : ByteArray, z = ⟨g.name.toArray⟩ := ⟨_, rfl⟩
      obtain ⟨W5, hW5, hb1, hz5, q0, q1, q2, q3, q4⟩ := box5 wr g
      have HB5W : Hid (B5 g wr.heap.size W5) := by rw [← hW5]; exact B5.new g wr
      have HNE : Hid (NB = ⟨g.name.toArray⟩) := hNB
      have KL : Hid (∀ wx, Below wr.heap.size wr wx → Calls Tryz.prog 30 #[.pointer (some ⟨w.heap.size + 1, 0, none⟩)] wx fun e w' => e = .returned (.int .i64 (O : Int)) ∧ w' = wx) := fun wx h => by
        have := two_len (hT.below h) (by rw [HTK.out.2.2.2.1]; have := HTK.out.2.2.2.2; omega)
        rw [HTK.out.2.2.2.1] at this
        exact this
      have HT : Hid (TwoB w.heap.size w.heap.size (w.heap.size + 1) (symsL (l.take k)) (strsL (l.take k)) wr ∧ Below w.heap.size w wr) := ⟨hT, hbr⟩
      obtain ⟨r0, r1, r2, r3, r4⟩ := h7
      rw [← hRB] at K35 HSZ
      rw [← hNB] at K35 HNM hnz hW5 q0 r0
      clear hT hbr hg hmem hbd hft hO hOl htk hz5 hRB hNB
      go_wp2
      refine wp_region_cut (R := Ext) [⟨16, fun v _ => v = .agg #[.string NB, .int .u32 (g.value : Int), .int .u32 (g.size : Int), .int .i64 g.bind, .int .i64 g.part], fun _ _ _ _ h => h⟩, ⟨17, fun v _ => v = .int .i64 (O : Int), fun _ _ _ _ h => h⟩, ⟨18, fun v _ => v = .int .u32 (O : Int), fun _ _ _ _ h => h⟩, ⟨19, fun v _ => v = .string RB, fun _ _ _ _ h => h⟩] _ 4 (by kernel_rfl) rfl (by kernel_rfl) (by decide) (by kernel_rfl) (Below.drew (Below.refl _ _)) (fun _ _ _ h1 h2 => below_tr h1 h2) (fun QQ => ⟨?_, ?_, ?_, ?_, trivial⟩) (fun f wy hR hf A hA => ?_)
      · intro A wx hR hout hdep K hK
        have h7 : A.tmps[7]?.getD undef = .pointer (some ⟨wr.heap.size, 0, none⟩) := hout 7 (by kernel_rfl)
        refine if_yes (by kernel_rfl) ?_
        have q0 := keep_cell hR q0
        have q1 := keep_cell hR q1
        have q2 := keep_cell hR q2
        have q3 := keep_cell hR q3
        have q4 := keep_cell hR q4
        simp [go_sem, h7, q0, q1, q2, q3, q4, eO, eO2]
        exact hK.out _ _ (Below.refl _ _) rfl
      · intro A wx hR hout hdep K hK
        have h5 : A.tmps[5]?.getD undef = .pointer (some ⟨w.heap.size + 1, 0, none⟩) := hout 5 (by kernel_rfl)
        refine if_yes (by kernel_rfl) ?_
        simp [go_sem, h5, eO, eO2]
        refine (KL.out wx (below_tr hb1 hR)).mono ?_
        rintro e wG ⟨rfl, rfl⟩
        exact hK.out _ _ (Below.refl _ _) rfl
      · intro A wx hR hout hdep K hK
        have h17 : A.tmps[17]?.getD undef = .int .i64 (O : Int) := hdep 17 (by kernel_rfl)
        refine if_yes (by kernel_rfl) ?_
        simp [go_sem, h17, eO, eO2]
        exact hK.out _ _ (Below.refl _ _) rfl
      · intro A wx hR hout hdep K hK
        have h16 : A.tmps[16]?.getD undef = .agg #[.string NB, .int .u32 (g.value : Int), .int .u32 (g.size : Int), .int .i64 g.bind, .int .i64 g.part] := hdep 16 (by kernel_rfl)
        have h18 : A.tmps[18]?.getD undef = .int .u32 (O : Int) := hdep 18 (by kernel_rfl)
        refine if_yes (by kernel_rfl) ?_
        simp [go_sem, h16, h18, eO, eO2]
        refine (K35.out wx).mono ?_
        rintro e wG ⟨rfl, hbG⟩
        exact hK.out _ _ hbG rfl
      have h19 : f 19 = .string RB := hf 19 (by kernel_rfl)
      simp only [putSl, List.take_succ_cons, List.take_zero, Act.put, List.setIfInBounds_toArray, List.set_cons_zero, List.set_cons_succ, h19] at hA
      subst hA
      have HBY : Hid (Below wr.heap.size wr wy) := below_tr hb1 hR
      have HB5 : Hid (B5 g wr.heap.size wy) := (HB5W.out).keep hR
      clear hR hb1 q0 q1 q2 q3 q4 r0 r1 r2 r3 r4 hW5 HB5W
      have HTY : Hid (TwoB w.heap.size w.heap.size (w.heap.size + 1) (symsL (l.take k)) (strsL (l.take k)) wy ∧ Below w.heap.size w wy) := ⟨HT.out.1.below HBY.out, HT.out.2.trans (HBY.out.mono HT.out.2.size)⟩
      refine wpAny_ready (rs := [4]) (by kernel_rfl) (by decide) (AllReady.cons rfl ?_ AllReady.nil)
      intro K5 hK5
      refine if_yes (by kernel_rfl) ?_
      simp [go_sem]
      have KW := two_write RB HTY.out.1 (by rw [HSZ.out.1]; have := HTK.out.2.2.1; omega) HTY.out.2.size
      rw [HSZ.out.2, ← HTK.out.1] at KW
      refine KW.mono ?_
      rintro e w6 ⟨rfl, hT6, hb6, hk6⟩
      refine hK5 _ _ ?_
      refine wpAny_done (by kernel_rfl) ?_ _
      have H6 : Hid (TwoB w.heap.size w.heap.size (w.heap.size + 1) (symsL (l.take (k + 1))) (strsL (l.take k)) w6 ∧ Below w.heap.size w w6) := ⟨hT6, HTY.out.2.trans hb6⟩
      have q0 : w6.cell? ⟨wr.heap.size, 0, none⟩ = some (.string NB) := by rw [HNE.out]; exact (hk6 _ _ HB5.out).cells.1
      have KN := two_write2 ⟨(nmB g).toArray⟩ H6.out.1 (by
        rw [HTK.out.2.2.2.1]
        have h1 : (⟨(nmB g).toArray⟩ : ByteArray).size = (nmB g).length := by show (nmB g).toArray.size = _; simp
        have h2 : (nmB g).length = g.name.length + 1 := by simp [nmB]
        have := HNM.out.2
        have := HTK.out.2.2.2.2
        omega) H6.out.2.size
      rw [bal, ← HTK.out.2.1, ← HNM.out.1] at KN
      clear hf h19 KW hK5 K5 hT6 hb6 hk6
      go_wp2_with fail
      refine KN.mono ?_
      rintro e w7 ⟨rfl, hT7, hb7, _⟩
      have HE : Hid (TwoB w.heap.size w.heap.size (w.heap.size + 1) (symsL (l.take (k + 1))) (strsL (l.take (k + 1))) w7 ∧ Below w.heap.size w w7) := ⟨hT7, H6.out.2.trans hb7⟩
      clear KN q0 hT7 hb7
      go_wp2
      go_roundw
      case rel => exact ⟨k + 1, by go_num, by omega, HE.out.1, HE.out.2⟩
      case measure => simp [intOf]; omega
    · have KS := two_text1 hT (syms_ne _)
      have HB : Hid (Below w.heap.size w wr) := hbr
      rw [List.take_of_length_le (by omega)] at KS
      clear hT hbr
      go_wp2_with fail
      refine KS.mono ?_
      rintro e w5 ⟨rfl, hb5, v2, hv2⟩
      have KS2 := string43v w.heap.size (w.heap.size + 1) _ v2 w5 hv2 (strs_ne _)
      have HB5 : Hid (Below w.heap.size w w5) := HB.out.trans hb5
      clear KS hb5 hv2
      go_wp2_with fail
      refine KS2.mono ?_
      rintro e w6 ⟨rfl, hb6, _⟩
      have HB6 : Hid (Below w.heap.size w w6) := HB5.out.trans hb6
      clear KS2 hb6
      go_wp2
      go_ret2
      exact ⟨rfl, HB6.out⟩
end Go.Proofs.YtgdflobcbhnimaaGreat
