/- What is proved here: the ways to look for names, as bytes: the program's chains; a table: the program's Write. -/
import Derived.Test.YtgdflobcbhnimaaGreatNl
import Derived.OrdersHeld
import Derived.Laws.MakeOwn
namespace Go.Proofs.YtgdflobcbhnimaaGreat
open Go.RowKit
set_option linter.unusedVariables false
set_option linter.unusedSimpArgs false
set_option maxRecDepth 100000
def u32C (x : Nat) : Value := .int .u32 (x : Int)
/-- A row of numbers. -/
def RowU (w : World) (b : Nat) (xs : List Nat) : Prop := w.heap[b]? = some (.cells (xs.map u32C).toArray 22 (0, 0))
theorem RowU.lt {w : World} {b : Nat} {xs : List Nat} (h : RowU w b xs) : b < w.heap.size := (Array.getElem?_eq_some_iff.1 h).1
theorem RowU.cell {w : World} {b : Nat} {xs : List Nat} (h : RowU w b xs) (k : Nat) (x : Nat) (hx : xs[k]? = some x) : w.cell? ⟨b, k, none⟩ = some (.int .u32 (x : Int)) := by
  have h' : w.heap[b]? = _ := h
  have hk : (xs.map u32C)[k]? = some (u32C x) := by rw [List.getElem?_map, hx]; rfl
  simp [World.cell?, h', hx, u32C]
theorem RowU.frozen {w : World} {b : Nat} {xs : List Nat} (h : RowU w b xs) (k : Nat) : w.frozen? ⟨b, k, none⟩ = false := by
  have h' : w.heap[b]? = _ := h
  simp [World.frozen?, h']
theorem RowU.set {w : World} {b : Nat} {xs : List Nat} (h : RowU w b xs) (k x : Nat) : RowU (w.setCell ⟨b, k, none⟩ (.int .u32 (x : Int))) b (xs.set k x) := by
  have := blk_set h k (.int .u32 (x : Int))
  unfold RowU
  rw [this]
  congr 2
  apply Array.ext'
  simp [List.map_set, u32C]
theorem RowU.keep {w w' : World} {b : Nat} {xs : List Nat} (h : RowU w b xs) (hb : Below w.heap.size w w') : RowU w' b xs := (hb.block b h.lt).trans h
theorem RowU.row {w w' : World} {b : Nat} {xs : List Nat} {row : Option Nat} (h : RowU w b xs) (hg : w.grownBy w' row) (hr : some b ≠ row) : RowU w' b xs := (hg.block b h.lt hr).trans h
theorem mkRowU (n : Nat) (hn : n ≤ 1000) (w : World) : (Instr.makeSlice 26 (.int .i64 (n : Int)) (.int .i64 (n : Int))).run Tryz.prog w = .ok (.slice (some ⟨w.heap.size, 0, none⟩) n n) (w.alloc (.cells ((List.replicate n 0).map u32C).toArray 22)) := by
  have h := run_make_row' (P := Tryz.prog) 26 22 (.int .u32 0) 4 Tryz.underlying26 (by kernel_rfl) rfl .i64 .i64 n (by omega) (by omega) w
  rw [h]
  have e : madeCells #[.int .u32 0] n = ((List.replicate n 0).map u32C).toArray := by
    apply Array.ext
    · simp [size_madeCells]
    · intro i h1 h2
      simp [madeCells, Nat.mod_one, u32C]
  rw [e]
theorem RowU.new (n : Nat) (w : World) : RowU (w.alloc (.cells ((List.replicate n 0).map u32C).toArray 22)) w.heap.size (List.replicate n 0) := World.alloc_heap_new w _
theorem nums_zero (l : List Sy) (ways : Nat) : ((List.replicate (2 + ways + (l.length + 1)) 0).set 0 ways).set 1 (l.length + 1) = numsAt l ways l.length := by
  unfold numsAt
  rw [first_end, next_end, List.replicate_append_replicate, show 2 + ways + (l.length + 1) = (ways + (l.length + 1)) + 1 + 1 by omega]
  rfl
theorem app3 (A F X : List Nat) (ways W n x y : Nat) (hA : A.length = 2) (hF : F.length = ways) (hW : W < ways) : ((A ++ (F ++ X)).set (2 + ways + n) x).set (2 + W) y = A ++ (F.set W y ++ X.set n x) := by
  have e1 : (A ++ (F ++ X)).set (2 + ways + n) x = A ++ (F ++ X.set n x) := by
    rw [List.set_append_right _ _ (by omega), List.set_append_right _ _ (by omega), hA, hF, show 2 + ways + n - 2 - ways = n by omega]
  rw [e1, List.set_append_right _ _ (by omega), hA, show 2 + W - 2 = W by omega, List.set_append_left _ _ (by omega)]
theorem nums_step (l : List Sy) (ways a : Nat) (h : a < l.length) (hw : 0 < ways) : ∃ x, (numsAt l ways (a + 1))[2 + wayN l ways (a + 1)]? = some x ∧ x ≤ l.length ∧
    numsAt l ways a = ((numsAt l ways (a + 1)).set (2 + ways + (a + 1)) x).set (2 + wayN l ways (a + 1)) (a + 1) := by
  have hlt : wayN l ways (a + 1) < ways := Nat.mod_lt _ hw
  obtain ⟨W, hW⟩ : ∃ z, z = wayN l ways (a + 1) := ⟨_, rfl⟩
  rw [← hW] at hlt ⊢
  have hf : W < (firstL l ways (a + 1)).length := by rw [first_len]; exact hlt
  refine ⟨(firstL l ways (a + 1))[W], ?_, first_lt l ways (a + 1) (by omega) _ (List.getElem_mem hf), ?_⟩
  · unfold numsAt
    rw [List.getElem?_append_right (by simp)]
    simp only [List.length_cons, List.length_nil, show 2 + W - (0 + 1 + 1) = W by omega]
    rw [List.getElem?_append_left hf, List.getElem?_eq_getElem hf]
  · have e1 := next_step l ways a h hw
    have e2 := first_step l ways a h
    rw [← hW] at e1 e2
    rw [List.getD_eq_getElem?_getD, List.getElem?_eq_getElem hf] at e1
    unfold numsAt
    rw [e1, e2]
    exact (app3 _ _ _ ways W (a + 1) _ (a + 1) rfl (first_len _ _ _) hlt).symm
theorem own_keep {w w' : World} {base e size : Nat} {v : Value} {n : Nat} {xs : List Value} (h : w.ownsRow base e size v n xs) (hb : Below w.heap.size w w') : w'.ownsRow base e size v n xs := by
  obtain ⟨h0, h | ⟨g, cap, cur, h1, h2, h3, h4⟩⟩ := h
  · exact ⟨h0, Or.inl h⟩
  · refine ⟨h0, Or.inr ⟨g, cap, cur, h1, h2, ?_, h4⟩⟩
    rw [hb.block g (Array.getElem?_eq_some_iff.1 h3).1]; exact h3
theorem isB_keep {B b : Nat} {l : L8} {w w' : World} (h : IsB B b l w) (hb : Below w.heap.size w w') : IsB B b l w' := by
  have key : ∀ p, Lib.BuilderAt 63 5 B b p (Lib.byteCells l) w → Lib.BuilderAt 63 5 B b p (Lib.byteCells l) w' := fun p h => by
    have hl := h.lt
    obtain ⟨h0, v, h1, h2, h3⟩ := h
    exact ⟨h0, v, (hb.block b hl).trans h1, own_keep h2 hb, h3⟩
  rcases h with h | h
  · exact Or.inl (key _ h)
  · exact Or.inr (key _ h)
set_option maxHeartbeats 4000000 in
theorem chains30 (l : List Sy) (v : Value) (ways : Nat) (w : World) (hs : SlY w v l) (hfit : ∀ s ∈ l, FitY s) (hl : l.length ≤ 200) (h1 : 1 ≤ ways) (h64 : ways ≤ 64) :
    Calls Tryz.prog 85 #[v, .int .i64 (ways : Int)] w fun e w' => e = .returned (.string ⟨(hashB l ways).toArray⟩) ∧ Below w.heap.size w w' := by
  obtain ⟨ao, cap, rfl, s1, s2, s3, s4⟩ := hs
  have HS : Hid (∀ i (h : i < l.length), ∃ b o, ao = some ⟨b, o, none⟩ ∧ At5 w b (o + i * 5) l[i]) := s4
  have HFT : Hid ((∀ s ∈ l, FitY s) ∧ l.length ≤ 200) := ⟨hfit, hl⟩
  clear s3 s4 hfit
  obtain ⟨N, hN⟩ : ∃ N, N = 2 + ways + (l.length + 1) := ⟨_, rfl⟩
  have hmk := mkRowU N (by omega) w
  obtain ⟨E, hE⟩ : ∃ E, E = 2 + ways := ⟨_, rfl⟩
  have eE : (2 : Int) + (ways : Int) = (E : Int) := by omega
  obtain ⟨L1, hL1⟩ : ∃ E, E = l.length + 1 := ⟨_, rfl⟩
  have eL : (l.length : Int) + 1 = (L1 : Int) := by omega
  have eN : (E : Int) + (L1 : Int) = (N : Int) := by omega
  obtain ⟨W1, hW1⟩ : ∃ z, w.alloc (.cells ((List.replicate N 0).map u32C).toArray 22) = z := ⟨_, rfl⟩
  have r1 : RowU W1 w.heap.size (List.replicate N 0) := by rw [← hW1]; exact RowU.new N w
  have hb1 : Below w.heap.size w W1 := by rw [← hW1]; exact (Below.refl _ _).alloc (Nat.le_refl _) _
  rw [hW1] at hmk
  have c0 := r1.cell 0 0 (by rw [List.getElem?_replicate, if_pos (by omega)])
  have c1 := r1.cell 1 0 (by rw [List.getElem?_replicate, if_pos (by omega)])
  have f0 := r1.frozen 0
  have f1 := r1.frozen 1
  obtain ⟨W2, hW2⟩ : ∃ z, (W1.setCell ⟨w.heap.size, 0, none⟩ (.int .u32 (ways : Int))).setCell ⟨w.heap.size, 1, none⟩ (.int .u32 (L1 : Int)) = z := ⟨_, rfl⟩
  have r2 : RowU W2 w.heap.size (numsAt l ways l.length) := by
    rw [← hW2, ← nums_zero, ← hN, ← hL1]
    exact (r1.set 0 ways).set 1 L1
  have hb2 : Below w.heap.size w W2 := by
    rw [← hW2]
    exact (hb1.setCell (p := ⟨w.heap.size, 0, none⟩) (Nat.le_refl _) _).setCell (p := ⟨w.heap.size, 1, none⟩) (Nat.le_refl _) _
  have H2 : Hid (RowU W2 w.heap.size (numsAt l ways l.length) ∧ Below w.heap.size w W2) := ⟨r2, hb2⟩
  have wi : (ways : Int) % 4294967296 = (ways : Int) := by omega
  have li : (L1 : Int) % 4294967296 = (L1 : Int) := by omega
  have hEN : E ≤ N := by omega
  have h2E : 2 ≤ E := by omega
  have hENi : (E : Int) ≤ (N : Int) := by omega
  have h2Ei : (2 : Int) ≤ (E : Int) := by omega
  have hN0 : 0 < N := by omega
  have hN1 : 1 < N := by omega
  have eF : E - 2 = ways := by omega
  have eX : N - E = L1 := by omega
  have HNN : Hid (N = 2 + ways + (l.length + 1) ∧ E = 2 + ways ∧ L1 = l.length + 1) := ⟨hN, hE, hL1⟩
  have wl : (ways : Int) ≤ 64 := by omega
  have ll : (l.length : Int) ≤ 200 := by omega
  clear r1 r2 hb1 hb2 hN hE hL1 hW1
  go_enter Tryz.func85, Tryz.ntmps85
  go_wp2
  go_quiet (fail)
  go_wp2
  have H3 : Hid (RowU (W2.drewN nq) w.heap.size (numsAt l ways l.length) ∧ Below w.heap.size w (W2.drewN nq)) := ⟨H2.out.1, below_drN H2.out.2 nq⟩
  clear hW2 c0 c1 f0 f1 hmk H2
  generalize W2.drewN nq = W3 at H3 ⊢
  go_loopw [9] (fun x wr => ∃ k : Nat, x = .int .i64 (k : Int) ∧ k ≤ l.length ∧ RowU wr w.heap.size (numsAt l ways k) ∧ Below w.heap.size w wr) (fun x _ => (intOf x).toNat)
  case atStart => exact ⟨l.length, rfl, Nat.le_refl _, H3.out.1, H3.out.2⟩
  case round =>
    obtain ⟨k, rfl, hk, hR, hbr⟩ := hrel
    by_cases h0 : k = 0
    · subst h0
      have hlenN : (numsAt l ways 0).length = N := by rw [nums_len, HNN.out.1]
      obtain ⟨W4, hW4⟩ : ∃ z, wr.alloc (.cells #[.pointer none, .slice none 0 0] 63) = z := ⟨_, rfl⟩
      have HI : Hid (IsB wr.heap.size wr.heap.size [] W4 ∧ Below wr.heap.size wr W4 ∧ wr.heap.size ≤ W4.heap.size) := by
        refine ⟨?_, ?_, ?_⟩
        · rw [← hW4]
          exact Or.inl ⟨Nat.le_refl _, _, World.alloc_heap_new wr _, ⟨rfl, Or.inl ⟨rfl, rfl⟩⟩, by simp [Value.ownBlock]⟩
        · rw [← hW4]; exact (Below.refl _ _).alloc (Nat.le_refl _) _
        · rw [← hW4]; simp
      have HRB : Hid (RowU wr w.heap.size (numsAt l ways 0) ∧ Below w.heap.size w wr) := ⟨hR, hbr⟩
      obtain ⟨xs, hxs⟩ : ∃ xs, xs = numsAt l ways 0 := ⟨_, rfl⟩
      have HXB : Hid ((∀ x ∈ xs, x < 4294967296) ∧ xs.length = N ∧ hashB l ways = xs.flatMap (bN 4) ∧ N ≤ 1000) := by
        refine ⟨?_, by rw [hxs, hlenN], by rw [hxs]; rfl, by have := HNN.out; have := HFT.out.2; omega⟩
        rw [hxs]
        exact nums_lt l ways 0 (by omega) (by omega) (by have := HFT.out.2; omega)
      rw [← hxs] at HRB
      have HK : Hid (∀ x w', x < 4294967296 → Calls Tryz.prog 106 #[.int .u32 ((x : Nat) : Int)] w' fun e w'' => e = .returned (.string ⟨(bN 4 x).toArray⟩) ∧ Below w'.heap.size w' w'') := fun x w' h => word44 x h w'
      clear hR hbr hlenN hxs
      go_wp2
      clear hW4
      generalize wr = wo at HI HRB ⊢
      go_loopw [68] (fun x wr => ∃ k : Nat, x = .int .i64 (k : Int) ∧ k ≤ xs.length ∧ IsB wo.heap.size wo.heap.size ((xs.take k).flatMap (bN 4)) wr ∧ Below wo.heap.size wo wr) (fun x _ => xs.length - (intOf x).toNat)
      case atStart => exact ⟨0, rfl, Nat.zero_le _, HI.out.1, HI.out.2.1⟩
      case round =>
        obtain ⟨k, rfl, hk, hI, hbz⟩ := hrel
        have hxN := HXB.out.2.1
        by_cases hlt : k < xs.length
        · obtain ⟨x, hxx⟩ : ∃ x, x = xs[k] := ⟨_, rfl⟩
          have c0 := keep_cell hbz (HRB.out.1.cell k x (by rw [hxx]; exact List.getElem?_eq_getElem hlt))
          have HT : Hid ((xs.take (k + 1)).flatMap (bN 4) = (xs.take k).flatMap (bN 4) ++ bN 4 x) := by
            show _ = _
            rw [List.take_succ_eq_append_getElem hlt, List.flatMap_append, hxx]
            simp
          have hm := HXB.out.1 x (by rw [hxx]; exact List.getElem_mem hlt)
          have KX := HK.out x wr hm
          have HII : Hid (IsB wo.heap.size wo.heap.size ((xs.take k).flatMap (bN 4)) wr ∧ Below wo.heap.size wo wr) := ⟨hI, hbz⟩
          have hkN : k < N := by omega
          clear hxx hm hI hxN hbz
          go_wp2_with fail
          refine KX.mono ?_
          rintro e w1 ⟨rfl, hb1⟩
          clear c0 KX
          have hszw : wo.heap.size ≤ wr.heap.size := HII.out.2.size
          have hI1 := isB_keep HII.out.1 hb1
          have KW := write41 wo.heap.size wo.heap.size ((xs.take k).flatMap (bN 4)) ⟨(bN 4 x).toArray⟩ w1 hI1 (by
            rw [flat4_len]
            have h1 : (⟨(bN 4 x).toArray⟩ : ByteArray).size = 4 := by show (bN 4 x).toArray.size = 4; simp [bN_len]
            have h2 : (xs.take k).length ≤ 1000 := by have := HXB.out; simp; omega
            rw [h1]; omega) (Nat.le_trans hszw hb1.size)
          rw [bal, ← HT.out] at KW
          have HB1 : Hid (Below wo.heap.size wo w1) := HII.out.2.trans (hb1.mono hszw)
          clear hI1 hb1 hszw
          go_wp2_with fail
          refine KW.mono ?_
          rintro e w2 ⟨rfl, hI2, hb2⟩
          clear KW
          have HE : Hid (IsB wo.heap.size wo.heap.size ((xs.take (k + 1)).flatMap (bN 4)) w2 ∧ Below wo.heap.size wo w2) := ⟨hI2, HB1.out.trans hb2⟩
          clear hI2 hb2 HB1
          go_wp2
          go_roundw
          case rel =>
            refine ⟨_, _, _, _, _, _, _, _, _, ⟨k + 1, ?_, by omega, HE.out.1, HE.out.2⟩, rfl⟩
            go_num
          case measure => simp [intOf]; omega
        · have KS := string43 wo.heap.size wo.heap.size _ wr hI hbz.size
          rw [List.take_of_length_le (by omega), ← HXB.out.2.2.1] at KS
          have HBZ : Hid (Below w.heap.size w wr) := HRB.out.2.trans (hbz.mono HRB.out.2.size)
          have hkN : ¬ k < N := by omega
          clear hI hbz hxN
          go_wp2_with fail
          refine KS.mono ?_
          rintro e w1 ⟨rfl, hb1⟩
          have HB1 : Hid (Below w.heap.size w w1) := HBZ.out.trans (hb1.mono (Nat.le_trans HRB.out.2.size (Nat.le_refl _)))
          clear KS hb1
          go_wp2
          go_ret
          exact ⟨rfl, HB1.out⟩
    · obtain ⟨j, hj⟩ : ∃ j, k = j + 1 := ⟨k - 1, by omega⟩
      have hjl : j < l.length := by omega
      obtain ⟨x, hx1, hx2, hx3⟩ := nums_step l ways j hjl (by omega)
      have hway := way_at l ways j hjl
      rw [← hj] at hx1 hx3 hway
      obtain ⟨Wn, hWn⟩ : ∃ z, z = wayN l ways k := ⟨_, rfl⟩
      rw [← hWn] at hx1 hx3 hway
      have hWlt : Wn < ways := by rw [hway]; exact Nat.mod_lt _ (by omega)
      obtain ⟨b, o, rfl, h7⟩ := HS.out j hjl
      have h7 := h7.keep hbr
      obtain ⟨g, hg⟩ : ∃ g, g = l[j] := ⟨_, rfl⟩
      rw [← hg] at h7 hway
      have hft := HFT.out.1 g (by rw [hg]; exact List.getElem_mem hjl)
      have K14 := hash14 ⟨g.name.toArray⟩ (by show g.name.toArray.size ≤ 1000000; rw [List.size_toArray]; have := hft.2.1; omega) wr
      rw [bal] at K14
      obtain ⟨H, hH⟩ : ∃ H, H = hashL g.name := ⟨_, rfl⟩
      rw [← hH] at K14 hway
      have hHlt : H < 268435456 := by rw [hH]; exact hashL_lt _
      have r0 := h7.1
      have eH : (H : Int) % (ways : Int) = (Wn : Int) := by rw [hway]; exact (Int.natCast_emod _ _).symm
      have eH2 : (H : Int).tmod (ways : Int) = (Wn : Int) := by rw [hway]; exact (Int.ofNat_tmod _ _).symm
      have wne : ¬ (ways : Int) = 0 := by omega
      have ek : (k : Int) - 1 = (j : Int) := by omega
      have ek2 : (k : Int) % 4294967296 = (k : Int) := by omega
      have k0 : (0 : Int) < (k : Int) := by omega
      have kL : k < L1 := by have := HNN.out.2.2; omega
      have kLi : (k : Int) < (L1 : Int) := by omega
      have Wi : (Wn : Int) < (ways : Int) := by omega
      have hNs : (numsAt l ways k).length = N := by rw [nums_len, HNN.out.1]
      have d1 := hR.cell (2 + Wn) x hx1
      obtain ⟨y, hy⟩ : ∃ y, (numsAt l ways k)[E + k]? = some y := ⟨_, List.getElem?_eq_getElem (by rw [hNs]; have := HNN.out; omega)⟩
      have d2 := hR.cell (E + k) y hy
      have f1 := hR.frozen (2 + Wn)
      have f2 := hR.frozen (E + k)
      obtain ⟨W5, hW5⟩ : ∃ z, wr.setCell ⟨w.heap.size, E + k, none⟩ (.int .u32 (x : Int)) = z := ⟨_, rfl⟩
      have r5 : RowU W5 w.heap.size ((numsAt l ways k).set (E + k) x) := by rw [← hW5]; exact hR.set _ _
      have f3 := r5.frozen (2 + Wn)
      have d3 : W5.cell? ⟨w.heap.size, 2 + Wn, none⟩ = some (.int .u32 (x : Int)) := r5.cell (2 + Wn) x (by
        rw [List.getElem?_set_ne (by have := HNN.out; omega)]; exact hx1)
      obtain ⟨W6, hW6⟩ : ∃ z, W5.setCell ⟨w.heap.size, 2 + Wn, none⟩ (.int .u32 (k : Int)) = z := ⟨_, rfl⟩
      have HE : Hid (RowU W6 w.heap.size (numsAt l ways j) ∧ Below w.heap.size w W6) := by
        refine ⟨?_, ?_⟩
        · rw [hx3, ← hW6, ← HNN.out.2.1]
          exact r5.set _ _
        · rw [← hW6, ← hW5]
          exact (hbr.setCell (p := ⟨w.heap.size, E + k, none⟩) (Nat.le_refl _) _).setCell (p := ⟨w.heap.size, 2 + Wn, none⟩) (Nat.le_refl _) _
      have hjL : Hid (j ≤ l.length) := by show _ ≤ _; omega
      have hjk : Hid (k = j + 1) := hj
      clear hR hbr hx1 hx2 hx3 hway hWn h7 hg hft hH hHlt hy hNs r5 hj
      go_wp2_with fail
      refine K14.mono ?_
      rintro e w1 ⟨rfl, rfl⟩
      clear K14
      go_wp2
      go_roundw
      case rel => exact ⟨j, rfl, hjL.out, HE.out.1, HE.out.2⟩
      case measure => have := hjk.out; simp [intOf]; omega
end Go.Proofs.YtgdflobcbhnimaaGreat
namespace Go.Proofs.YtgdflobcbhnimaaGreat
open Go.RowKit
set_option linter.unusedVariables false
set_option linter.unusedSimpArgs false
set_option maxRecDepth 100000
def Tb.val (t : Tb) : Value := .agg #[.string ⟨t.syms.toArray⟩, .string ⟨t.strs.toArray⟩, .string ⟨t.hash.toArray⟩]
def zeroT : Tb := ⟨[], [], []⟩
/-- A table in a block. -/
def T3 (t : Tb) (b : Nat) (w : World) : Prop := w.heap[b]? = some (.cells #[.string ⟨t.syms.toArray⟩, .string ⟨t.strs.toArray⟩, .string ⟨t.hash.toArray⟩] 74 (0, 0))
theorem T3.lt {t : Tb} {b : Nat} {w : World} (h : T3 t b w) : b < w.heap.size := (Array.getElem?_eq_some_iff.1 h).1
theorem T3.cells {t : Tb} {b : Nat} {w : World} (h : T3 t b w) : w.cell? ⟨b, 0, none⟩ = some (.string ⟨t.syms.toArray⟩) ∧ w.cell? ⟨b, 1, none⟩ = some (.string ⟨t.strs.toArray⟩) ∧ w.cell? ⟨b, 2, none⟩ = some (.string ⟨t.hash.toArray⟩) := by
  have h' : w.heap[b]? = _ := h
  refine ⟨?_, ?_, ?_⟩ <;> simp [World.cell?, h']
theorem T3.frozen {t : Tb} {b : Nat} {w : World} (h : T3 t b w) (k : Nat) : w.frozen? ⟨b, k, none⟩ = false := by
  have h' : w.heap[b]? = _ := h
  simp [World.frozen?, h']
theorem T3.row {t : Tb} {b : Nat} {w w' : World} {row : Option Nat} (h : T3 t b w) (hg : w.grownBy w' row) (hr : some b ≠ row) : T3 t b w' := (hg.block b h.lt hr).trans h
theorem T3.keep {t : Tb} {b : Nat} {w w' : World} (h : T3 t b w) (hb : Below w.heap.size w w') : T3 t b w' := (hb.block b h.lt).trans h
theorem T3.new (t : Tb) (w : World) : T3 t w.heap.size (w.alloc (.cells #[.string ⟨t.syms.toArray⟩, .string ⟨t.strs.toArray⟩, .string ⟨t.hash.toArray⟩] 74)) := World.alloc_heap_new w _
def st3 (w : World) (b : Nat) (t : Tb) : World := ((w.setCell ⟨b, 0, none⟩ (.string ⟨t.syms.toArray⟩)).setCell ⟨b, 1, none⟩ (.string ⟨t.strs.toArray⟩)).setCell ⟨b, 2, none⟩ (.string ⟨t.hash.toArray⟩)
theorem st3_in {w : World} {b : Nat} {j : Tb} (h : T3 j b w) (t : Tb) : T3 t b (st3 w b t) := by
  unfold st3
  have h0 := blk_set h 0 (.string ⟨t.syms.toArray⟩)
  have h1 := blk_set h0 1 (.string ⟨t.strs.toArray⟩)
  have h2 := blk_set h1 2 (.string ⟨t.hash.toArray⟩)
  simpa [T3] using h2
theorem st3_grown (w : World) (b : Nat) (t : Tb) : w.grownBy (st3 w b t) (some b) :=
  gb_trans (gb_trans (grown_setk _ b 0 _) (grown_setk _ b 1 _)) (grown_setk _ b 2 _)
/-- A new table, stored. -/
theorem new3 (w : World) (t : Tb) : ∃ V W, w.alloc (.cells #[.string ⟨#[]⟩, .string ⟨#[]⟩, .string ⟨#[]⟩] 74) = V ∧ ((V.setCell ⟨w.heap.size, 0, none⟩ (.string ⟨t.syms.toArray⟩)).setCell ⟨w.heap.size, 1, none⟩ (.string ⟨t.strs.toArray⟩)).setCell ⟨w.heap.size, 2, none⟩ (.string ⟨t.hash.toArray⟩) = W ∧
    (V.cell? ⟨w.heap.size, 0, none⟩ = some (.string ⟨#[]⟩) ∧ V.cell? ⟨w.heap.size, 1, none⟩ = some (.string ⟨#[]⟩) ∧ V.cell? ⟨w.heap.size, 2, none⟩ = some (.string ⟨#[]⟩)) ∧
    (V.frozen? ⟨w.heap.size, 0, none⟩ = false ∧ V.frozen? ⟨w.heap.size, 1, none⟩ = false ∧ V.frozen? ⟨w.heap.size, 2, none⟩ = false) ∧
    T3 t w.heap.size W ∧ Below w.heap.size w W ∧ w.heap.size < W.heap.size := by
  have ev : T3 zeroT w.heap.size (w.alloc (.cells #[.string ⟨#[]⟩, .string ⟨#[]⟩, .string ⟨#[]⟩] 74)) := World.alloc_heap_new w _
  have i := st3_in ev t
  have hb : Below w.heap.size w (w.alloc (.cells #[.string ⟨#[]⟩, .string ⟨#[]⟩, .string ⟨#[]⟩] 74)) := (Below.refl _ _).alloc (Nat.le_refl _) _
  refine ⟨_, _, rfl, rfl, ev.cells, ⟨ev.frozen 0, ev.frozen 1, ev.frozen 2⟩, i, ((hb.setCell (p := ⟨w.heap.size, 0, none⟩) (Nat.le_refl _) _).setCell (p := ⟨w.heap.size, 1, none⟩) (Nat.le_refl _) _).setCell (p := ⟨w.heap.size, 2, none⟩) (Nat.le_refl _) _, i.lt⟩
set_option maxHeartbeats 2000000 in
theorem write18 (l : List Sy) (v : Value) (ways : Int) (w : World) (hs : SlY w v l) (hb : ∀ s ∈ l, s.Bd) (hn : l.length ≤ 1000000) :
    Calls Tryz.prog 58 #[v, .int .i64 ways] w fun e w' => e = .returned ((wrT l ways).val) ∧ Below w.heap.size w w' := by
  obtain ⟨W1, hW1⟩ : ∃ z, w.alloc (.cells #[.string ⟨#[]⟩, .string ⟨#[]⟩, .string ⟨#[]⟩] 74) = z := ⟨_, rfl⟩
  have hb1 : Below w.heap.size w W1 := by rw [← hW1]; exact (Below.refl _ _).alloc (Nat.le_refl _) _
  have HZ : Hid (T3 zeroT w.heap.size W1 ∧ Below w.heap.size w W1) := by rw [← hW1]; exact ⟨T3.new zeroT w, by rw [hW1]; exact hb1⟩
  have K16 := fit16 l v W1 (hs.keep hb1) hn
  have HS : Hid (∀ w', Below w.heap.size w w' → SlY w' v l) := fun w' h => hs.keep h
  have HBD : Hid (∀ s ∈ l, s.Bd) := hb
  obtain ⟨ao, cap, rfl, _⟩ := id hs
  clear hs hb hb1
  cases hf : fitL l with
  | false =>
    have HE : Hid (wrT l ways = zeroT) := by
      show _ = _
      unfold wrT okW
      rw [hf]; rfl
    rw [hf] at K16
    clear hf
    go_enter Tryz.func58, Tryz.ntmps58
    go_wp2_with fail
    refine K16.mono ?_
    rintro e w2 ⟨rfl, hb2⟩
    have zz := HZ.out.1.keep hb2
    have HBX : Hid (Below w.heap.size w w2) := HZ.out.2.trans (hb2.mono HZ.out.2.size)
    clear K16 hW1 hb2
    obtain ⟨q0, q1, q2⟩ := zz.cells
    have f0 := zz.frozen 0
    have f1 := zz.frozen 1
    have f2 := zz.frozen 2
    obtain ⟨W9, hW9⟩ : ∃ z, ((w2.setCell ⟨w.heap.size, 0, none⟩ (.string ⟨#[]⟩)).setCell ⟨w.heap.size, 1, none⟩ (.string ⟨#[]⟩)).setCell ⟨w.heap.size, 2, none⟩ (.string ⟨#[]⟩) = z := ⟨_, rfl⟩
    have g9 := st3_grown w2 w.heap.size zeroT
    have i9 := st3_in zz zeroT
    rw [show st3 w2 w.heap.size zeroT = W9 from hW9] at g9 i9
    have hc9 : W9.cell? ⟨w.heap.size, 0, none⟩ = some (.string ⟨#[]⟩) ∧ W9.cell? ⟨w.heap.size, 1, none⟩ = some (.string ⟨#[]⟩) ∧ W9.cell? ⟨w.heap.size, 2, none⟩ = some (.string ⟨#[]⟩) := i9.cells
    obtain ⟨s0, s1, s2⟩ := hc9
    have HB9 : Hid (Below w.heap.size w W9) := HBX.out.grown g9 HBX.out.size (fun k e => by injection e with e; omega)
    clear zz g9 i9
    go_wp2
    refine bodyPost_ret (v := .agg #[.string ⟨#[]⟩, .string ⟨#[]⟩, .string ⟨#[]⟩]) ?_ rfl ?_
    · rw [results_cell1 rfl]; simp [go_sem, s0, s1, s2]
    · exact ⟨by rw [HE.out]; rfl, HB9.out⟩
  | true =>
    rw [hf] at K16
    have HFT : Hid ((∀ s ∈ l, FitY s) ∧ l.length ≤ 200 ∧ fitL l = true) := ⟨(fitL_parts hf).2, (fitL_parts hf).1, hf⟩
    clear hf
    by_cases h1 : ways < 1
    · have d1 := decide_eq_true h1
      have HE : Hid (wrT l ways = zeroT) := by
        show _ = _
        unfold wrT okW
        rw [decide_eq_false (by omega), Bool.and_false]; rfl
      go_enter Tryz.func58, Tryz.ntmps58
      go_wp2_with fail
      refine K16.mono ?_
      rintro e w2 ⟨rfl, hb2⟩
      have zz := HZ.out.1.keep hb2
      have HBX : Hid (Below w.heap.size w w2) := HZ.out.2.trans (hb2.mono HZ.out.2.size)
      clear K16 hW1 hb2
      obtain ⟨q0, q1, q2⟩ := zz.cells
      have f0 := zz.frozen 0
      have f1 := zz.frozen 1
      have f2 := zz.frozen 2
      obtain ⟨W9, hW9⟩ : ∃ z, ((w2.setCell ⟨w.heap.size, 0, none⟩ (.string ⟨#[]⟩)).setCell ⟨w.heap.size, 1, none⟩ (.string ⟨#[]⟩)).setCell ⟨w.heap.size, 2, none⟩ (.string ⟨#[]⟩) = z := ⟨_, rfl⟩
      have g9 := st3_grown w2 w.heap.size zeroT
      have i9 := st3_in zz zeroT
      rw [show st3 w2 w.heap.size zeroT = W9 from hW9] at g9 i9
      have hc9 : W9.cell? ⟨w.heap.size, 0, none⟩ = some (.string ⟨#[]⟩) ∧ W9.cell? ⟨w.heap.size, 1, none⟩ = some (.string ⟨#[]⟩) ∧ W9.cell? ⟨w.heap.size, 2, none⟩ = some (.string ⟨#[]⟩) := i9.cells
      obtain ⟨s0, s1, s2⟩ := hc9
      have HB9 : Hid (Below w.heap.size w W9) := HBX.out.grown g9 HBX.out.size (fun k e => by injection e with e; omega)
      clear zz g9 i9
      go_wp2
      refine bodyPost_ret (v := .agg #[.string ⟨#[]⟩, .string ⟨#[]⟩, .string ⟨#[]⟩]) ?_ rfl ?_
      · rw [results_cell1 rfl]; simp [go_sem, s0, s1, s2]
      · exact ⟨by rw [HE.out]; rfl, HB9.out⟩
    · have d1 := decide_eq_false h1
      by_cases h2 : 64 < ways
      · have d2 := decide_eq_true h2
        have HE : Hid (wrT l ways = zeroT) := by
          show _ = _
          unfold wrT okW
          rw [decide_eq_false (by omega), Bool.and_false]; rfl
        go_enter Tryz.func58, Tryz.ntmps58
        go_wp2_with fail
        refine K16.mono ?_
        rintro e w2 ⟨rfl, hb2⟩
        have zz := HZ.out.1.keep hb2
        have HBX : Hid (Below w.heap.size w w2) := HZ.out.2.trans (hb2.mono HZ.out.2.size)
        clear K16 hW1 hb2
        obtain ⟨q0, q1, q2⟩ := zz.cells
        have f0 := zz.frozen 0
        have f1 := zz.frozen 1
        have f2 := zz.frozen 2
        obtain ⟨W9, hW9⟩ : ∃ z, ((w2.setCell ⟨w.heap.size, 0, none⟩ (.string ⟨#[]⟩)).setCell ⟨w.heap.size, 1, none⟩ (.string ⟨#[]⟩)).setCell ⟨w.heap.size, 2, none⟩ (.string ⟨#[]⟩) = z := ⟨_, rfl⟩
        have g9 := st3_grown w2 w.heap.size zeroT
        have i9 := st3_in zz zeroT
        rw [show st3 w2 w.heap.size zeroT = W9 from hW9] at g9 i9
        have hc9 : W9.cell? ⟨w.heap.size, 0, none⟩ = some (.string ⟨#[]⟩) ∧ W9.cell? ⟨w.heap.size, 1, none⟩ = some (.string ⟨#[]⟩) ∧ W9.cell? ⟨w.heap.size, 2, none⟩ = some (.string ⟨#[]⟩) := i9.cells
        obtain ⟨s0, s1, s2⟩ := hc9
        have HB9 : Hid (Below w.heap.size w W9) := HBX.out.grown g9 HBX.out.size (fun k e => by injection e with e; omega)
        clear zz g9 i9
        go_wp2
        refine bodyPost_ret (v := .agg #[.string ⟨#[]⟩, .string ⟨#[]⟩, .string ⟨#[]⟩]) ?_ rfl ?_
        · rw [results_cell1 rfl]; simp [go_sem, s0, s1, s2]
        · exact ⟨by rw [HE.out]; rfl, HB9.out⟩
      · have d2 := decide_eq_false h2
        obtain ⟨wn, rfl⟩ := Int.eq_ofNat_of_zero_le (show 0 ≤ ways by omega)
        have HE : Hid (wrT l (wn : Int) = ⟨symsL l, strsL l, hashB l wn⟩) := by
          show _ = _
          unfold wrT okW
          rw [HFT.out.2.2, decide_eq_true (by omega)]; rfl
        have K29 : Hid (∀ w', Below w.heap.size w w' → Calls Tryz.prog 84 #[.slice ao l.length cap] w' fun e w'' => e = .returned (.tuple #[.string ⟨(symsL l).toArray⟩, .string ⟨(strsL l).toArray⟩]) ∧ Below w'.heap.size w' w'') := fun w' h => rows29 l _ w' (HS.out w' h) HBD.out HFT.out.1 HFT.out.2.1
        have K30 : Hid (∀ w', Below w.heap.size w w' → Calls Tryz.prog 85 #[.slice ao l.length cap, .int .i64 (wn : Int)] w' fun e w'' => e = .returned (.string ⟨(hashB l wn).toArray⟩) ∧ Below w'.heap.size w' w'') := fun w' h => chains30 l _ wn w' (HS.out w' h) HFT.out.1 HFT.out.2.1 (by omega) (by omega)
        obtain ⟨TT, hTT⟩ : ∃ t : Tb, t = ⟨symsL l, strsL l, hashB l wn⟩ := ⟨_, rfl⟩
        rw [← hTT] at HE
        have hs1 : symsL l = TT.syms := by rw [hTT]
        have hs2 : strsL l = TT.strs := by rw [hTT]
        have hs3 : hashB l wn = TT.hash := by rw [hTT]
        rw [hs1, hs2] at K29
        rw [hs3] at K30
        clear hTT hs1 hs2 hs3
        go_enter Tryz.func58, Tryz.ntmps58
        go_wp2_with fail
        refine K16.mono ?_
        rintro e w2 ⟨rfl, hb2⟩
        have H2 : Hid (T3 zeroT w.heap.size w2 ∧ Below w.heap.size w w2) := ⟨HZ.out.1.keep hb2, HZ.out.2.trans (hb2.mono HZ.out.2.size)⟩
        clear K16 hW1 hb2 HZ
        go_wp2_with fail
        refine (K29.out w2 H2.out.2).mono ?_
        rintro e w3 ⟨rfl, hb3⟩
        have H3 : Hid (T3 zeroT w.heap.size w3 ∧ Below w.heap.size w w3) := ⟨H2.out.1.keep hb3, H2.out.2.trans (hb3.mono H2.out.2.size)⟩
        clear hb3 H2
        go_wp2_with fail
        refine (K30.out w3 H3.out.2).mono ?_
        rintro e w4 ⟨rfl, hb4⟩
        have zz := H3.out.1.keep hb4
        have HBX : Hid (Below w.heap.size w w4) := H3.out.2.trans (hb4.mono H3.out.2.size)
        clear hb4 H3
        obtain ⟨q0, q1, q2⟩ := zz.cells
        have f0 := zz.frozen 0
        have f1 := zz.frozen 1
        have f2 := zz.frozen 2
        obtain ⟨W9, hW9⟩ : ∃ z, ((w4.setCell ⟨w.heap.size, 0, none⟩ (.string ⟨TT.syms.toArray⟩)).setCell ⟨w.heap.size, 1, none⟩ (.string ⟨TT.strs.toArray⟩)).setCell ⟨w.heap.size, 2, none⟩ (.string ⟨TT.hash.toArray⟩) = z := ⟨_, rfl⟩
        have g9 := st3_grown w4 w.heap.size TT
        have i9 := st3_in zz TT
        rw [show st3 w4 w.heap.size TT = W9 from hW9] at g9 i9
        have hc9 : W9.cell? ⟨w.heap.size, 0, none⟩ = some (.string ⟨TT.syms.toArray⟩) ∧ W9.cell? ⟨w.heap.size, 1, none⟩ = some (.string ⟨TT.strs.toArray⟩) ∧ W9.cell? ⟨w.heap.size, 2, none⟩ = some (.string ⟨TT.hash.toArray⟩) := i9.cells
        obtain ⟨s0, s1, s2⟩ := hc9
        have HB9 : Hid (Below w.heap.size w W9) := HBX.out.grown g9 HBX.out.size (fun k e => by injection e with e; omega)
        clear zz g9 i9
        go_wp2
        refine bodyPost_ret (v := .agg #[.string ⟨TT.syms.toArray⟩, .string ⟨TT.strs.toArray⟩, .string ⟨TT.hash.toArray⟩]) ?_ rfl ?_
        · rw [results_cell1 rfl]; simp [go_sem, s0, s1, s2]
        · exact ⟨by rw [HE.out]; rfl, HB9.out⟩
end Go.Proofs.YtgdflobcbhnimaaGreat
