/- What is proved here: the document's bytes. -/
import Derived.Test.YtdhjmghfiodifaaGro
namespace Go.Proofs.Ytdhjmghfiodifaa
open Go.RowKit
set_option linter.unusedVariables false
set_option linter.unusedSimpArgs false
set_option maxRecDepth 100000
open Go.Proofs.Ytdhjmghfiodifaa.W (byteC RowAt zeroRow conv_row)
def rowP (cs : List (Nat × Int)) (p n k : Nat) : List Value := (byL cs p k).map byteC ++ List.replicate (n - k) (.int .u8 0)
theorem rowP_len (cs : List (Nat × Int)) (p n k : Nat) (h : k ≤ n) : (rowP cs p n k).length = n := by simp [rowP, byL_length]; omega
theorem byL_snoc (cs : List (Nat × Int)) (p k : Nat) : byL cs p (k + 1) = byL cs p k ++ [UInt8.ofNat (peekN cs (p + k))] := by
  unfold byL
  rw [List.range_succ, List.map_append]
  rfl
theorem rowP_set (cs : List (Nat × Int)) (p n k : Nat) (h : k < n) : (rowP cs p n k).set k (.int .u8 ((peekN cs (p + k) : Nat) : Int)) = rowP cs p n (k + 1) := by
  obtain ⟨r, hr⟩ : ∃ r, n - k = r + 1 := ⟨n - k - 1, by omega⟩
  have h1 : n - (k + 1) = r := by omega
  rw [rowP, rowP, hr, h1, List.replicate_succ, List.set_append_right _ _ (by simp [byL_length])]
  have hl := peekN_lt cs (p + k)
  simp [byL_length, byL_snoc, byteC, Nat.mod_eq_of_lt hl]
theorem mkRowP (n : Nat) (hn : n ≤ 65536) (w : World) : (Instr.makeSlice 94 (.int .i64 (n : Int)) (.int .i64 (n : Int))).run Try.prog w = .ok (.slice (some ⟨w.heap.size, 0, none⟩) n n) (w.alloc (.cells (zeroRow n).toArray 5)) := by
  have h := run_make_row' (P := Try.prog) 94 5 (.int .u8 0) 1 Try.underlying94 (by kernel_rfl) rfl .i64 .i64 n (by omega) (by omega) w
  rw [h]
  have e : madeCells #[.int .u8 0] n = (zeroRow n).toArray := by
    apply Array.ext
    · simp [size_madeCells, zeroRow]
    · intro i h1 h2
      simp [madeCells, zeroRow, Nat.mod_one]
  rw [e]
theorem rowAt_keep {w w' : World} {B : Nat} {l : List Value} (h : RowAt w B l) (hb : Below w.heap.size w w') : RowAt w' B l := (hb.block B (Array.getElem?_eq_some_iff.1 h).1).trans h
set_option maxHeartbeats 2000000 in
theorem rpeek33 (vm vc vp : Value) (bs a n : Nat) (cs : List (Nat × Int)) (w : World) (hm : ∃ a n p, vm = .slice a n p) (hc : Sl .u64 w vc cs) (hp : ∃ a n p, vp = .slice a n p) (hw : Words cs) (hbs : bs ≤ 4611686018427387904) (ha : a < 4294967296) (hn : n ≤ 65536) :
    Calls Try.prog 33 #[.agg #[vm, vc, .int .u64 (bs : Int), vp], .int .u32 (a : Int), .int .i64 (n : Int)] w fun e w' => e = .returned (.string ⟨(byL cs (bs + a) n).toArray⟩) ∧ Below w.heap.size w w' := by
  obtain ⟨nc, hnc⟩ : ∃ z, z = cs.length := ⟨_, rfl⟩
  obtain ⟨ac, pc, rfl, _⟩ := id hc
  obtain ⟨am, nm, pm, rfl⟩ := hm
  obtain ⟨ap, np, pp, rfl⟩ := hp
  rw [← hnc] at hc ⊢
  obtain ⟨X, hX⟩ : ∃ z, w.alloc (.cells #[.slice am nm pm, .slice ac nc pc, .int .u64 (bs : Int), .slice ap np pp] 29) = z := ⟨_, rfl⟩
  have D0 : B4 X w.heap.size 29 (.slice am nm pm) (.slice ac nc pc) (.int .u64 (bs : Int)) (.slice ap np pp) := by rw [← hX]; exact B4.new w 29 _ _ _ _
  have hb : Below w.heap.size w X := by rw [← hX]; exact (Below.refl _ _).alloc (Nat.le_refl _) _
  have hmk := mkRowP n hn X
  obtain ⟨Y, hY⟩ : ∃ z, X.alloc (.cells (zeroRow n).toArray 5) = z := ⟨_, rfl⟩
  have R0 : RowAt Y X.heap.size (rowP cs (bs + a) n 0) := by
    rw [← hY]
    have := World.alloc_heap_new X (.cells (zeroRow n).toArray 5)
    simpa [RowAt, rowP, byL, zeroRow] using this
  have hbY : Below X.heap.size X Y := by rw [← hY]; exact (Below.refl _ _).alloc (Nat.le_refl _) _
  have D1 := D0.keep hbY
  have hlt := D0.lt
  obtain ⟨nG, hnG⟩ : ∃ z, w.heap.size = z := ⟨_, rfl⟩
  obtain ⟨nB, hnB⟩ : ∃ z, X.heap.size = z := ⟨_, rfl⟩
  rw [hY, hnB] at hmk
  rw [hnB] at R0
  rw [hnG] at D1
  obtain ⟨p, hpp⟩ : ∃ z, z = bs + a := ⟨_, rfl⟩
  have KPL : Hid (∀ w', Calls Try.prog 26 #[.agg #[.slice am nm pm, .slice ac nc pc, .int .u64 (bs : Int), .slice ap np pp], .int .u32 (a : Int)] w' fun e w'' => e = .returned (.int .u64 (p : Int)) ∧ Below w'.heap.size w' w'') := fun w' => by
    rw [hpp]
    exact rplace17 _ _ _ bs a hbs ha w' ⟨_, _, _, rfl⟩ ⟨_, _, _, rfl⟩ ⟨_, _, _, rfl⟩
  have KP0 : Hid (∀ (q : Nat) w', Below w.heap.size w w' → q < 18446744073709551616 → Calls Try.prog 27 #[.agg #[.slice am nm pm, .slice ac nc pc], .int .u64 (q : Int)] w' fun e w'' => e = .returned (.int .u8 ((peekN cs q : Nat) : Int)) ∧ Below w'.heap.size w' w'') := fun q w' hb' hq => peek26 _ _ cs q w' ⟨_, _, _, rfl⟩ (hc.keep hb') hw hq
  have hps : p < 9223372036854775808 := by omega
  rw [← hpp] at R0 ⊢
  have HB : Hid (Below w.heap.size w Y ∧ nG < nB ∧ w.heap.size = nG) := ⟨below_tr hb hbY, by omega, hnG⟩
  have hnn : (n : Int) ≤ 65536 := by omega
  clear hc hnc hb hbY D0 hpp hlt hw
  go_enter Try.func33, Try.ntmps33
  go_wp2
  go_loopw [8] (fun i wr => ∃ k : Nat, k ≤ n ∧ i = .int .i64 (k : Int) ∧ RowAt wr nB (rowP cs p n k) ∧ B4 wr nG 29 (.slice am nm pm) (.slice ac nc pc) (.int .u64 (bs : Int)) (.slice ap np pp) ∧ Below w.heap.size w wr) (fun i _ => n - (intOf i).toNat)
  case atStart => exact ⟨0, Nat.zero_le _, rfl, R0, D1, HB.out.1⟩
  case round =>
    obtain ⟨k, hk, rfl, hR0, hD, hbr⟩ := hrel
    obtain ⟨c0, c1, c2, c3⟩ := hD.cells
    have HD : Hid (B4 wr nG 29 (.slice am nm pm) (.slice ac nc pc) (.int .u64 (bs : Int)) (.slice ap np pp)) := hD
    have HRO : Hid (RowAt wr nB (rowP cs p n k)) := hR0
    have HBR : Hid (Below w.heap.size w wr) := hbr
    clear hD
    by_cases hkl : k < n
    · have wk : IntKind.u64.wrap (k : Int) = (k : Int) := by rw [IntKind.wrap_u64]; omega
      obtain ⟨pk, hpk⟩ : ∃ z, z = p + k := ⟨_, rfl⟩
      have ws : IntKind.u64.wrap ((p : Int) + (k : Int)) = (pk : Int) := by rw [IntKind.wrap_u64]; omega
      have hkI : (k : Int) < (n : Int) := by omega
      obtain ⟨bt, hbt⟩ : ∃ z, z = peekN cs pk := ⟨_, rfl⟩
      have KP : Hid (∀ w', Below wr.heap.size wr w' → Calls Try.prog 27 #[.agg #[.slice am nm pm, .slice ac nc pc], .int .u64 (pk : Int)] w' fun e w'' => e = .returned (.int .u8 (bt : Int)) ∧ Below w'.heap.size w' w'') := fun w' hb' => by
        rw [hbt]
        exact KP0.out pk w' (below_tr HBR.out hb') (by omega)
      have HSET : Hid (∀ l : List Value, l = rowP cs p n k → l.set k (.int .u8 (bt : Int)) = rowP cs p n (k + 1)) := fun l e => by rw [e, hbt, hpk]; exact rowP_set cs p n k hkl
      clear hbt hpk hR0 hbr
      go_wp2
      refine wp_region_slots_last (R := Ext) [⟨16, fun v _ => v = .slice (some ⟨nB, 0, none⟩) n n, fun _ _ _ _ h => h⟩, ⟨17, fun v _ => v = .int .i64 (k : Int), fun _ _ _ _ h => h⟩, ⟨18, fun v _ => v = .pointer (some ⟨nG, 0, none⟩), fun _ _ _ _ h => h⟩, ⟨19, fun v _ => v = .agg #[.slice am nm pm, .slice ac nc pc], fun _ _ _ _ h => h⟩, ⟨20, fun v _ => v = .agg #[.slice am nm pm, .slice ac nc pc, .int .u64 (bs : Int), .slice ap np pp], fun _ _ _ _ h => h⟩, ⟨21, fun v _ => v = .int .u32 (a : Int), fun _ _ _ _ h => h⟩, ⟨22, fun v _ => v = .int .u64 (p : Int), fun _ _ _ _ h => h⟩, ⟨23, fun v _ => v = .int .i64 (k : Int), fun _ _ _ _ h => h⟩, ⟨24, fun v _ => v = .int .u64 (k : Int), fun _ _ _ _ h => h⟩, ⟨25, fun v _ => v = .int .u64 (pk : Int), fun _ _ _ _ h => h⟩, ⟨26, fun v _ => v = .int .u8 (bt : Int), fun _ _ _ _ h => h⟩, ⟨27, fun v _ => v = .pointer (some ⟨nB, k, none⟩), fun _ _ _ _ h => h⟩] _ 12 _ (by kernel_rfl) rfl (by kernel_rfl) rfl rfl rfl rfl (by kernel_rfl) (Below.drew (Below.refl _ _)) (fun _ _ _ h1 h2 => below_tr h1 h2) (fun QQ => ⟨?_, ?_, ?_, ?_, ?_, ?_, ?_, ?_, ?_, ?_, ?_, ?_, trivial⟩) (fun f wy hR hf A hA K hK => ?_)
      · intro A wx hR hout hdep K hK
        have h7 : A.tmps[7]?.getD undef = .slice (some ⟨nB, 0, none⟩) n n := hout 7 (by kernel_rfl)
        refine if_yes (by kernel_rfl) ?_
        simp [go_sem, h7, wk, ws, hkl, hkI]
        exact hK.out _ _ (Below.refl _ _) rfl
      · intro A wx hR hout hdep K hK
        have h8 : A.tmps[8]?.getD undef = .int .i64 (k : Int) := hout 8 (by kernel_rfl)
        refine if_yes (by kernel_rfl) ?_
        simp [go_sem, h8, wk, ws, hkl, hkI]
        exact hK.out _ _ (Below.refl _ _) rfl
      · intro A wx hR hout hdep K hK
        have h3 : A.tmps[3]?.getD undef = .pointer (some ⟨nG, 0, none⟩) := hout 3 (by kernel_rfl)
        refine if_yes (by kernel_rfl) ?_
        simp [go_sem, h3, wk, ws, hkl, hkI]
        exact hK.out _ _ (Below.refl _ _) rfl
      · intro A wx hR hout hdep K hK
        have h18 : A.tmps[18]?.getD undef = .pointer (some ⟨nG, 0, none⟩) := hdep 18 (by kernel_rfl)
        refine if_yes (by kernel_rfl) ?_
        have c0 := keep_cell hR c0
        have c1 := keep_cell hR c1
        have c2 := keep_cell hR c2
        have c3 := keep_cell hR c3
        simp [go_sem, h18, c0, c1, c2, c3, wk, ws, hkl, hkI]
        exact hK.out _ _ (Below.refl _ _) rfl
      · intro A wx hR hout hdep K hK
        have h3 : A.tmps[3]?.getD undef = .pointer (some ⟨nG, 0, none⟩) := hout 3 (by kernel_rfl)
        refine if_yes (by kernel_rfl) ?_
        have c0 := keep_cell hR c0
        have c1 := keep_cell hR c1
        have c2 := keep_cell hR c2
        have c3 := keep_cell hR c3
        simp [go_sem, h3, c0, c1, c2, c3, wk, ws, hkl, hkI]
        exact hK.out _ _ (Below.refl _ _) rfl
      · intro A wx hR hout hdep K hK
        have h1 : A.tmps[1]?.getD undef = .int .u32 (a : Int) := hout 1 (by kernel_rfl)
        refine if_yes (by kernel_rfl) ?_
        simp [go_sem, h1, wk, ws, hkl, hkI]
        exact hK.out _ _ (Below.refl _ _) rfl
      · intro A wx hR hout hdep K hK
        have h20 : A.tmps[20]?.getD undef = .agg #[.slice am nm pm, .slice ac nc pc, .int .u64 (bs : Int), .slice ap np pp] := hdep 20 (by kernel_rfl)
        have h21 : A.tmps[21]?.getD undef = .int .u32 (a : Int) := hdep 21 (by kernel_rfl)
        refine if_yes (by kernel_rfl) ?_
        simp [go_sem, h20, h21, wk, ws, hkl, hkI]
        refine (KPL.out _).mono ?_
        rintro e wG ⟨rfl, hbG⟩
        exact hK.out _ _ hbG rfl
      · intro A wx hR hout hdep K hK
        have h8 : A.tmps[8]?.getD undef = .int .i64 (k : Int) := hout 8 (by kernel_rfl)
        refine if_yes (by kernel_rfl) ?_
        simp [go_sem, h8, wk, ws, hkl, hkI]
        exact hK.out _ _ (Below.refl _ _) rfl
      · intro A wx hR hout hdep K hK
        have h23 : A.tmps[23]?.getD undef = .int .i64 (k : Int) := hdep 23 (by kernel_rfl)
        refine if_yes (by kernel_rfl) ?_
        simp [go_sem, h23, wk, ws, hkl, hkI]
        exact hK.out _ _ (Below.refl _ _) rfl
      · intro A wx hR hout hdep K hK
        have h22 : A.tmps[22]?.getD undef = .int .u64 (p : Int) := hdep 22 (by kernel_rfl)
        have h24 : A.tmps[24]?.getD undef = .int .u64 (k : Int) := hdep 24 (by kernel_rfl)
        refine if_yes (by kernel_rfl) ?_
        simp [go_sem, h22, h24, wk, ws, hkl, hkI]
        exact hK.out _ _ (Below.refl _ _) rfl
      · intro A wx hR hout hdep K hK
        have h19 : A.tmps[19]?.getD undef = .agg #[.slice am nm pm, .slice ac nc pc] := hdep 19 (by kernel_rfl)
        have h25 : A.tmps[25]?.getD undef = .int .u64 (pk : Int) := hdep 25 (by kernel_rfl)
        refine if_yes (by kernel_rfl) ?_
        simp [go_sem, h19, h25, wk, ws, hkl, hkI]
        refine (KP.out _ hR).mono ?_
        rintro e wG ⟨rfl, hbG⟩
        exact hK.out _ _ hbG rfl
      · intro A wx hR hout hdep K hK
        have h16 : A.tmps[16]?.getD undef = .slice (some ⟨nB, 0, none⟩) n n := hdep 16 (by kernel_rfl)
        have h17 : A.tmps[17]?.getD undef = .int .i64 (k : Int) := hdep 17 (by kernel_rfl)
        refine if_yes (by kernel_rfl) ?_
        simp [go_sem, h16, h17, wk, ws, hkl, hkI]
        exact hK.out _ _ (Below.refl _ _) rfl
      have hv26 : f 26 = .int .u8 (bt : Int) := hf 26 (by kernel_rfl)
      have hv27 : f 27 = .pointer (some ⟨nB, k, none⟩) := hf 27 (by kernel_rfl)
      simp only [putSl, List.take_succ_cons, List.take_zero, Act.put, List.setIfInBounds_toArray, List.set_cons_zero, List.set_cons_succ, hv26, hv27] at hA
      subst hA
      have hRy := rowAt_keep HRO.out hR
      have hDy : B4 wy nG 29 (.slice am nm pm) (.slice ac nc pc) (.int .u64 (bs : Int)) (.slice ap np pp) := HD.out.keep hR
      have q0 := hRy.cell k (by rw [rowP_len _ _ _ _ hk]; exact hkl)
      have q1 := hRy.frozen k
      have HE : Hid (RowAt (wy.setCell ⟨nB, k, none⟩ (.int .u8 (bt : Int))) nB (rowP cs p n (k + 1)) ∧ B4 (wy.setCell ⟨nB, k, none⟩ (.int .u8 (bt : Int))) nG 29 (.slice am nm pm) (.slice ac nc pc) (.int .u64 (bs : Int)) (.slice ap np pp) ∧ Below w.heap.size w (wy.setCell ⟨nB, k, none⟩ (.int .u8 (bt : Int)))) := by
        refine ⟨?_, hDy.by (set1_by _ nB k _) (by have := HB.out.2.1; omega), (below_tr HBR.out hR).setCell (by have := HB.out.2.1; have := HB.out.2.2; simp; omega) _⟩
        rw [← HSET.out _ rfl]
        exact hRy.set k _
      clear hRy hDy hv26 hv27 hf HSET KP HD HRO HBR c0 c1 c2 c3 hR
      go_simp
      refine hK.out _ _ ?_
      clear hK K
      go_wp2
      go_roundw
      case rel => exact ⟨k + 1, by omega, by go_num, HE.out.1, HE.out.2.1, HE.out.2.2⟩
      case measure => simp [intOf]; omega
    · obtain rfl : k = n := by omega
      have hconv := conv_row wr nB k (byL cs p k) (by simpa [rowP] using HRO.out)
      rw [byL_length] at hconv
      clear hR0
      go_wp2
      go_ret
      exact ⟨rfl, hbr⟩
end Go.Proofs.Ytdhjmghfiodifaa
