/- What is proved here: a library's file. -/
import Derived.Test.YtgdflobcbhnimaaGreatPkq
import Derived.Test.YtgdflobcbhnimaaGreatPkT
import Derived.Test.YtgdflobcbhnimaaGreatNl
import Derived.Test.YtgdflobcbhnimaaGreatEach
namespace Go.Proofs.YtgdflobcbhnimaaGreat
open Go.RowKit 
set_option linter.unusedVariables false
set_option linter.unusedSimpArgs false
set_option maxRecDepth 100000
theorem isB_v {B b : Nat} {l : L8} {w : World} (h : IsB B b l w) : ∃ v, IsV B b l v w := by
  rcases h with ⟨h1, v, h2, h3, h4⟩ | ⟨h1, v, h2, h3, h4⟩
  · exact ⟨v, h1, ⟨_, Or.inl rfl, h2⟩, by simpa [Lib.byteCells] using h3, h4⟩
  · exact ⟨v, h1, ⟨_, Or.inr rfl, h2⟩, by simpa [Lib.byteCells] using h3, h4⟩
theorem len30 (B b : Nat) (l : L8) (w : World) (h : IsB B b l w) (hl : l.length ≤ 1000000000) : Calls Tryz.prog 30 #[.pointer (some ⟨b, 0, none⟩)] w fun e w' => e = .returned (.int .i64 (l.length : Int)) ∧ w' = w := by
  obtain ⟨v, hv⟩ := isB_v h
  exact len42 B b l v w hv hl
theorem lay_part {l : Lb} (h : FitP l) (p : Nat) : (l.lay.part p).length = l.sz p := by
  rw [part_len (lay_ok h) p]
  exact (part_len (zero_ok h) p).symm
theorem fil_len {l : Lb} (h : FitP l) : ∀ k, k ≤ 10 → (filN l.lay k).length = endN l.sz k
  | 0, _ => rfl
  | k + 1, hk => by
    have ih := fil_len h k (by omega)
    have ha : l.lay.at_ k = atN l.sz k := by show (if k < 10 then atN l.sz k else 0) = _; rw [if_pos (by omega)]
    have he := atN_end l.sz k
    have hu : endN l.sz k ≤ atN l.sz k := by rw [he]; unfold up8; omega
    show (filN l.lay k ++ (List.replicate (l.lay.at_ k - (filN l.lay k).length) 0 ++ l.lay.part k)).length = atN l.sz k + l.sz k
    rw [List.length_append, List.length_append, List.length_replicate, ih, ha, lay_part h]
    omega
set_option maxHeartbeats 8000000 in
theorem file13 (l : Lb) (q : Lv) (w : World) (hf : FitP l) (hv : LvIs l q w) (hbd : l.Bd) (K9 : ∀ w', Below w.heap.size w w' → Calls Tryz.prog 9 #[l.val q] w' fun e w'' => e = .returned (.bool true) ∧ Below w'.heap.size w' w'') :
    Calls Tryz.prog 13 #[l.val q] w fun e w' => e = .returned (.string ⟨l.file.toArray⟩) ∧ Below w.heap.size w w' := by
  obtain ⟨W1, hW1, b1, n1, s1⟩ := box14 l q w
  have HS2 : Hid (Below w.heap.size w W1 ∧ BL l q w.heap.size W1 ∧ FitP l ∧ LvIs l q w ∧ l.Bd ∧ w.heap.size < W1.heap.size) := ⟨b1, n1, hf, hv, hbd, by omega⟩
  obtain ⟨LC, hLC⟩ : ∃ z : Array Value, z = (l.cells q).toArray := ⟨_, rfl⟩
  obtain ⟨YC, hYC⟩ : ∃ z : Array Value, z = (l.lay.cells q).toArray := ⟨_, rfl⟩
  have hval : l.val q = .agg LC := by rw [hLC]; rfl
  rw [hval] at K9 ⊢
  rw [← hLC] at hW1
  have HYC : Hid (YC = (l.lay.cells q).toArray) := hYC
  have hyc : (Tryz.prog.info? 54).map (·.size) = some YC.size ∧ YC.size = 34 ∧ YC.all (·.oneCell') = true := ⟨by rw [hYC]; rfl, by rw [hYC]; rfl, by rw [hYC]; exact cells_one hv l.lay rfl⟩
  have hlc : (Tryz.prog.info? 28).map (·.size) = some LC.size := by rw [hLC]; rfl
  have K9' := K9 W1 b1
  have HBL : Hid (∀ w', BL l q w.heap.size w' → w'.heap[w.heap.size]? = some (.cells LC 28 (0, 0))) := fun w' h => by rw [hLC]; exact h
  have l1 : W1.heap[w.heap.size]? = some (.cells LC 28 (0, 0)) := HBL.out W1 n1
  have HLS : Hid (LC = (l.cells q).toArray ∧ l.val q = .agg LC) := ⟨hLC, hval⟩
  clear hf hv hbd b1 n1 hLC hYC hval K9
  go_enter Tryz.func13, Tryz.ntmps13
  go_upto_region 1 with fail
  refine wp_region_list ?_
  refine wpList_load_row rfl 28 (.tmp 1) rfl w.heap.size (by simp [Act.eval]) 28 LC (0, 0) _ l1 (by rfl) (by rfl) hlc ?_
  simp only [Act.put, List.setIfInBounds_toArray, List.set_cons_zero, List.set_cons_succ]
  refine wpList_callC rfl 9 #[.agg LC] (fun v w' => v = .bool true ∧ Below W1.heap.size W1 w') (by simp [Act.eval, go_sem]) (K9'.mono (fun e w' h => ⟨_, h.1, rfl, h.2⟩)) ?_
  rintro v w2 ⟨rfl, hb2⟩
  simp only [Act.put, List.setIfInBounds_toArray, List.set_cons_zero, List.set_cons_succ]
  refine Go.Great.wpList_runTo rfl (some 9) rfl (.bool false) w2 (by simp [Act.eval, go_sem]) ?_
  simp only [Act.put, List.setIfInBounds_toArray, List.set_cons_zero, List.set_cons_succ]
  refine wpList_nil ?_
  have H2 : Hid (Below w.heap.size w w2 ∧ BL l q w.heap.size w2 ∧ w.heap.size < w2.heap.size) := ⟨below_tr HS2.out.1 hb2, HS2.out.2.1.keep hb2, Nat.lt_of_lt_of_le HS2.out.2.2.2.2.2 hb2.size⟩
  have HX : Hid (w2.heap[w.heap.size]? = some (.cells LC 28 (0, 0)) ∧ (Tryz.prog.info? 28).map (·.size) = some LC.size ∧ (Tryz.prog.info? 54).map (·.size) = some YC.size ∧ YC.size = 34 ∧ YC.all (·.oneCell') = true) := ⟨HBL.out w2 H2.out.2.1, hlc, hyc⟩
  have K23 := lay23 l q w2 HS2.out.2.2.1 (HS2.out.2.2.2.1.keep H2.out.1) HS2.out.2.2.2.2.1
  rw [HLS.out.2, ← HYC.out] at K23
  clear l1 hlc hyc K9' hW1 hb2 s1
  go_upto_region 3 with fail
  refine wp_region_list ?_
  refine wpList_load_row rfl 28 (.tmp 1) rfl w.heap.size (by simp [Act.eval]) 28 LC (0, 0) _ HX.out.1 (by rfl) (by rfl) HX.out.2.1 ?_
  simp only [Act.put, List.setIfInBounds_toArray, List.set_cons_zero, List.set_cons_succ]
  refine wpList_callC rfl 23 #[.agg LC] (fun v w' => v = .agg YC ∧ Below w2.heap.size w2 w') (by simp [Act.eval, go_sem]) (K23.mono (fun e w' h => ⟨_, h.1, rfl, h.2⟩)) ?_
  rintro v w3 ⟨rfl, hb3⟩
  simp only [Act.put, List.setIfInBounds_toArray, List.set_cons_zero, List.set_cons_succ]
  obtain ⟨W4, hW4⟩ : ∃ z, w3.alloc (.cells #[.bool false, .int .u32 0, .int .u32 0, .string ⟨#[]⟩, .string ⟨#[]⟩, .int .u32 0, .slice none 0 0, .string ⟨#[]⟩, .string ⟨#[]⟩, .slice none 0 0, .slice none 0 0, .slice none 0 0, .int .i64 0, .int .u32 0, .int .u32 0, .int .u32 0, .int .u32 0, .int .u32 0, .int .u32 0, .int .u32 0, .int .u32 0, .int .u32 0, .int .u32 0, .int .u32 0, .int .u32 0, .int .u32 0, .int .u32 0, .int .u32 0, .int .u32 0, .int .u32 0, .int .u32 0, .int .u32 0, .int .u32 0, .int .u32 0] 54) = z := ⟨_, rfl⟩
  have n4 : W4.heap[w3.heap.size]? = some (.cells #[.bool false, .int .u32 0, .int .u32 0, .string ⟨#[]⟩, .string ⟨#[]⟩, .int .u32 0, .slice none 0 0, .string ⟨#[]⟩, .string ⟨#[]⟩, .slice none 0 0, .slice none 0 0, .slice none 0 0, .int .i64 0, .int .u32 0, .int .u32 0, .int .u32 0, .int .u32 0, .int .u32 0, .int .u32 0, .int .u32 0, .int .u32 0, .int .u32 0, .int .u32 0, .int .u32 0, .int .u32 0, .int .u32 0, .int .u32 0, .int .u32 0, .int .u32 0, .int .u32 0, .int .u32 0, .int .u32 0, .int .u32 0, .int .u32 0] 54 (0, 0)) := by rw [← hW4]; exact new_heap w3 _ _
  have b4 : Below w3.heap.size w3 W4 := by rw [← hW4]; exact (Below.refl _ _).alloc (Nat.le_refl _) _
  refine Go.Great.wpList_runTo rfl (some 3) rfl (.pointer (some ⟨w3.heap.size, 0, none⟩)) W4 (by rw [← hW4]; exact alloc54 _ _ w3) ?_
  simp only [Act.put, List.setIfInBounds_toArray, List.set_cons_zero, List.set_cons_succ]
  refine wpList_store_row rfl 54 (.tmp 3) (.tmp 11) rfl w3.heap.size YC (by simp [Act.eval]) (by simp [Act.eval]) 54 _ n4 HX.out.2.2.1 (by rw [HX.out.2.2.2.1]; rfl) HX.out.2.2.2.2 ?_
  simp only [Act.put]
  obtain ⟨W5, hW5⟩ : ∃ z, W4.setRow w3.heap.size YC = z := ⟨_, rfl⟩
  have hs4 : SB w w3.heap.size 54 34 W4 := ⟨below_tr (below_tr H2.out.1 hb3) b4, _, n4, rfl⟩
  have hle3 : w.heap.size ≤ w3.heap.size := Nat.le_trans H2.out.1.size hb3.size
  have p5 := hs4.set hle3 YC HX.out.2.2.2.1
  rw [hW5] at p5 ⊢
  refine wpList_nil ?_
  have H5 : Hid (Below w.heap.size w W5 ∧ BY l.lay q w3.heap.size W5 ∧ l.lay.Ok) := ⟨p5.1.1, by rw [HYC.out] at p5; exact p5.2, lay_ok HS2.out.2.2.1⟩
  clear hb3 n4 b4 hle3 hs4 p5 hW5 hW4 K23 HX
  generalize w3.heap.size = g at *
  obtain ⟨W6, hW6⟩ : ∃ z, W5.alloc (.cells #[.pointer none, .slice none 0 0] 63) = z := ⟨_, rfl⟩
  have b6 : Below W5.heap.size W5 W6 := by rw [← hW6]; exact (Below.refl _ _).alloc (Nat.le_refl _) _
  have HI6 : Hid (IsB W5.heap.size W5.heap.size (filN l.lay 0) W6 ∧ Below w.heap.size w W6 ∧ BY l.lay q g W6 ∧ W5.heap.size ≤ W6.heap.size ∧ g < W5.heap.size ∧ w.heap.size ≤ W5.heap.size) := by
    refine ⟨?_, below_tr H5.out.1 b6, H5.out.2.1.keep b6, b6.size, H5.out.2.1.lt, H5.out.1.size⟩
    rw [← hW6]
    exact Or.inl ⟨Nat.le_refl _, _, World.alloc_heap_new W5 _, ⟨rfl, Or.inl ⟨rfl, rfl⟩⟩, by simp [Value.ownBlock]⟩
  obtain ⟨Bf, hBf⟩ : ∃ f : Nat → ByteArray, f = fun p => ⟨(l.lay.part p).toArray⟩ := ⟨_, rfl⟩
  have HBf : Hid (∀ p, Bf p = ⟨(l.lay.part p).toArray⟩) := fun p => by rw [hBf]
  have K27 := texts27 l.lay q g W6 HI6.out.2.2.1 H5.out.2.2 (HS2.out.2.2.2.1.keep HI6.out.2.1) HS2.out.2.2.2.2.1
  rw [show l.lay.tv = #[.string (Bf 0), .string (Bf 1), .string (Bf 2), .string (Bf 3), .string (Bf 4), .string (Bf 5), .string (Bf 6), .string (Bf 7), .string (Bf 8), .string (Bf 9)] by rw [hBf]; rfl] at K27
  clear hBf b6
  go_wp2_with fail
  refine K27.mono ?_
  rintro e w7 ⟨rfl, hb7⟩
  have H7 : Hid (IsB W5.heap.size W5.heap.size (filN l.lay 0) w7 ∧ Below w.heap.size w w7 ∧ BY l.lay q g w7 ∧ W5.heap.size ≤ w7.heap.size ∧ g < W5.heap.size ∧ w.heap.size ≤ W5.heap.size) := ⟨isB_keep HI6.out.1 hb7, below_tr HI6.out.2.1 hb7, HI6.out.2.2.1.keep hb7, Nat.le_trans HI6.out.2.2.2.1 hb7.size, HI6.out.2.2.2.2.1, HI6.out.2.2.2.2.2⟩
  have HIX : Hid (∀ (k : Nat) wx, k < 10 → (Instr.index 64 (.agg #[.string (Bf 0), .string (Bf 1), .string (Bf 2), .string (Bf 3), .string (Bf 4), .string (Bf 5), .string (Bf 6), .string (Bf 7), .string (Bf 8), .string (Bf 9)]) (.int .i64 (k : Int))).run Tryz.prog wx = .ok (.string (Bf k)) wx) := fun k wx hk => by
    rcases (by omega : k = 0 ∨ k = 1 ∨ k = 2 ∨ k = 3 ∨ k = 4 ∨ k = 5 ∨ k = 6 ∨ k = 7 ∨ k = 8 ∨ k = 9) with rfl | rfl | rfl | rfl | rfl | rfl | rfl | rfl | rfl | rfl <;> rfl
  obtain ⟨TVV, hTVV⟩ : ∃ z : Array Value, z = #[.string (Bf 0), .string (Bf 1), .string (Bf 2), .string (Bf 3), .string (Bf 4), .string (Bf 5), .string (Bf 6), .string (Bf 7), .string (Bf 8), .string (Bf 9)] := ⟨_, rfl⟩
  rw [← hTVV] at HIX ⊢
  clear K27 hb7 hW6 hTVV
  clear H5 HI6
  generalize W5.heap.size = G at *
  go_wp2
  go_loopw [13] (fun x wr => ∃ k : Nat, x = .int .i64 (k : Int) ∧ k ≤ 10 ∧ IsB G G (filN l.lay k) wr ∧ Below G w7 wr) (fun x _ => 10 - (intOf x).toNat)
  case atStart => exact ⟨0, rfl, Nat.zero_le _, H7.out.1, Below.refl _ _⟩
  case round =>
    obtain ⟨k, rfl, hk, hI, hbr⟩ := hrel
    have hszG : G ≤ wr.heap.size := Nat.le_trans H7.out.2.2.2.1 hbr.size
    by_cases hlt : k < 10
    · have hki : (k : Int) < 10 := by omega
      have hY : BY l.lay q g wr := (hbr.block g H7.out.2.2.2.2.1).trans H7.out.2.2.1
      have c0 := hY.ats k hlt
      have hat : l.lay.at_ k = atN l.sz k := by show (if k < 10 then atN l.sz k else 0) = _; rw [if_pos hlt]
      have hfl := fil_len HS2.out.2.2.1 k hk
      have hae := atN_end l.sz k
      have hal := at_le HS2.out.2.2.1 k
      have hpl := lay_part HS2.out.2.2.1 k
      have hpz := sz_le HS2.out.2.2.1 k
      have hnx : filN l.lay (k + 1) = filN l.lay k ++ (List.replicate (l.lay.at_ k - (filN l.lay k).length) 0 ++ l.lay.part k) := rfl
      obtain ⟨AT, hAT⟩ : ∃ z, z = l.lay.at_ k := ⟨_, rfl⟩
      obtain ⟨LN, hLN⟩ : ∃ z, z = (filN l.lay k).length := ⟨_, rfl⟩
      obtain ⟨PD, hPD⟩ : ∃ z, z = AT - LN := ⟨_, rfl⟩
      rw [← hAT] at c0 hat hnx
      rw [← hLN] at hfl hnx
      have hle : LN ≤ AT := by rw [hfl, hat, hae]; unfold up8; omega
      have hATb : AT ≤ 41040 := by rw [hat]; omega
      rw [← hPD] at hnx
      obtain ⟨FL, hFL⟩ : ∃ z, z = filN l.lay k := ⟨_, rfl⟩
      rw [← hFL] at hI hnx hLN
      obtain ⟨PT, hPT⟩ : ∃ z, z = l.lay.part k := ⟨_, rfl⟩
      rw [← hPT] at hnx hpl
      have hBk : Bf k = ⟨PT.toArray⟩ := by rw [hPT]; exact HBf.out k
      obtain ⟨BK, hBK⟩ : ∃ z, z = Bf k := ⟨_, rfl⟩
      have hix : ∀ wx, (Instr.index 64 (.agg TVV) (.int .i64 (k : Int))).run Tryz.prog wx = .ok (.string BK) wx := fun wx => by rw [hBK]; exact HIX.out k wx hlt
      obtain ⟨ZP, hZP⟩ : ∃ z : ByteArray, z = ⟨(List.replicate PD (0 : UInt8)).toArray⟩ := ⟨_, rfl⟩
      have K30 : Hid (∀ w', Below wr.heap.size wr w' → Calls Tryz.prog 30 #[.pointer (some ⟨G, 0, none⟩)] w' fun e w'' => e = .returned (.int .i64 (LN : Int)) ∧ w'' = w') := fun w' hw => by
        rw [hLN]; exact len30 G G FL w' (isB_keep hI hw) (by omega)
      have K29 : Hid (∀ w', Calls Tryz.prog 29 #[.string ⟨#[0]⟩, .int .i64 (PD : Int)] w' fun e w'' => e = .returned (.string ZP) ∧ Below w'.heap.size w' w'') := fun w' => by rw [hZP]; exact repeat29 PD (by omega) w'
      have HA : Hid (IsB G G FL wr ∧ Below G w7 wr ∧ FL.length ≤ 41040 ∧ PD ≤ 41040 ∧ PT.length ≤ 4096 ∧ k < 10 ∧ filN l.lay (k + 1) = FL ++ (List.replicate PD 0 ++ PT) ∧ ZP = ⟨(List.replicate PD (0 : UInt8)).toArray⟩ ∧ BK = ⟨PT.toArray⟩ ∧ G ≤ wr.heap.size) := ⟨hI, hbr, by omega, by omega, by omega, hlt, hnx, hZP, by rw [hBK]; exact hBk, hszG⟩
      have m1 : (AT : Int) - (LN : Int) = (PD : Int) := by omega
      have m2 : IntKind.i64.wrap (PD : Int) = (PD : Int) := by rw [IntKind.wrap_i64]; omega
      have m3 : IntKind.i64.wrap (AT : Int) = (AT : Int) := by rw [IntKind.wrap_i64]; omega
      have m4 := wrap64_nat PD (by omega)
      have m5 := wrap64_nat AT (by omega)
      clear hY hat hfl hae hal hpl hpz hnx hAT hLN hPD hle hATb hFL hPT hBk hBK hZP hI hbr hszG hlt hk
      go_wp2
      refine wp_region_cut (R := Ext) [⟨17, fun v _ => v = .int .i64 (k : Int), fun _ _ _ _ h => h⟩, ⟨18, fun v _ => v = .pointer (some ⟨g, 14, none⟩), fun _ _ _ _ h => h⟩, ⟨19, fun v _ => v = .pointer (some ⟨g, 14 + k, none⟩), fun _ _ _ _ h => h⟩, ⟨20, fun v _ => v = .int .u32 (AT : Int), fun _ _ _ _ h => h⟩, ⟨21, fun v _ => v = .int .i64 (AT : Int), fun _ _ _ _ h => h⟩, ⟨22, fun v _ => v = .int .i64 (LN : Int), fun _ _ _ _ h => h⟩, ⟨23, fun v _ => v = .int .i64 (PD : Int), fun _ _ _ _ h => h⟩, ⟨24, fun v _ => v = .string ZP, fun _ _ _ _ h => h⟩] _ 8 (by kernel_rfl) rfl (by kernel_rfl) (by decide) (by kernel_rfl) (Below.drew (Below.refl _ _)) (fun _ _ _ h1 h2 => below_tr h1 h2) (fun QQ => ⟨?_, ?_, ?_, ?_, ?_, ?_, ?_, ?_, trivial⟩) (fun f wy hR hf A hA => ?_)
      · intro A wx hR hout hdep K hK
        have h5 : A.tmps[5]?.getD undef = .int .i64 (k : Int) := hout 5 (by kernel_rfl)
        refine if_yes (by kernel_rfl) ?_
        simp [go_sem, h5, m1, m2, m3, m4, m5, hki]
        exact hK.out _ _ (Below.refl _ _) rfl
      · intro A wx hR hout hdep K hK
        have h3 : A.tmps[3]?.getD undef = .pointer (some ⟨g, 0, none⟩) := hout 3 (by kernel_rfl)
        refine if_yes (by kernel_rfl) ?_
        simp [go_sem, h3, m1, m2, m3, m4, m5, hki]
        exact hK.out _ _ (Below.refl _ _) rfl
      · intro A wx hR hout hdep K hK
        have h18 : A.tmps[18]?.getD undef = .pointer (some ⟨g, 14, none⟩) := hdep 18 (by kernel_rfl)
        have h17 : A.tmps[17]?.getD undef = .int .i64 (k : Int) := hdep 17 (by kernel_rfl)
        refine if_yes (by kernel_rfl) ?_
        simp [go_sem, h18, h17, m1, m2, m3, m4, m5, hki]
        exact hK.out _ _ (Below.refl _ _) rfl
      · intro A wx hR hout hdep K hK
        have h19 : A.tmps[19]?.getD undef = .pointer (some ⟨g, 14 + k, none⟩) := hdep 19 (by kernel_rfl)
        refine if_yes (by kernel_rfl) ?_
        have c0 := keep_cell hR c0
        simp [go_sem, h19, c0, m1, m2, m3, m4, m5, hki]
        exact hK.out _ _ (Below.refl _ _) rfl
      · intro A wx hR hout hdep K hK
        have h20 : A.tmps[20]?.getD undef = .int .u32 (AT : Int) := hdep 20 (by kernel_rfl)
        refine if_yes (by kernel_rfl) ?_
        simp [go_sem, h20, m1, m2, m3, m4, m5, hki]
        exact hK.out _ _ (Below.refl _ _) rfl
      · intro A wx hR hout hdep K hK
        have h4 : A.tmps[4]?.getD undef = .pointer (some ⟨G, 0, none⟩) := hout 4 (by kernel_rfl)
        refine if_yes (by kernel_rfl) ?_
        simp [go_sem, h4, m1, m2, m3, m4, m5, hki]
        refine (K30.out _ hR).mono ?_
        rintro e w6 ⟨rfl, rfl⟩
        exact hK.out _ _ (Below.refl _ _) rfl
      · intro A wx hR hout hdep K hK
        have h21 : A.tmps[21]?.getD undef = .int .i64 (AT : Int) := hdep 21 (by kernel_rfl)
        have h22 : A.tmps[22]?.getD undef = .int .i64 (LN : Int) := hdep 22 (by kernel_rfl)
        refine if_yes (by kernel_rfl) ?_
        simp [go_sem, h21, h22, m1, m2, m3, m4, m5, hki]
        exact hK.out _ _ (Below.refl _ _) rfl
      · intro A wx hR hout hdep K hK
        have h23 : A.tmps[23]?.getD undef = .int .i64 (PD : Int) := hdep 23 (by kernel_rfl)
        refine if_yes (by kernel_rfl) ?_
        simp [go_sem, h23, m1, m2, m3, m4, m5, hki]
        refine (K29.out _).mono ?_
        rintro e w6 ⟨rfl, hb6⟩
        exact hK.out _ _ hb6 rfl
      have h17 : f 17 = .int .i64 (k : Int) := hf 17 (by kernel_rfl)
      have h18 : f 18 = .pointer (some ⟨g, 14, none⟩) := hf 18 (by kernel_rfl)
      have h19 : f 19 = .pointer (some ⟨g, 14 + k, none⟩) := hf 19 (by kernel_rfl)
      have h20 : f 20 = .int .u32 (AT : Int) := hf 20 (by kernel_rfl)
      have h21 : f 21 = .int .i64 (AT : Int) := hf 21 (by kernel_rfl)
      have h22 : f 22 = .int .i64 (LN : Int) := hf 22 (by kernel_rfl)
      have h23 : f 23 = .int .i64 (PD : Int) := hf 23 (by kernel_rfl)
      have h24 : f 24 = .string ZP := hf 24 (by kernel_rfl)
      simp only [putSl, List.take_succ_cons, List.take_zero, Act.put, List.setIfInBounds_toArray, List.set_cons_zero, List.set_cons_succ, h17, h18, h19, h20, h21, h22, h23, h24] at hA
      subst hA
      have HWY : Hid (IsB G G FL wy ∧ Below G w7 wy ∧ G ≤ wy.heap.size) := ⟨isB_keep HA.out.1 hR, HA.out.2.1.trans (hR.mono HA.out.2.2.2.2.2.2.2.2.2), Nat.le_trans HA.out.2.2.2.2.2.2.2.2.2 hR.size⟩
      have KW := write41 G G FL ZP wy HWY.out.1 (by have h1 := HA.out; have h2 : ZP.size = PD := by rw [h1.2.2.2.2.2.2.2.1]; show (List.replicate PD (0 : UInt8)).toArray.size = PD; simp
                                                    omega) HWY.out.2.2
      rw [show ZP.toList = List.replicate PD 0 by rw [HA.out.2.2.2.2.2.2.2.1]; exact bal _] at KW
      clear h17 h18 h19 h20 h21 h22 h23 h24 hf hR K29 K30 c0 m1 m2 m3 m4 m5 hix
      refine wpAny_ready (rs := [8]) (by kernel_rfl) (by decide) (AllReady.cons rfl ?_ AllReady.nil)
      intro K5 hK5
      refine if_yes (by kernel_rfl) ?_
      simp [go_sem]
      refine (KW).mono ?_
      rintro e w2 ⟨rfl, hI2, hb2⟩
      refine hK5 _ _ ?_
      refine wpAny_done (by kernel_rfl) ?_ _
      clear hK5 K5
      have HW2 : Hid (IsB G G (FL ++ List.replicate PD 0) w2 ∧ Below G w7 w2) := ⟨hI2, HWY.out.2.1.trans hb2⟩
      have KX := write41 G G (FL ++ List.replicate PD 0) BK w2 HW2.out.1 (by have h1 := HA.out; have h2 : BK.size = PT.length := by rw [h1.2.2.2.2.2.2.2.2.1]; show PT.toArray.size = PT.length; simp
                                                                             rw [List.length_append, List.length_replicate]; omega) (Nat.le_trans HWY.out.2.2 hb2.size)
      rw [show BK.toList = PT by rw [HA.out.2.2.2.2.2.2.2.2.1]; exact bal _] at KX
      clear KW hI2 hb2 HWY
      go_wp2_with fail
      refine KX.mono ?_
      rintro e w3 ⟨rfl, hI3, hb3⟩
      have HE : Hid (IsB G G (filN l.lay (k + 1)) w3 ∧ Below G w7 w3) := ⟨by rw [HA.out.2.2.2.2.2.2.1, ← List.append_assoc]; exact hI3, (HW2.out.2.trans hb3)⟩
      clear KX hI3 hb3 HW2
      have hk10 := HA.out.2.2.2.2.2.1
      go_wp2
      go_roundw
      case rel => exact ⟨k + 1, by go_num, hk10, HE.out.1, HE.out.2⟩
      case measure => simp [intOf]; omega
    · have hkN : k = 10 := by omega
      have hki : ¬ (k : Int) < 10 := by omega
      subst hkN
      have KS := string43 G G _ wr hI hszG
      have HF : Hid (Below w.heap.size w wr ∧ w.heap.size ≤ G) := ⟨H7.out.2.1.trans (hbr.mono H7.out.2.2.2.2.2), H7.out.2.2.2.2.2⟩
      clear hI hbr
      go_wp2_with fail
      refine KS.mono ?_
      rintro e w9 ⟨rfl, hb9⟩
      go_wp2
      go_ret
      exact ⟨rfl, HF.out.1.trans (hb9.mono HF.out.2)⟩
end Go.Proofs.YtgdflobcbhnimaaGreat
