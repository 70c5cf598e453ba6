/- What is proved here: the worker maps a page of the host, and takes one away. -/
import Derived.Test.YtkpmkgkfpikpfaaGreatGw
namespace Go.Proofs.YtkpmkgkfpikpfaaGreat
open Go.RowKit
set_option linter.unusedVariables false
set_option maxRecDepth 100000
def hp (bs k : Nat) : Nat := bs / 16384 + k
set_option maxHeartbeats 4000000 in
theorem gback68_used (B wb k bs : Nat) (ms cs ps : List (Nat × Int)) (w : World) (hW : Wk B w wb ms cs ps bs) (hs : Srt ps) (hl : ps.length ≤ 1073741824) (hk : k < 1073741823) (hu : usedN ps k = true) :
  Calls Tryz.prog 82 #[.pointer (some ⟨wb, 0, none⟩), .int .u32 (k : Int)] w fun e w' => e = .returned (.int .i64 0) ∧ Wk B w' wb ms cs ps bs ∧ w.grownBy w' (some wb) := by
 have HK : Hid (∀ w', Below w.heap.size w w' → Wk B w' wb ms cs ps bs ∧ w.grownBy w' (some wb)) := fun w' h => ⟨hW.keep h, Go.Lib.grownBy_below (World.grownBy.refl w (some wb)) h⟩
 obtain ⟨vm, vc, vp, hb, ho, hB⟩ := hW
 have K := gisUsed79 wb k vp ps w hb.c3 ho.p hs hl hk
 rw [hu] at K
 clear hb ho hB hs hu
 go_enter Tryz.func82, Tryz.ntmps82
 go_wp2_with fail
 refine K.mono ?_
 rintro e w1 ⟨rfl, hb1⟩
 go_wp2
 go_ret
 exact ⟨rfl, HK.out _ hb1⟩
set_option maxHeartbeats 4000000 in
theorem grelease72_used (B wb k bs : Nat) (ms cs ps : List (Nat × Int)) (w : World) (hW : Wk B w wb ms cs ps bs) (hs : Srt ps) (hl : ps.length ≤ 1073741824) (hk : k < 1073741823) (hu : usedN ps k = true) :
  Calls Tryz.prog 86 #[.pointer (some ⟨wb, 0, none⟩), .int .u32 (k : Int)] w fun e w' => e = .returned (.tuple #[]) ∧ Wk B w' wb ms cs ps bs ∧ w.grownBy w' (some wb) := by
 have HK : Hid (∀ w', Below w.heap.size w w' → Wk B w' wb ms cs ps bs ∧ w.grownBy w' (some wb)) := fun w' h => ⟨hW.keep h, Go.Lib.grownBy_below (World.grownBy.refl w (some wb)) h⟩
 obtain ⟨vm, vc, vp, hb, ho, hB⟩ := hW
 have K := gisUsed79 wb k vp ps w hb.c3 ho.p hs hl hk
 rw [hu] at K
 clear hb ho hB hs hu
 go_enter Tryz.func86, Tryz.ntmps86
 go_wp2_with fail
 refine K.mono ?_
 rintro e w1 ⟨rfl, hb1⟩
 go_wp2
 go_end0
 exact ⟨rfl, HK.out _ hb1⟩
set_option maxHeartbeats 4000000 in
theorem gback68_ok (B wb k bs page : Nat) (ms cs ps : List (Nat × Int)) (w : World) (hW : Wk B w wb ms cs ps bs) (hs : Srt ps) (hl : ps.length ≤ 1073741824) (hk : k < 1048576) (hu : usedN ps k = false) (hbs : bs ≤ 4611686018427387904) (hpg : page = hp bs k) (hfit : FitQ ms cs) (hmid : mid ms page (page + 1 - 1) = []) (hroom : ms.length + 1 ≤ 64) :
  Calls Tryz.prog 82 #[.pointer (some ⟨wb, 0, none⟩), .int .u32 (k : Int)] w fun e w' => e = .returned (.int .i64 0) ∧ Wk B w' wb (lo ms page ++ added page 3 1 ++ hi ms (page + 1 - 1)) (cs) ps bs ∧ w.grownBy w' (some wb) := by
 obtain ⟨vm, vc, vp, hb, ho, hB⟩ := hW
 obtain ⟨am, nm, pm, ac, nc, pc, rfl, rfl⟩ := ho.1.shape
 have K := gisUsed79 wb k vp ps w hb.c3 ho.p hs hl (by omega)
 rw [hu] at K
 obtain ⟨ap, np, pp, rfl⟩ := own_shape ho.2
 have K59 : Hid (∀ w', Calls Tryz.prog 73 #[.int .u64 (bs : Int), .int .u32 (k : Int)] w' fun e w'' => e = .returned (.int .u64 (page : Int)) ∧ w'' = w') := fun w' => by
  have h := ghostPage59 bs k hbs (by omega) w'
  rw [← show page = bs / 16384 + k from hpg] at h
  exact h
 have hpl : page + 1 ≤ 1125899906842624 := by rw [hpg, hp]; omega
 have hpo : pagesOk page 1 = true := by simp [pagesOk]; omega
 have KH : Hid (∀ w', Below w.heap.size w w' → Calls Tryz.prog 100 #[.agg #[.slice am nm pm, .slice ac nc pc], .int .u64 (page : Int), .int .u64 1, .int .i64 3] w' fun e w'' => ∃ am' nm' pm' ac' nc' pc', e = .returned (.tuple #[.agg #[.slice am' nm' pm', .slice ac' nc' pc'], .int .i64 0]) ∧ OwnH w'.heap.size w'' (.slice am' nm' pm') (.slice ac' nc' pc') (lo ms page ++ added page 3 1 ++ hi ms (page + 1 - 1)) (cs) ∧ Below w'.heap.size w' w'') := fun w' hb' =>
  (map14_ok _ _ ms cs page 1 3 w' (ho.1.m.keep hb') (ho.1.c.keep hb') (by have := hfit.1; omega) (by have := hfit.2.1; omega) hfit.2.2.1 hpo (by decide) hmid hroom).mono (by
   rintro e w'' ⟨vm', vc', rfl, ho', hb''⟩
   obtain ⟨am', nm', pm', ac', nc', pc', rfl, rfl⟩ := ho'.shape
   exact ⟨_, _, _, _, _, _, rfl, ho', hb''⟩)
 have HW : Hid (Wb w wb (.slice am nm pm) (.slice ac nc pc) (.int .u64 (bs : Int)) (.slice ap np pp) ∧ OwnG B w (.slice am nm pm) (.slice ac nc pc) (.slice ap np pp) ms cs ps ∧ B ≤ w.heap.size) := ⟨hb, ho, hB⟩
 obtain ⟨zm, hzm⟩ : ∃ z, z = lo ms page ++ added page 3 1 ++ hi ms (page + 1 - 1) := ⟨_, rfl⟩
 rw [← hzm] at KH
 rw [← hzm]
 have C0 := hb.c0
 have C1 := hb.c1
 have C2 := hb.c2
 clear hb ho hB hs hu hfit hpg hzm hpl hpo hmid hroom hbs hl hk
 go_enter Tryz.func82, Tryz.ntmps82
 go_wp2_with fail
 refine K.mono ?_
 rintro e w0 ⟨rfl, hb0⟩
 clear K
 have c0 := keep_cell hb0 C0
 have c1 := keep_cell hb0 C1
 have c2 := keep_cell hb0 C2
 have HB0 : Hid (Below w.heap.size w w0) := hb0
 clear C0 C1 C2 hb0
 go_wp2_with fail
 go_region_with (first | (go_at_call 73; refine (K59.out _).mono ?_; rintro e w1 ⟨rfl, hw1⟩; subst hw1) | (go_at_call 100; refine (KH.out _ (by first | exact HB0.out | exact HB0.out.drew)).mono ?_; rintro e w2 ⟨am', nm', pm', ac', nc', pc', rfl, ho2, hb2⟩; have hbB : Below w.heap.size w w2 := (by first | exact below_tr HB0.out hb2 | exact below_tr HB0.out.drew hb2); have q0 := keep_cell hbB HW.out.1.c0; have q1 := keep_cell hbB HW.out.1.c1; have q4 := (HW.out.1.keep hbB).f 0; have q5 := (HW.out.1.keep hbB).f 1))
 all_goals go_wp2
 all_goals go_ret
 all_goals exact ⟨rfl, wk_host HW.out hbB ho2 (by first | exact HB0.out.size | exact HB0.out.drew.size)⟩
set_option maxHeartbeats 4000000 in
theorem gback68_full (B wb k bs page : Nat) (ms cs ps : List (Nat × Int)) (w : World) (hW : Wk B w wb ms cs ps bs) (hs : Srt ps) (hl : ps.length ≤ 1073741824) (hk : k < 1048576) (hu : usedN ps k = false) (hbs : bs ≤ 4611686018427387904) (hpg : page = hp bs k) (hfit : FitQ ms cs) (hmid : mid ms page (page + 1 - 1) = []) (hroom : 64 < ms.length + 1) :
  Calls Tryz.prog 82 #[.pointer (some ⟨wb, 0, none⟩), .int .u32 (k : Int)] w fun e w' => e = .returned (.int .i64 105) ∧ Wk B w' wb (ms) (cs) ps bs ∧ w.grownBy w' (some wb) := by
 obtain ⟨vm, vc, vp, hb, ho, hB⟩ := hW
 obtain ⟨am, nm, pm, ac, nc, pc, rfl, rfl⟩ := ho.1.shape
 have K := gisUsed79 wb k vp ps w hb.c3 ho.p hs hl (by omega)
 rw [hu] at K
 obtain ⟨ap, np, pp, rfl⟩ := own_shape ho.2
 have K59 : Hid (∀ w', Calls Tryz.prog 73 #[.int .u64 (bs : Int), .int .u32 (k : Int)] w' fun e w'' => e = .returned (.int .u64 (page : Int)) ∧ w'' = w') := fun w' => by
  have h := ghostPage59 bs k hbs (by omega) w'
  rw [← show page = bs / 16384 + k from hpg] at h
  exact h
 have hpl : page + 1 ≤ 1125899906842624 := by rw [hpg, hp]; omega
 have hpo : pagesOk page 1 = true := by simp [pagesOk]; omega
 have KH : Hid (∀ w', Below w.heap.size w w' → Calls Tryz.prog 100 #[.agg #[.slice am nm pm, .slice ac nc pc], .int .u64 (page : Int), .int .u64 1, .int .i64 3] w' fun e w'' => ∃ am' nm' pm' ac' nc' pc', e = .returned (.tuple #[.agg #[.slice am' nm' pm', .slice ac' nc' pc'], .int .i64 105]) ∧ OwnH w'.heap.size w'' (.slice am' nm' pm') (.slice ac' nc' pc') (ms) (cs) ∧ Below w'.heap.size w' w'') := fun w' hb' =>
  (map14_full _ _ ms cs page 1 3 w' (ho.1.m.keep hb') (ho.1.c.keep hb') (by have := hfit.1; omega) (by have := hfit.2.1; omega) hfit.2.2.1 hpo (by decide) (by rw [hmid]; rfl) hroom).mono (by
   rintro e w'' ⟨vm', vc', rfl, ho', hb''⟩
   obtain ⟨am', nm', pm', ac', nc', pc', rfl, rfl⟩ := ho'.shape
   exact ⟨_, _, _, _, _, _, rfl, ho', hb''⟩)
 have HW : Hid (Wb w wb (.slice am nm pm) (.slice ac nc pc) (.int .u64 (bs : Int)) (.slice ap np pp) ∧ OwnG B w (.slice am nm pm) (.slice ac nc pc) (.slice ap np pp) ms cs ps ∧ B ≤ w.heap.size) := ⟨hb, ho, hB⟩
 have C0 := hb.c0
 have C1 := hb.c1
 have C2 := hb.c2
 clear hb ho hB hs hu hfit hpg  hpl hpo hmid hroom hbs hl hk
 go_enter Tryz.func82, Tryz.ntmps82
 go_wp2_with fail
 refine K.mono ?_
 rintro e w0 ⟨rfl, hb0⟩
 clear K
 have c0 := keep_cell hb0 C0
 have c1 := keep_cell hb0 C1
 have c2 := keep_cell hb0 C2
 have HB0 : Hid (Below w.heap.size w w0) := hb0
 clear C0 C1 C2 hb0
 go_wp2_with fail
 go_region_with (first | (go_at_call 73; refine (K59.out _).mono ?_; rintro e w1 ⟨rfl, hw1⟩; subst hw1) | (go_at_call 100; refine (KH.out _ (by first | exact HB0.out | exact HB0.out.drew)).mono ?_; rintro e w2 ⟨am', nm', pm', ac', nc', pc', rfl, ho2, hb2⟩; have hbB : Below w.heap.size w w2 := (by first | exact below_tr HB0.out hb2 | exact below_tr HB0.out.drew hb2); have q0 := keep_cell hbB HW.out.1.c0; have q1 := keep_cell hbB HW.out.1.c1; have q4 := (HW.out.1.keep hbB).f 0; have q5 := (HW.out.1.keep hbB).f 1))
 all_goals go_wp2
 all_goals go_ret
 all_goals exact ⟨rfl, wk_host HW.out hbB ho2 (by first | exact HB0.out.size | exact HB0.out.drew.size)⟩
set_option maxHeartbeats 4000000 in
theorem gback68_there (B wb k bs page : Nat) (ms cs ps : List (Nat × Int)) (w : World) (hW : Wk B w wb ms cs ps bs) (hs : Srt ps) (hl : ps.length ≤ 1073741824) (hk : k < 1048576) (hu : usedN ps k = false) (hbs : bs ≤ 4611686018427387904) (hpg : page = hp bs k) (hfit : FitQ ms cs) (hmid : (mid ms page (page + 1 - 1)).length ≠ 0) :
  Calls Tryz.prog 82 #[.pointer (some ⟨wb, 0, none⟩), .int .u32 (k : Int)] w fun e w' => e = .returned (.int .i64 17) ∧ Wk B w' wb (ms) (cs) ps bs ∧ w.grownBy w' (some wb) := by
 obtain ⟨vm, vc, vp, hb, ho, hB⟩ := hW
 obtain ⟨am, nm, pm, ac, nc, pc, rfl, rfl⟩ := ho.1.shape
 have K := gisUsed79 wb k vp ps w hb.c3 ho.p hs hl (by omega)
 rw [hu] at K
 obtain ⟨ap, np, pp, rfl⟩ := own_shape ho.2
 have K59 : Hid (∀ w', Calls Tryz.prog 73 #[.int .u64 (bs : Int), .int .u32 (k : Int)] w' fun e w'' => e = .returned (.int .u64 (page : Int)) ∧ w'' = w') := fun w' => by
  have h := ghostPage59 bs k hbs (by omega) w'
  rw [← show page = bs / 16384 + k from hpg] at h
  exact h
 have hpl : page + 1 ≤ 1125899906842624 := by rw [hpg, hp]; omega
 have hpo : pagesOk page 1 = true := by simp [pagesOk]; omega
 have KH : Hid (∀ w', Below w.heap.size w w' → Calls Tryz.prog 100 #[.agg #[.slice am nm pm, .slice ac nc pc], .int .u64 (page : Int), .int .u64 1, .int .i64 3] w' fun e w'' => ∃ am' nm' pm' ac' nc' pc', e = .returned (.tuple #[.agg #[.slice am' nm' pm', .slice ac' nc' pc'], .int .i64 17]) ∧ OwnH w'.heap.size w'' (.slice am' nm' pm') (.slice ac' nc' pc') (ms) (cs) ∧ Below w'.heap.size w' w'') := fun w' hb' =>
  (map14_there _ _ ms cs page 1 3 w' (ho.1.m.keep hb') (ho.1.c.keep hb') (by have := hfit.1; omega) (by have := hfit.2.1; omega) hfit.2.2.1 hpo (by decide) hmid).mono (by
   rintro e w'' ⟨vm', vc', rfl, ho', hb''⟩
   obtain ⟨am', nm', pm', ac', nc', pc', rfl, rfl⟩ := ho'.shape
   exact ⟨_, _, _, _, _, _, rfl, ho', hb''⟩)
 have HW : Hid (Wb w wb (.slice am nm pm) (.slice ac nc pc) (.int .u64 (bs : Int)) (.slice ap np pp) ∧ OwnG B w (.slice am nm pm) (.slice ac nc pc) (.slice ap np pp) ms cs ps ∧ B ≤ w.heap.size) := ⟨hb, ho, hB⟩
 have C0 := hb.c0
 have C1 := hb.c1
 have C2 := hb.c2
 clear hb ho hB hs hu hfit hpg  hpl hpo hmid hbs hl hk
 go_enter Tryz.func82, Tryz.ntmps82
 go_wp2_with fail
 refine K.mono ?_
 rintro e w0 ⟨rfl, hb0⟩
 clear K
 have c0 := keep_cell hb0 C0
 have c1 := keep_cell hb0 C1
 have c2 := keep_cell hb0 C2
 have HB0 : Hid (Below w.heap.size w w0) := hb0
 clear C0 C1 C2 hb0
 go_wp2_with fail
 go_region_with (first | (go_at_call 73; refine (K59.out _).mono ?_; rintro e w1 ⟨rfl, hw1⟩; subst hw1) | (go_at_call 100; refine (KH.out _ (by first | exact HB0.out | exact HB0.out.drew)).mono ?_; rintro e w2 ⟨am', nm', pm', ac', nc', pc', rfl, ho2, hb2⟩; have hbB : Below w.heap.size w w2 := (by first | exact below_tr HB0.out hb2 | exact below_tr HB0.out.drew hb2); have q0 := keep_cell hbB HW.out.1.c0; have q1 := keep_cell hbB HW.out.1.c1; have q4 := (HW.out.1.keep hbB).f 0; have q5 := (HW.out.1.keep hbB).f 1))
 all_goals go_wp2
 all_goals go_ret
 all_goals exact ⟨rfl, wk_host HW.out hbB ho2 (by first | exact HB0.out.size | exact HB0.out.drew.size)⟩
set_option maxHeartbeats 4000000 in
theorem grelease72 (B wb k bs page : Nat) (ms cs ps : List (Nat × Int)) (w : World) (hW : Wk B w wb ms cs ps bs) (hs : Srt ps) (hl : ps.length ≤ 1073741824) (hk : k < 1048576) (hu : usedN ps k = false) (hbs : bs ≤ 4611686018427387904) (hpg : page = hp bs k) (hfit : FitQ ms cs) :
  Calls Tryz.prog 86 #[.pointer (some ⟨wb, 0, none⟩), .int .u32 (k : Int)] w fun e w' => e = .returned (.tuple #[]) ∧ Wk B w' wb (lo ms page ++ hi ms (page + 1 - 1)) (lo cs (page * 16384) ++ hi cs ((page + 1 - 1) * 16384 + 16383)) ps bs ∧ w.grownBy w' (some wb) := by
 obtain ⟨vm, vc, vp, hb, ho, hB⟩ := hW
 obtain ⟨am, nm, pm, ac, nc, pc, rfl, rfl⟩ := ho.1.shape
 have K := gisUsed79 wb k vp ps w hb.c3 ho.p hs hl (by omega)
 rw [hu] at K
 obtain ⟨ap, np, pp, rfl⟩ := own_shape ho.2
 have K59 : Hid (∀ w', Calls Tryz.prog 73 #[.int .u64 (bs : Int), .int .u32 (k : Int)] w' fun e w'' => e = .returned (.int .u64 (page : Int)) ∧ w'' = w') := fun w' => by
  have h := ghostPage59 bs k hbs (by omega) w'
  rw [← show page = bs / 16384 + k from hpg] at h
  exact h
 have hpl : page + 1 ≤ 1125899906842624 := by rw [hpg, hp]; omega
 have hpo : pagesOk page 1 = true := by simp [pagesOk]; omega
 have KH : Hid (∀ w', Below w.heap.size w w' → Calls Tryz.prog 103 #[.agg #[.slice am nm pm, .slice ac nc pc], .int .u64 (page : Int), .int .u64 1] w' fun e w'' => ∃ am' nm' pm' ac' nc' pc', e = .returned (.tuple #[.agg #[.slice am' nm' pm', .slice ac' nc' pc'], .int .i64 0]) ∧ OwnH w'.heap.size w'' (.slice am' nm' pm') (.slice ac' nc' pc') (lo ms page ++ hi ms (page + 1 - 1)) (lo cs (page * 16384) ++ hi cs ((page + 1 - 1) * 16384 + 16383)) ∧ Below w'.heap.size w' w'') := fun w' hb' =>
  (unmap16_ok _ _ ms cs page 1 w' (ho.1.m.keep hb') (ho.1.c.keep hb') hfit.2.2.1 hfit.2.2.2.1 (by have := hfit.1; omega) (by have := hfit.2.1; omega) hpo).mono (by
   rintro e w'' ⟨vm', vc', rfl, ho', hb''⟩
   obtain ⟨am', nm', pm', ac', nc', pc', rfl, rfl⟩ := ho'.shape
   exact ⟨_, _, _, _, _, _, rfl, ho', hb''⟩)
 have HW : Hid (Wb w wb (.slice am nm pm) (.slice ac nc pc) (.int .u64 (bs : Int)) (.slice ap np pp) ∧ OwnG B w (.slice am nm pm) (.slice ac nc pc) (.slice ap np pp) ms cs ps ∧ B ≤ w.heap.size) := ⟨hb, ho, hB⟩
 obtain ⟨zm, hzm⟩ : ∃ z, z = lo ms page ++ hi ms (page + 1 - 1) := ⟨_, rfl⟩
 obtain ⟨zc, hzc⟩ : ∃ z, z = lo cs (page * 16384) ++ hi cs ((page + 1 - 1) * 16384 + 16383) := ⟨_, rfl⟩
 rw [← hzm, ← hzc] at KH
 rw [← hzm, ← hzc]
 have C0 := hb.c0
 have C1 := hb.c1
 have C2 := hb.c2
 clear hb ho hB hs hu hfit hpg hzm hzc hpl hpo  hbs hl hk
 go_enter Tryz.func86, Tryz.ntmps86
 go_wp2_with fail
 refine K.mono ?_
 rintro e w0 ⟨rfl, hb0⟩
 clear K
 have c0 := keep_cell hb0 C0
 have c1 := keep_cell hb0 C1
 have c2 := keep_cell hb0 C2
 have HB0 : Hid (Below w.heap.size w w0) := hb0
 clear C0 C1 C2 hb0
 go_wp2_with fail
 go_region_with (first | (go_at_call 73; refine (K59.out _).mono ?_; rintro e w1 ⟨rfl, hw1⟩; subst hw1) | (go_at_call 103; refine (KH.out _ (by first | exact HB0.out | exact HB0.out.drew)).mono ?_; rintro e w2 ⟨am', nm', pm', ac', nc', pc', rfl, ho2, hb2⟩; have hbB : Below w.heap.size w w2 := (by first | exact below_tr HB0.out hb2 | exact below_tr HB0.out.drew hb2); have q0 := keep_cell hbB HW.out.1.c0; have q1 := keep_cell hbB HW.out.1.c1; have q4 := (HW.out.1.keep hbB).f 0; have q5 := (HW.out.1.keep hbB).f 1))
 all_goals go_wp2
 all_goals go_end0
 all_goals exact ⟨rfl, wk_host HW.out hbB ho2 (by first | exact HB0.out.size | exact HB0.out.drew.size)⟩
end Go.Proofs.YtkpmkgkfpikpfaaGreat
