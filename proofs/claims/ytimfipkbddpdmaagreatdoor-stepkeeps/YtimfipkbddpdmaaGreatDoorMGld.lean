import Derived.Test.YtimfipkbddpdmaaGreatDoorMGtd
import Derived.Test.YtimfipkbddpdmaaGreatDoorEach
import Derived.OwnWalkIn
set_option linter.unusedVariables false
set_option linter.unusedSimpArgs false
set_option maxRecDepth 100000
open Go Go.RowKit
namespace Go.Proofs.YtimfipkbddpdmaaGreatDoor.Gm
attribute [local go_sem] Oper.semAt_some
set_option maxHeartbeats 1000000 in
theorem reg12 (l : Nat) {n : Nat} {Q : Exit -> Act -> World -> Prop} {p0 p1 p2 p3 p4 p6 p7 p8 p10 p13 p14 p15 p16 p17 p18 p19 p20 p21 p22 p23 p24 p25 p26 p27 p28 p29 p30 p31 p32 p33 p34 p35 p36 p37 p38 p39 p40 p41 p42 p43 p44 p45 p46 p47 p48 p49 p50 p51 p52 p53 p54 p55 p56 p57 p58 p59 p60 p61 p62 p63 p64 p65 p66 p67 p68 p69 p70 p71 p72 p73 p74 p75 p76 p77 p78 p79 p80 p81 p82 p83 p84 p85 p86 p87 p88 : Value} {ds : List Deferred} {bw bt B Bh k : Nat} {u : Value} {t tq : ByteArray} {W : World}
  (c9 : W.cell? ⟨bt, 0, none⟩ = some u) (f9 : W.frozen? ⟨bt, 0, none⟩ = false) (c5 : W.cell? ⟨bw, 0, none⟩ = some (.string t)) (f5 : W.frozen? ⟨bw, 0, none⟩ = false) (z2 : W.cell? ⟨B, 2, none⟩ = some (.int .i64 k))
  (hne : bw ≠ bt) (hnB : B ≠ bt) (hq : (k : Int) <= (t.size : Int)) (hqn : k <= t.size) (htp0 : t.extract k t.size = tq)
  (hQ : Hid (∀ A, Q .normal A ((W.setCell ⟨bt, 0, none⟩ (.int .i64 Bh)).setCell ⟨bw, 0, none⟩ (.string tq)).drew)) :
  (Code.region 12 #[{ dst := some 75, op := Go.Op.move (Go.Operand.tmp 12), type := 3, pos := "gmem.go:143", after := #[], guard := none }, { dst := some 76, op := Go.Op.load 9 (Go.Operand.tmp 5), type := 9, pos := "gmem.go:143", after := #[], guard := none }, { dst := some 77, op := Go.Op.fieldAddr 207 (Go.Operand.tmp 11) 2, type := 0, pos := "gmem.go:143", after := #[], guard := none }, { dst := some 78, op := Go.Op.load 3 (Go.Operand.tmp 77), type := 3, pos := "gmem.go:143", after := #[{ on := 2, ground := Go.Ground.data }], guard := none }, { dst := some 79, op := Go.Op.slice 9 (Go.Operand.tmp 76) (some (Go.Operand.tmp 78)) none none, type := 9, pos := "gmem.go:143", after := #[{ on := 1, ground := Go.Ground.data }, { on := 3, ground := Go.Ground.data }], guard := none }, { dst := none, op := Go.Op.store 3 (Go.Operand.tmp 9) (Go.Operand.tmp 75), type := 0, pos := "gmem.go:143", after := #[{ on := 0, ground := Go.Ground.data }, { on := 0, ground := Go.Ground.phase }, { on := 1, ground := Go.Ground.textOnly Go.Departure.inlinedCapture }, { on := 2, ground := Go.Ground.textOnly Go.Departure.lateStores }, { on := 3, ground := Go.Ground.textOnly Go.Departure.lateStores }, { on := 4, ground := Go.Ground.textOnly Go.Departure.lateStoresUnsure }], guard := none }, { dst := none, op := Go.Op.store 9 (Go.Operand.tmp 5) (Go.Operand.tmp 79), type := 0, pos := "gmem.go:143", after := #[{ on := 4, ground := Go.Ground.data }, { on := 5, ground := Go.Ground.chain }, { on := 0, ground := Go.Ground.phase }, { on := 1, ground := Go.Ground.phase }, { on := 2, ground := Go.Ground.phase }, { on := 3, ground := Go.Ground.phase }, { on := 4, ground := Go.Ground.phase }, { on := 5, ground := Go.Ground.phase }], guard := none }] true).wpIn (Fence.wide.inRound l) n Tryz.prog Q { tmps := #[p0, p1, p2, p3, p4, .pointer (some ⟨bw, 0, none⟩), p6, p7, p8, .pointer (some ⟨bt, 0, none⟩), p10, .pointer (some ⟨B, 0, none⟩), .int .i64 Bh, p13, p14, p15, p16, p17, p18, p19, p20, p21, p22, p23, p24, p25, p26, p27, p28, p29, p30, p31, p32, p33, p34, p35, p36, p37, p38, p39, p40, p41, p42, p43, p44, p45, p46, p47, p48, p49, p50, p51, p52, p53, p54, p55, p56, p57, p58, p59, p60, p61, p62, p63, p64, p65, p66, p67, p68, p69, p70, p71, p72, p73, p74, p75, p76, p77, p78, p79, p80, p81, p82, p83, p84, p85, p86, p87, p88], defers := ds } W := by
 gi_region
 all_goals exact hQ.out _
def ldV (ms cs ps : List (Nat × Int)) (bs a : Nat) (n : Int) : Nat := if isW n = true then W.beS ⟨(tdL ms cs ps bs a n.toNat 1).toArray⟩ else 0
def ldF (ps : List (Nat × Int)) (a : Nat) (n : Int) : Int × Nat := if isW n = true then ffN ps a n.toNat 1 else (0, 0)
set_option maxHeartbeats 1000000 in
theorem gload12 (vm vc vp : Value) (bs a : Nat) (n : Int) (ms cs ps : List (Nat × Int)) (w : World) (hg : GdM w vm vc vp ms cs ps bs) (ha : a < 4294967296) :
  Calls Tryz.prog 141 #[.agg #[vm, vc, .int .u64 bs, vp], .int .u32 a, .int .i64 n] w fun e w' => e = .returned (.tuple #[.int .u64 (ldV ms cs ps bs a n : Int), .agg #[.int .i64 (ldF ps a n).1, .int .u64 ((ldF ps a n).2 : Int)]]) /\ Below w.heap.size w w' := by
 obtain ⟨⟨am, nm, pm, rfl⟩, ⟨ac, nc, pc, rfl⟩, ⟨ap, np, pp, rfl⟩⟩ := hg.shapes
 obtain ⟨X, hX, hb, hsz, c0, c1, c2, c3, g0, g1⟩ := box42 w (.slice am nm pm) (.slice ac nc pc) (.int .u64 bs) (.slice ap np pp) (.int .i64 0) (.int .u64 0)
 have K34 := isWidth34 n X
 have HFIN : Hid (∀ wq x y, Below X.heap.size X wq -> (Free wq ⟨w.heap.size + 1, 0, none⟩ /\ Free wq ⟨w.heap.size + 1, 1, none⟩) /\ Below w.heap.size w ((wq.setCell ⟨w.heap.size + 1, 0, none⟩ x).setCell ⟨w.heap.size + 1, 1, none⟩ y) /\ ((wq.setCell ⟨w.heap.size + 1, 0, none⟩ x).setCell ⟨w.heap.size + 1, 1, none⟩ y).cell? ⟨w.heap.size + 1, 0, none⟩ = some x /\ ((wq.setCell ⟨w.heap.size + 1, 0, none⟩ x).setCell ⟨w.heap.size + 1, 1, none⟩ y).cell? ⟨w.heap.size + 1, 1, none⟩ = some y) := fun wq x y hbq => by
  have F0 : Free wq ⟨w.heap.size + 1, 0, none⟩ := ⟨⟨_, keep_cell hbq g0.cell⟩, keep_frozen hbq (by simp; omega) g0.frozen⟩
  have F1 : Free wq ⟨w.heap.size + 1, 1, none⟩ := ⟨⟨_, keep_cell hbq g1.cell⟩, keep_frozen hbq (by simp; omega) g1.frozen⟩
  obtain ⟨s0, s1⟩ := res2 wq (w.heap.size + 1) x y F0 F1
  exact ⟨⟨F0, F1⟩, ((below_tr hb hbq).setCell (by simp) _).setCell (by simp) _, s0, s1⟩
 cases hi : isW n with
 | false =>
  have HV : Hid (ldV ms cs ps bs a n = 0 /\ ldF ps a n = (0, 0)) := by refine ⟨?_, ?_⟩ <;> simp [ldV, ldF, hi]
  rw [hi] at K34
  have HEND : Hid _ := HFIN.out X (.int .i64 0) (.int .u64 0) (Below.refl _ _)
  have q0 := g0.cell
  have q1 := g1.cell
  have q2 := g0.frozen
  have q3 := g1.frozen
  clear hg hi HFIN
  go_enter Tryz.func141, Tryz.ntmps141
  go_wp2_with fail
  refine K34.mono ?_
  rintro e wz ⟨rfl, rfl⟩
  go_wp2
  obtain ⟨_, u0, u1, u2⟩ := HEND.out
  refine bodyPost_ret (v := .tuple #[.int .u64 0, .agg #[.int .i64 0, .int .u64 0]]) ?_ rfl ⟨by rw [HV.out.1, HV.out.2]; rfl, u0⟩
  rw [results_tmp_cell rfl]; simp [go_sem, u1, u2]
 | true =>
  obtain ⟨k, hk, hk8⟩ : ∃ k : Nat, n = (k : Int) /\ k <= 8 := by
   have h : n = 1 \/ n = 2 \/ n = 4 \/ n = 8 := by simpa [isW, or_assoc] using hi
   refine ⟨n.toNat, ?_, ?_⟩ <;> omega
  subst hk
  have K10 := gbytes10 (.slice am nm pm) (.slice ac nc pc) (.slice ap np pp) bs a k ms cs ps X (hg.keep hb) ha (by omega)
  have w1 : IntKind.u32.wrap (k : Int) = (k : Int) := by rw [IntKind.wrap_u32]; omega
  obtain ⟨T, hT⟩ : ∃ T : ByteArray, T = ⟨(tdL ms cs ps bs a k 1).toArray⟩ := ⟨_, rfl⟩
  obtain ⟨F, hF⟩ : ∃ F, F = ffN ps a k 1 := ⟨_, rfl⟩
  obtain ⟨nv, hv⟩ : ∃ z, z = W.beS T := ⟨_, rfl⟩
  have HV : Hid (ldV ms cs ps bs a k = nv /\ ldF ps a k = F) := by refine ⟨?_, ?_⟩ <;> simp [ldV, ldF, hi, hv, hT, hF]
  have K35 : Hid (∀ w', Calls Tryz.prog 94 #[.string T] w' fun e w'' => e = .returned (.int .u64 nv) /\ Below w'.heap.size w' w'') := fun w' => by rw [hv]; exact W.be_any T w'
  rw [<- hT, <- hF] at K10
  rw [hi] at K34
  obtain ⟨kd, fa⟩ := F
  simp only at K10
  clear hg hi hT hF hv
  go_enter Tryz.func141, Tryz.ntmps141
  go_wp2_with fail
  refine K34.mono ?_
  rintro e wz ⟨rfl, rfl⟩
  clear K34
  go_wp2_with fail
  refine K10.mono ?_
  rintro e wy ⟨rfl, hby⟩
  clear K10
  obtain ⟨W6, hW6⟩ : ∃ z, wy.alloc (.cells #[.int .i64 kd, .int .u64 fa] 38) = z := ⟨_, rfl⟩
  have hb6 : Below wy.heap.size wy W6 := by rw [<- hW6]; exact (Below.refl _ _).alloc (Nat.le_refl _) _
  have k0 : W6.cell? ⟨wy.heap.size, 0, none⟩ = some (.int .i64 kd) := by rw [<- hW6]; exact cell_newA wy _ 38 _ 0 _ rfl rfl
  have k1 : W6.cell? ⟨wy.heap.size, 1, none⟩ = some (.int .u64 fa) := by rw [<- hW6]; exact cell_newA wy _ 38 _ 1 _ rfl rfl
  have HB6 : Hid (Below wz.heap.size wz W6) := below_tr hby hb6
  clear hb6 hby
  go_wp2
  have HK : Hid (∀ wq, Below W6.drew.heap.size W6.drew wq -> wq.cell? ⟨wy.heap.size, 0, none⟩ = some (.int .i64 kd) /\ wq.cell? ⟨wy.heap.size, 1, none⟩ = some (.int .u64 fa) /\ (∃ c, wq.cell? ⟨w.heap.size + 1, 0, none⟩ = some c) /\ (∃ c, wq.cell? ⟨w.heap.size + 1, 1, none⟩ = some c) /\ wq.frozen? ⟨w.heap.size + 1, 0, none⟩ = false /\ wq.frozen? ⟨w.heap.size + 1, 1, none⟩ = false) := fun wq hbq => by
   have hb' := below_tr (Below.refl W6.heap.size W6).drew hbq
   obtain ⟨⟨F0, F1⟩, _⟩ := HFIN.out wq (.int .i64 kd) (.int .u64 fa) (below_tr HB6.out hb')
   exact ⟨keep_cell hb' k0, keep_cell hb' k1, ⟨_, F0.cell⟩, ⟨_, F1.cell⟩, F0.frozen, F1.frozen⟩
  have HEND : Hid (∀ wq, Below W6.drew.heap.size W6.drew wq -> _) := fun wq hbq => HFIN.out wq (.int .i64 kd) (.int .u64 fa) (below_tr HB6.out (below_tr (Below.refl W6.heap.size W6).drew hbq))
  go_region_with (refine (K35.out _).mono ?_; rintro e wG ⟨rfl, hbG⟩; obtain ⟨k2, k3, ⟨_, q0⟩, ⟨_, q1⟩, q2, q3⟩ := HK.out wG hbG)
  all_goals (
   go_wp2
   obtain ⟨_, u0, u1, u2⟩ := HEND.out wG hbG
   refine bodyPost_ret (v := .tuple #[.int .u64 nv, .agg #[.int .i64 kd, .int .u64 fa]]) ?_ rfl ⟨by rw [HV.out.1, HV.out.2], u0⟩
   rw [results_tmp_cell rfl]; simp [go_sem, u1, u2])
set_option maxHeartbeats 1000000 in
theorem gfetch14 (vm vc vp : Value) (bs a : Nat) (ms cs ps : List (Nat × Int)) (w : World) (hg : GdM w vm vc vp ms cs ps bs) (ha : a < 4294967296) :
  Calls Tryz.prog 71 #[.agg #[vm, vc, .int .u64 bs, vp], .int .u32 a] w fun e w' => e = .returned (.tuple #[.int .u32 ((W.beS ⟨(tdL ms cs ps bs a 4 4).toArray⟩ % 4294967296 : Nat) : Int), .agg #[.int .i64 (ffN ps a 4 4).1, .int .u64 ((ffN ps a 4 4).2 : Int)]]) /\ Below w.heap.size w w' := by
 obtain ⟨⟨am, nm, pm, rfl⟩, ⟨ac, nc, pc, rfl⟩, ⟨ap, np, pp, rfl⟩⟩ := hg.shapes
 obtain ⟨X, hX, hb, hsz, c0, c1, c2, c3, g0, g1⟩ := box42 w (.slice am nm pm) (.slice ac nc pc) (.int .u64 bs) (.slice ap np pp) (.int .i64 0) (.int .u64 0)
 have HFIN : Hid (∀ wq x y, Below X.heap.size X wq -> (Free wq ⟨w.heap.size + 1, 0, none⟩ /\ Free wq ⟨w.heap.size + 1, 1, none⟩) /\ Below w.heap.size w ((wq.setCell ⟨w.heap.size + 1, 0, none⟩ x).setCell ⟨w.heap.size + 1, 1, none⟩ y) /\ ((wq.setCell ⟨w.heap.size + 1, 0, none⟩ x).setCell ⟨w.heap.size + 1, 1, none⟩ y).cell? ⟨w.heap.size + 1, 0, none⟩ = some x /\ ((wq.setCell ⟨w.heap.size + 1, 0, none⟩ x).setCell ⟨w.heap.size + 1, 1, none⟩ y).cell? ⟨w.heap.size + 1, 1, none⟩ = some y) := fun wq x y hbq => by
  have F0 : Free wq ⟨w.heap.size + 1, 0, none⟩ := ⟨⟨_, keep_cell hbq g0.cell⟩, keep_frozen hbq (by simp; omega) g0.frozen⟩
  have F1 : Free wq ⟨w.heap.size + 1, 1, none⟩ := ⟨⟨_, keep_cell hbq g1.cell⟩, keep_frozen hbq (by simp; omega) g1.frozen⟩
  obtain ⟨s0, s1⟩ := res2 wq (w.heap.size + 1) x y F0 F1
  exact ⟨⟨F0, F1⟩, ((below_tr hb hbq).setCell (by simp) _).setCell (by simp) _, s0, s1⟩
 have K31 := gtold31 (.slice am nm pm) (.slice ac nc pc) (.slice ap np pp) bs a 4 4 ms cs ps X (hg.keep hb) ha (by omega)
 obtain ⟨T, hT⟩ : ∃ T : ByteArray, T = ⟨(tdL ms cs ps bs a 4 4).toArray⟩ := ⟨_, rfl⟩
 obtain ⟨F, hF⟩ : ∃ F, F = ffN ps a 4 4 := ⟨_, rfl⟩
 obtain ⟨nv, hv⟩ : ∃ z, z = W.beS T := ⟨_, rfl⟩
 have HV : Hid (W.beS ⟨(tdL ms cs ps bs a 4 4).toArray⟩ = nv /\ ffN ps a 4 4 = F) := ⟨by rw [hv, hT], hF.symm⟩
 have K35 : Hid (∀ w', Calls Tryz.prog 94 #[.string T] w' fun e w'' => e = .returned (.int .u64 nv) /\ Below w'.heap.size w' w'') := fun w' => by rw [hv]; exact W.be_any T w'
 rw [<- hT, <- hF] at K31
 obtain ⟨kd, fa⟩ := F
 simp only at K31
 clear hg hT hF hv
 go_enter Tryz.func71, Tryz.ntmps71
 go_wp2_with fail
 refine K31.mono ?_
 rintro e wy ⟨rfl, hby⟩
 clear K31
 obtain ⟨W6, hW6⟩ : ∃ z, wy.alloc (.cells #[.int .i64 kd, .int .u64 fa] 38) = z := ⟨_, rfl⟩
 have hb6 : Below wy.heap.size wy W6 := by rw [<- hW6]; exact (Below.refl _ _).alloc (Nat.le_refl _) _
 have k0 : W6.cell? ⟨wy.heap.size, 0, none⟩ = some (.int .i64 kd) := by rw [<- hW6]; exact cell_newA wy _ 38 _ 0 _ rfl rfl
 have k1 : W6.cell? ⟨wy.heap.size, 1, none⟩ = some (.int .u64 fa) := by rw [<- hW6]; exact cell_newA wy _ 38 _ 1 _ rfl rfl
 have HB6 : Hid (Below X.heap.size X W6) := below_tr hby hb6
 clear hb6 hby
 go_wp2
 have HK : Hid (∀ wq, Below W6.drew.heap.size W6.drew wq -> wq.cell? ⟨wy.heap.size, 0, none⟩ = some (.int .i64 kd) /\ wq.cell? ⟨wy.heap.size, 1, none⟩ = some (.int .u64 fa) /\ (∃ c, wq.cell? ⟨w.heap.size + 1, 0, none⟩ = some c) /\ (∃ c, wq.cell? ⟨w.heap.size + 1, 1, none⟩ = some c) /\ wq.frozen? ⟨w.heap.size + 1, 0, none⟩ = false /\ wq.frozen? ⟨w.heap.size + 1, 1, none⟩ = false) := fun wq hbq => by
  have hb' := below_tr (Below.refl W6.heap.size W6).drew hbq
  obtain ⟨⟨F0, F1⟩, _⟩ := HFIN.out wq (.int .i64 kd) (.int .u64 fa) (below_tr HB6.out hb')
  exact ⟨keep_cell hb' k0, keep_cell hb' k1, ⟨_, F0.cell⟩, ⟨_, F1.cell⟩, F0.frozen, F1.frozen⟩
 have HEND : Hid (∀ wq, Below W6.drew.heap.size W6.drew wq -> _) := fun wq hbq => HFIN.out wq (.int .i64 kd) (.int .u64 fa) (below_tr HB6.out (below_tr (Below.refl W6.heap.size W6).drew hbq))
 have w2 : IntKind.u32.wrap (nv : Int) = ((nv % 4294967296 : Nat) : Int) := by rw [IntKind.wrap_u32]; omega
 go_region_with (refine (K35.out _).mono ?_; rintro e wG ⟨rfl, hbG⟩; obtain ⟨k2, k3, ⟨_, q0⟩, ⟨_, q1⟩, q2, q3⟩ := HK.out wG hbG)
 all_goals (
  go_wp2
  obtain ⟨_, u0, u1, u2⟩ := HEND.out wG hbG
  refine bodyPost_ret (v := .tuple #[.int .u32 ((nv % 4294967296 : Nat) : Int), .agg #[.int .i64 kd, .int .u64 fa]]) ?_ rfl ⟨by rw [HV.out.1, HV.out.2], u0⟩
  rw [results_tmp_cell rfl]; simp [go_sem, u1, u2])
end Go.Proofs.YtimfipkbddpdmaaGreatDoor.Gm
