import Derived.Test.YtimfipkbddpdmaaGreatDoorLast
import Derived.Test.YtimfipkbddpdmaaGreatDoorEach
import Derived.Test.YtimfipkbddpdmaaGreatDoorMGw
import Derived.Test.YtimfipkbddpdmaaGreatDoorMCopied
import Derived.Lib.OwnKind
import Derived.Laws.OwnMore
import Derived.OneCell
import Derived.WalkKit
import Derived.ProofKit
import Derived.OpenShut
import Derived.ChangeOld
import Derived.Below
import Derived.Deep.SlicePairs
import Derived.Deep.Strs
import Derived.Test.YtimfipkbddpdmaaGreatDoorChecked
import Derived.Deep.RegionHeld3
import Derived.LoopTactic
import Derived.Laws.ResultCell
import Derived.OrdersHeld
import Derived.RegionTactic
import Derived.KernelRfl
set_option linter.unusedVariables false
set_option linter.unusedSimpArgs false
set_option maxRecDepth 100000
open Go Go.RowKit
namespace Go.Proofs.YtimfipkbddpdmaaGreatDoor.Gm
open Go.RowKit Go.Shelf
attribute [local go_sem] Oper.semAt_some
end Go.Proofs.YtimfipkbddpdmaaGreatDoor.Gm
namespace Go.Proofs.YtimfipkbddpdmaaGreatDoor.Gm
open Go.RowKit Go.Shelf
attribute [local go_sem] Oper.semAt_some
end Go.Proofs.YtimfipkbddpdmaaGreatDoor.Gm
namespace Go.Proofs.YtimfipkbddpdmaaGreatDoor.Gm
open Go.RowKit Go.Shelf
attribute [local go_sem] Oper.semAt_some
def SlG (w : World) (vm vc vp : Value) (ms cs ps : List (Nat × Int)) : Prop := Sl .i64 w vm ms /\ Sl .u64 w vc cs /\ Pg.Sl .i64 w vp ps
theorem SlG.keep {w w' : World} {vm vc vp : Value} {ms cs ps : List (Nat × Int)} (h : SlG w vm vc vp ms cs ps) (hb : Below w.heap.size w w') : SlG w' vm vc vp ms cs ps := ⟨h.1.keep hb, h.2.1.keep hb, h.2.2.keep hb⟩
theorem SlG.shape {w : World} {vm vc vp : Value} {ms cs ps : List (Nat × Int)} (h : SlG w vm vc vp ms cs ps) : ∃ am nm pm ac nc pc ap np pp, vm = .slice am nm pm /\ vc = .slice ac nc pc /\ vp = .slice ap np pp := by
 obtain ⟨a, p, h1, _⟩ := h.1
 obtain ⟨a', p', h2, _⟩ := h.2.1
 obtain ⟨a'', p'', h3, _⟩ := h.2.2
 exact ⟨_, _, _, _, _, _, _, _, _, h1, h2, h3⟩
open Go.ChangeShapes Go.WideShapes Go.ChangeAt Go.RowKit
theorem hcells25 : Tryz.prog.cellsOf 29 = 2 := by kernel_rfl
theorem hcells54 : Tryz.prog.cellsOf 86 = 2 := by kernel_rfl
theorem hcells58 : Tryz.prog.cellsOf 48 = 2 := by kernel_rfl
theorem hcells26 : Tryz.prog.cellsOf 30 = 1 := by kernel_rfl
theorem hcells22 : Tryz.prog.cellsOf 26 = 1 := by kernel_rfl
theorem hcells23 : Tryz.prog.cellsOf 27 = 1 := by kernel_rfl
theorem hcells3 : Tryz.prog.cellsOf 3 = 1 := by kernel_rfl
theorem spot_none {w : World} {a : Addr} {v : Value} (h : w.cell? a = some v) : a = ⟨a.block, a.off, none⟩ := by
 obtain ⟨b, o, s⟩ := a
 cases s with
 | none => rfl
 | some x =>
  unfold World.cell? at h
  split at h <;> simp at h
theorem bounds_w {n : Int} (h : (Lit.int .u64 n).wf = true) : 0 <= n /\ n < 18446744073709551616 := by
 simp [Lit.wf, IntKind.min, IntKind.max, IntKind.signed, IntKind.bits] at h
 omega
theorem openPairs {H : Type} {enc : TypeId × Value -> H} {W : World} {k : IntKind} {t e f : TypeId} {n0 n1 g0 g1 k0 k1 : String} {b0 b1 : Nat} (ht : Tryz.prog.underlying t = some (.slice e))
  (he : Tryz.prog.underlying e = some (.struct #[{ name := n0, type := 30, offset := 0, embedded := false, tag := g0, pkgPath := k0, byteOffset := b0 }, { name := n1, type := f, offset := 1, embedded := false, tag := g1, pkgPath := k1, byteOffset := b1 }]))
  (ce : Tryz.prog.cellsOf e = 2) (cf : Tryz.prog.cellsOf f = 1) (hf : Tryz.prog.underlying f = some (.int k)) {fuel : Nat} {v : Value} {x : DataW H × List MemPlace}
  (h : DataW.trod enc Tryz.prog W 0 (fun _ => true) true fuel t [v] = some x) :
  ∃ xs : List (Nat × Int), Sl k W v xs /\ (∀ y ∈ xs, y.1 < 18446744073709551616) /\ (∀ y ∈ xs, (Lit.int k y.2).wf = true) := by
 rcases Deep.open_slice_pairs ht he ce rfl rfl hcells26 cf h with ⟨hv, _⟩ | ⟨a, len, cap, m, n, V0, V1, D0, D1, P0, P1, hv, _, hl, hc, hm, _, hx⟩
 ·simp at hv; subst hv
  exact ⟨[], ⟨none, 0, rfl, by simp, by omega, fun _ => rfl, fun i hi => by simp at hi⟩, by simp, by simp⟩
 simp at hv; subst hv
 have hlm : len <= m := by rw [hm]; simpa using hl
 have each : ∀ i, i < len -> W.cell? (a.add (i * 2)) = some (.int .u64 (((intOf (V0 i)).toNat : Nat) : Int)) /\ W.cell? (a.add (i * 2 + 1)) = some (.int k (intOf (V1 i))) /\ (intOf (V0 i)).toNat < 18446744073709551616 /\ (Lit.int k (intOf (V1 i))).wf = true := by
  intro i hi
  obtain ⟨c0, c1, t0, t1⟩ := hx i (by omega)
  obtain ⟨z0, e0, _, w0⟩ := DataW.trod_int Tryz.underlying30 t0
  obtain ⟨z1, e1, _, w1⟩ := DataW.trod_int hf t1
  simp at e0 e1
  obtain ⟨l0, l1⟩ := bounds_w w0
  rw [e0] at c0 |-
  rw [e1] at c1 |-
  refine ⟨?_, c1, ?_, w1⟩
  ·rw [c0]; simp only [intOf]; rw [Int.toNat_of_nonneg l0]
  ·simp only [intOf]; omega
 refine ⟨(List.range len).map (fun i => ((intOf (V0 i)).toNat, intOf (V1 i))), ⟨some a, cap, by simp, by simpa using hl, by unfold maxLen at hc; omega, by simp, fun i hi => ?_⟩, ?_, ?_⟩
 ·simp at hi
  obtain ⟨c0, c1, _, _⟩ := each i hi
  have ha := spot_none (each 0 (by omega)).1
  rw [show a.add (0 * 2) = a by rfl] at ha
  refine ⟨a.block, a.off, by rw [<- ha], ?_, ?_⟩
  ·rw [ha, add_pl] at c0
   simpa using c0
  ·rw [ha, add_pl, <- Nat.add_assoc] at c1
   simpa using c1
 ·intro y hy
  simp at hy
  obtain ⟨i, hi, rfl⟩ := hy
  exact (each i hi).2.2.1
 ·intro y hy
  simp at hy
  obtain ⟨i, hi, rfl⟩ := hy
  exact (each i hi).2.2.2
theorem hcells29 : Tryz.prog.cellsOf 33 = 4 := by kernel_rfl
theorem hcells27 : Tryz.prog.cellsOf 31 = 1 := by kernel_rfl
theorem hcells46 : Tryz.prog.cellsOf 45 = 2 := by kernel_rfl
theorem hcells30 : Tryz.prog.cellsOf 22 = 1 := by kernel_rfl
theorem bounds_u32 {n : Int} (h : (Lit.int .u32 n).wf = true) : 0 <= n /\ n < 4294967296 := by
 simp [Lit.wf, IntKind.min, IntKind.max, IntKind.signed, IntKind.bits] at h
 omega
theorem openPg {H : Type} {enc : TypeId × Value -> H} {W : World} {k : IntKind} {t e f : TypeId} {n0 n1 g0 g1 k0 k1 : String} {b0 b1 : Nat} (ht : Tryz.prog.underlying t = some (.slice e))
  (he : Tryz.prog.underlying e = some (.struct #[{ name := n0, type := 22, offset := 0, embedded := false, tag := g0, pkgPath := k0, byteOffset := b0 }, { name := n1, type := f, offset := 1, embedded := false, tag := g1, pkgPath := k1, byteOffset := b1 }]))
  (ce : Tryz.prog.cellsOf e = 2) (cf : Tryz.prog.cellsOf f = 1) (hf : Tryz.prog.underlying f = some (.int k)) {fuel : Nat} {v : Value} {x : DataW H × List MemPlace}
  (h : DataW.trod enc Tryz.prog W 0 (fun _ => true) true fuel t [v] = some x) :
  ∃ xs : List (Nat × Int), Pg.Sl k W v xs /\ (∀ y ∈ xs, y.1 < 4294967296) /\ (∀ y ∈ xs, (Lit.int k y.2).wf = true) := by
 rcases Deep.open_slice_pairs ht he ce rfl rfl hcells30 cf h with ⟨hv, _⟩ | ⟨a, len, cap, m, n, V0, V1, D0, D1, P0, P1, hv, _, hl, hc, hm, _, hx⟩
 ·simp at hv; subst hv
  exact ⟨[], ⟨none, 0, rfl, by simp, by omega, fun _ => rfl, fun i hi => by simp at hi⟩, by simp, by simp⟩
 simp at hv; subst hv
 have hlm : len <= m := by rw [hm]; simpa using hl
 have each : ∀ i, i < len -> W.cell? (a.add (i * 2)) = some (.int .u32 (((intOf (V0 i)).toNat : Nat) : Int)) /\ W.cell? (a.add (i * 2 + 1)) = some (.int k (intOf (V1 i))) /\ (intOf (V0 i)).toNat < 4294967296 /\ (Lit.int k (intOf (V1 i))).wf = true := by
  intro i hi
  obtain ⟨c0, c1, t0, t1⟩ := hx i (by omega)
  obtain ⟨z0, e0, _, w0⟩ := DataW.trod_int Tryz.underlying22 t0
  obtain ⟨z1, e1, _, w1⟩ := DataW.trod_int hf t1
  simp at e0 e1
  obtain ⟨l0, l1⟩ := bounds_u32 w0
  rw [e0] at c0 |-
  rw [e1] at c1 |-
  refine ⟨?_, c1, ?_, w1⟩
  ·rw [c0]; simp only [intOf]; rw [Int.toNat_of_nonneg l0]
  ·simp only [intOf]; omega
 refine ⟨(List.range len).map (fun i => ((intOf (V0 i)).toNat, intOf (V1 i))), ⟨some a, cap, by simp, by simpa using hl, by unfold maxLen at hc; omega, by simp, fun i hi => ?_⟩, ?_, ?_⟩
 ·simp at hi
  obtain ⟨c0, c1, _, _⟩ := each i hi
  have ha := spot_none (each 0 (by omega)).1
  rw [show a.add (0 * 2) = a by rfl] at ha
  refine ⟨a.block, a.off, by rw [<- ha], ?_, ?_⟩
  ·rw [ha, add_pl] at c0
   simpa using c0
  ·rw [ha, add_pl, <- Nat.add_assoc] at c1
   simpa using c1
 ·intro y hy
  simp at hy
  obtain ⟨i, hi, rfl⟩ := hy
  exact (each i hi).2.2.1
 ·intro y hy
  simp at hy
  obtain ⟨i, hi, rfl⟩ := hy
  exact (each i hi).2.2.2
theorem list4 {α : Type} (l : List α) (h : (⟨l⟩ : Array α).size = 4) : ∃ a b c d, l = [a, b, c, d] := by
 match l, h with
 | [a, b, c, d], _ => exact ⟨a, b, c, d, rfl⟩
theorem openGuest {H : Type} {enc : TypeId × Value -> H} {W : World} {base : Nat} {v : Value} {d : DataW H} {p : List MemPlace} (hv : Value.okWide Tryz.prog W .any base 33 v) (h : DataW.Trod enc Tryz.prog W 0 (fun _ => true) true 33 v d p) :
  ∃ vm vc vp ms cs ps, ∃ bs : Nat, v = .agg #[vm, vc, .int .u64 bs, vp] /\ SlG W vm vc vp ms cs ps /\ (∀ y ∈ cs, y.1 < 18446744073709551616) /\ Words cs /\ bs < 18446744073709551616 /\ (∀ y ∈ ps, y.1 < 4294967296) := by
 obtain ⟨cs, rfl, hsz, _⟩ : ∃ cs, v = .agg cs /\ cs.size = Tryz.prog.cellsOf 33 /\ Row.okWide Tryz.prog W .any base 33 cs := by
  simpa [Value.okWide, Tryz.underlying33] using hv
 rw [hcells29] at hsz
 obtain ⟨l⟩ := cs
 obtain ⟨vm, vc, vb, vp, rfl⟩ := list4 l hsz
 obtain ⟨fuel, hf⟩ := h
 obtain ⟨y0, y1, y2, n, _, _, h0, h1, h2⟩ := Deep.trod_struct3 Tryz.underlying33 hf
 simp [hcells25, hcells26, hcells27, Value.cells] at h0 h1 h2
 obtain ⟨z0, z1, n', _, _, g0, g1⟩ := trod_struct2 Tryz.underlying29 h0
 simp [hcells22, hcells23] at g0 g1
 obtain ⟨ms, s1, r1, q1⟩ := openPairs Tryz.underlying26 Tryz.underlying86 hcells54 hcells3 Tryz.underlying3 g0
 obtain ⟨cs, s2, r2, q2⟩ := openPairs Tryz.underlying27 Tryz.underlying48 hcells58 hcells26 Tryz.underlying30 g1
 obtain ⟨b, e1, _, w1⟩ := DataW.trod_int Tryz.underlying30 h1
 obtain ⟨ps, s3, r3, q3⟩ := openPg Tryz.underlying31 Tryz.underlying45 hcells46 hcells3 Tryz.underlying3 h2
 simp at e1
 subst e1
 obtain ⟨b1, b2⟩ := bounds_w w1
 obtain ⟨bs, rfl⟩ := Int.eq_ofNat_of_zero_le b1
 exact ⟨vm, vc, vp, ms, cs, ps, bs, rfl, ⟨s1, s2, s3⟩, r2, fun y hy => bounds_w (q2 y hy), by omega, r3⟩
end Go.Proofs.YtimfipkbddpdmaaGreatDoor.Gm
namespace Go.Proofs.YtimfipkbddpdmaaGreatDoor
theorem keep_cell {w w' : World} (h : Below w.heap.size w w') {a : Addr} {v : Value} (hc : w.cell? a = some v) : w'.cell? a = some v :=
 (h.cell (World.block_lt_of_cell? w a hc)).trans hc
theorem below_tr {w w1 w2 : World} (h : Below w.heap.size w w1) (h' : Below w1.heap.size w1 w2) : Below w.heap.size w w2 := h.trans (h'.mono h.size)
theorem keep_frozen {w w' : World} (h : Below w.heap.size w w') {a : Addr} (hc : a.block < w.heap.size) (hf : w.frozen? a = false) : w'.frozen? a = false :=
 (h.frozen hc).trans hf
theorem results_cell1 {fn : Func} {p : Tmp} {ty : TypeId} (h : fn.results = #[.cell p ty]) (tmps : Array Value) (P : Program) (w : World) :
  (results fn tmps).run P w = ((asAddr (tmps.getD p undef)).run P w).andThen fun a w₁ => (loadVar ty a).run P w₁ := by
 simp only [results, h]
 simp [Sem.run_bind, Result.andThen]
theorem cell_newA (W : World) (cs : Array Value) (t n i : Nat) (x : Value) (h : n = W.heap.size) (hx : cs[i]? = some x) : (W.alloc (.cells cs t)).cell? ⟨n, i, none⟩ = some x := by
 subst h; rw [World.cell?_alloc_at _ _ _ _ (by simp)]; exact hx
theorem cell_old {w : World} {a : Addr} {v : Value} (h : w.cell? a = some v) (o : Obj) : (w.alloc o).cell? a = some v := keep_cell ((Below.refl _ _).alloc (Nat.le_refl _) _) h
theorem cell_drew {w : World} {a : Addr} {v : Value} (h : w.cell? a = some v) : w.drew.cell? a = some v := by rw [World.cell?_drew]; exact h
def Free (w : World) (a : Addr) : Prop := (∃ u, w.cell? a = some u) /\ w.frozen? a = false
def cellAt (w : World) (a : Addr) : Value := (w.cell? a).getD undef
theorem Free.cell {w : World} {a : Addr} (h : Free w a) : w.cell? a = some (cellAt w a) := by
 obtain ⟨⟨u, hu⟩, _⟩ := h
 rw [cellAt, hu]; rfl
theorem Free.frozen {w : World} {a : Addr} (h : Free w a) : w.frozen? a = false := h.2
theorem Free.keep {w w' : World} (hb : Below w.heap.size w w') {a : Addr} (h : Free w a) : Free w' a := by
 obtain ⟨⟨u, hu⟩, hf⟩ := h
 exact ⟨⟨u, keep_cell hb hu⟩, keep_frozen hb (World.block_lt_of_cell? w a hu) hf⟩
theorem Free.drew {w : World} {a : Addr} (h : Free w a) : Free w.drew a := h.keep (Below.refl _ _).drew
theorem Free.set {w : World} {a : Addr} (h : Free w a) (p : Addr) (v : Value) : Free (w.setCell p v) a := by
 obtain ⟨⟨u, hu⟩, hf⟩ := h
 refine ⟨?_, by rw [World.frozen?_setCell]; exact hf⟩
 by_cases e : p = a
 ·subst e
  exact ⟨v, World.cell?_setCell_same w p v hu⟩
 ·exact ⟨u, (World.cell?_setCell_other w p a v e).trans hu⟩
theorem results_cell_tmp {fn : Func} {p u : Tmp} {ty : TypeId} (h : fn.results = #[.cell p ty, .tmp u]) (tmps : Array Value) (P : Program) (w : World) :
  (results fn tmps).run P w = ((asAddr (tmps.getD p undef)).run P w).andThen fun a w₁ => ((loadVar ty a).run P w₁).andThen fun v w₂ => .ok (.tuple #[v, tmps.getD u undef]) w₂ := by
 simp only [results, h]
 simp [Sem.run_bind, Result.andThen]
end Go.Proofs.YtimfipkbddpdmaaGreatDoor
namespace Go.Proofs.YtimfipkbddpdmaaGreatDoor
variable {P : Program} {md : Region.Mode} {ops : Array Oper} {Q : Exit -> Act -> World -> Prop} {S : World -> Prop} {fuel : Nat} {listed : Array Bool} {a : Act} {w : World}
theorem yes {c : Prop} [Decidable c] {a b : Prop} (ha : a) (h : c := by kernel_rfl) : if c then a else b := by rw [if_pos h]; exact ha
theorem ready1 {o : Oper} (i : Nat) (h : ∀ K' : Act -> World -> Prop, (∀ a w, wpAny P md ops Q fuel (listed.setIfInBounds i true) a w -> K' a w) -> if Region.wanted o (yielded ops a.tmps) = true then Oper.wp P o a w K' Q else K' (a.put o.dst undef) w)
  (ho : ops[i]? = some o := by rfl) (hr : Region.ready md ops listed = [i] := by kernel_rfl) : wpAny P md ops Q (fuel + 1) listed a w :=
 wpAny_ready hr (by simp) (AllReady.cons ho h AllReady.nil)
theorem readyH {o : Oper} (i : Nat) (h : ∀ K' : Act -> World -> Prop, Shut (∀ a w, S w -> (S w -> wpAnyH P md ops Q S fuel (listed.setIfInBounds i true) a w) -> K' a w) -> if Region.wanted o (yielded ops a.tmps) = true then Oper.wp P o a w K' Q else K' (a.put o.dst undef) w)
  (ho : ops[i]? = some o := by rfl) (hr : Region.ready md ops listed = [i] := by kernel_rfl) : wpAnyH P md ops Q S (fuel + 1) listed a w :=
 wpAnyH_ready hr (by simp) (AllReadyH.cons ho h AllReadyH.nil)
theorem takeH {o : Oper} (i : Nat) (v : Value) (hS : S w) (h : wpAnyH P md ops Q S fuel (listed.setIfInBounds i true) (a.put o.dst v) w)
  (ho : ops[i]? = some o := by rfl) (hs : Region.noSelect ops = true := by kernel_rfl) (hf : Region.free md ops listed i = true := by kernel_rfl) (hr : (Region.ready md ops listed).contains i = true := by kernel_rfl)
  (hQ : ∀ c a w, Q (.panic c) (a.put o.dst v) w -> Q (.panic c) a w := by exact fun _ _ _ h => h)
  (hy : YieldsIf P ops S o v a := by (refine Or.inl ⟨by rfl, ?_⟩; intro w hSw; dsimp only at hSw; first | (go_simp; done) | (obtain ⟨s0, s1, s2, s3, s4⟩ := hSw; go_simp; done) | (obtain ⟨⟨s0, s1, s2, s3, s4, s5⟩, sm⟩ := hSw; go_simp; done) | (obtain ⟨s0, s1, s2, s3, s4, s5⟩ := hSw; go_simp; done))) : wpAnyH P md ops Q S (fuel + 1) listed a w :=
 wpAnyH_take ho hs hf hr hQ hy hS h
end Go.Proofs.YtimfipkbddpdmaaGreatDoor
namespace Go.Proofs.YtimfipkbddpdmaaGreatDoor
section
variable {P : Program} {ops : Array Oper} {Q : Exit -> Act -> World -> Prop}
def putVs : List Value -> List Oper -> Act -> Act
 | v :: vs, o :: l, a => putVs vs l (a.put o.dst v)
 | _, _, a => a
theorem putVs_keep : ∀ (vs : List Value) (l : List Oper) (a : Act), (putVs vs l a).tmps.size = a.tmps.size /\ (putVs vs l a).defers = a.defers /\
  ∀ t, (∀ o ∈ l, o.dst ≠ some t) -> (putVs vs l a).tmps.getD t undef = a.tmps.getD t undef
 | [], l, a => ⟨rfl, rfl, fun _ _ => rfl⟩
 | _ :: _, [], a => ⟨rfl, rfl, fun _ _ => rfl⟩
 | v :: vs, o :: l, a => by
  obtain ⟨h1, h2, h3⟩ := putVs_keep vs l (a.put o.dst v)
  refine ⟨h1.trans (put_size _ _ _), h2.trans (put_defers' _ _ _), fun t ht => ?_⟩
  rw [putVs, h3 t (fun o' ho' => ht o' (List.mem_cons_of_mem _ ho')), put_getD_ne a v (ht o (List.mem_cons_self ..))]
def looksB (ops : Array Oper) (m : Nat) (o : Oper) : Bool :=
 (o.looksAt ops).all (fun t => !ownM ops m t || waitsB ops o t) && (match o.op with | .select _ _ => false | _ => true)
theorem skips {b : Bool} {p q : Prop} (h : b = false) (hq : q) : if b = true then p else q := by rw [h]; exact hq
def Lands (w : World) (C X : Act) (w' : World) : Prop := Below w.heap.size w w' /\ X = C
theorem lands {w : World} {C : Act} : Lands w C C w := ⟨Below.refl _ _, rfl⟩
theorem landsAt {w w' : World} {C : Act} (h : Below w.heap.size w w') : Lands w C C w' := ⟨h, rfl⟩
def EachV (P : Program) (ops : Array Oper) (C : Act) (W : World) (o : Oper) : Prop :=
 ∀ w, Below W.heap.size W w -> if Region.wanted o (yielded ops C.tmps) = true then Oper.wp P o C w (Lands w C) (fun _ _ _ => False) else C.put o.dst undef = C
def EachVs (P : Program) (ops : Array Oper) (C : Act) (W : World) : List Oper -> Prop
 | [] => True
 | o :: l => EachV P ops C W o /\ EachVs P ops C W l
theorem EachVs.get {C : Act} {W : World} : ∀ {l : List Oper} {i : Nat} {o : Oper}, EachVs P ops C W l -> l[i]? = some o -> EachV P ops C W o
 | [], _, _, _, h => by simp at h
 | x :: l, 0, o, h, e => by simp at e; exact e ▸ h.1
 | x :: l, i + 1, o, h, e => EachVs.get h.2 (by simpa using e)
theorem put_val {C : Act} {d : Nat} {v : Value} (h : C.put (some d) v = C) (hd : d < C.tmps.size) : v = C.tmps.getD d undef := by
 rw [<- put_getD_self C v hd, h]
theorem upon_vals {o : Oper} {A C : Act} {w : World} {K : Act -> World -> Prop} (hd : ∀ d, o.dst = some d -> d < C.tmps.size)
  (hK : ∀ v w', Below w.heap.size w w' -> (∀ d, o.dst = some d -> v = C.tmps.getD d undef) -> K (A.put o.dst v) w') :
  ∀ r, o.upon P C (Lands w C) (fun _ _ _ => False) r -> o.upon P A K Q r := by
 have go : ∀ v w', Below w.heap.size w w' /\ C.put o.dst v = C -> K (A.put o.dst v) w' := fun v w' h => hK v w' h.1 (fun d e => put_val (e ▸ h.2) (hd d e))
 intro r h
 cases r with
 | ok n w' =>
  cases n with
  | value v => exact go v w' h
  | skip => exact go _ w' h
  | defer d =>
   have h1 := congrArg Act.defers (show _ /\ _ from h).2
   rw [put_defers'] at h1
   exact absurd (congrArg List.length h1) (by simp)
  | enter f args =>
   refine Calls.mono (P := P) (f := f) (args := args) (w := w') h fun e w'' he => ?_
   cases e with
   | returned v => exact go v w'' he
   | panicked c => exact he.elim
   | outgrown => obtain ⟨_, _, h⟩ := he; exact h.elim
  | row row args => exact Rows.mono h fun v w'' he => go v w'' he
  | _ => exact h.elim
 | halt s w' =>
  cases s with
  | panic v => exact h.elim
  | _ => exact h.elim
theorem get_eq {A C : Array Value} {t : Nat} (hs : A.size = C.size) (h : A.getD t undef = C.getD t undef) : A[t]? = C[t]? := by
 rcases Nat.lt_or_ge t A.size with c | c
 ·have c' : t < C.size := hs ▸ c
  simpa [c, c'] using h
 ·rw [Array.getElem?_eq_none c, Array.getElem?_eq_none (hs ▸ c)]
theorem vals_is {n m : Nat} (h : eachB ops n = true) (hm : m <= ops.size) {a A C : Act} (hn : a.tmps.size = n) (hC1 : C.tmps.size = a.tmps.size) (hC2 : C.defers = a.defers) (hC3 : ∀ t, ownM ops m t = false -> C.tmps.getD t undef = a.tmps.getD t undef)
  (hv : ∀ j, j < m -> slotJ ops A j = slotJ ops C j) (he : putM ops m (slotJ ops A) a = A) : A = C := by
 obtain ⟨g1, g2, g3, g4⟩ := putAll_go h (slotJ ops A) a hn m hm
 unfold putM at he
 rw [he] at g1 g2 g3 g4
 refine act_ext (g1.trans (hn.symm.trans hC1.symm)) (g2.trans hC2.symm) (fun t => ?_)
 cases ht : ownM ops m t with
 | true =>
  obtain ⟨i, hi, e⟩ := ownM_is ht
  cases ho : ops[i]? with
  | none => rw [ho] at e; cases e
  | some o =>
   have hdo : o.dst = some t := by rw [ho] at e; exact e
   rw [g4 i o t hi ho hdo, hv i hi]
   simp [slotJ, ho, hdo]
 | false =>
  rw [hC3 t ht]
  exact g3 t (fun j o hj ho hdo => by rw [ownM_of hj ho hdo] at ht; cases ht)
theorem wp_region_vals {id : Nat} {a : Act} {W : World} {l : List Oper} (vs : List Value) (n m : Nat) (hm : P.follows .mixedOrders = true) (hn : a.tmps.size = n) (hB : eachB l.toArray n = true) (hml : m <= l.length) (hC : cutB l.toArray m = true) (hL : (l.take m).all (looksB l.toArray m) = true)
  (h : ∀ C, C = putVs vs (l.take m) a -> EachVs P l.toArray C W (l.take m) /\ ∀ w', Below W.heap.size W w' -> wpAny P .any l.toArray Q (l.length - m) (cutArr l.length m) C w') : (Code.region id l.toArray true).wp P Q a W := by
 obtain ⟨hop, hrest⟩ := h _ rfl
 obtain ⟨c1, c2, c3⟩ := putVs_keep vs (l.take m) a
 have c3' : ∀ t, ownM l.toArray m t = false -> (putVs vs (l.take m) a).tmps.getD t undef = a.tmps.getD t undef := fun t ht => c3 t fun o ho hd => by
  obtain ⟨i, hi, e⟩ := List.mem_iff_getElem.1 ho
  have hi' : i < m := by simp at hi; omega
  have : l.toArray[i]? = some o := by
   have : (l.take m)[i]? = some o := by rw [List.getElem?_eq_getElem hi, e]
   rw [List.getElem?_take_of_lt hi'] at this
   simpa using this
  rw [ownM_of hi' this hd] at ht; cases ht
 generalize putVs vs (l.take m) a = C at hop hrest c1 c2 c3'
 clear c3
 have htr : ∀ w w' w'', Below w.heap.size w w' -> Below w'.heap.size w' w'' -> Below w.heap.size w w'' := fun _ _ _ h h' => h.trans (h'.mono h.size)
 refine wp_region_any hm (wpAny_of_eachC (V := fun i v w => v = slotJ l.toArray C i) (R := fun w w' => Below w.heap.size w w') hn hB (by simpa using hml) hC htr (fun _ _ _ _ _ _ h => h) (fun i o him ho A w hW hs hout hdep K hK => ?_) (fun A w' hW hv he => ?_) l.toArray.size _ a _ (by simp) (by simp) (fun j hj hjs => ?_) (fun j hj => ?_) ⟨(Below.refl _ _).drew, rfl, rfl, fun _ _ => rfl, fun j hj hjl => ?_⟩)
 ·have hi' : (l.take m)[i]? = some o := by rw [List.getElem?_take_of_lt him]; simpa using ho
  have hlook := List.all_eq_true.1 hL o (List.mem_of_getElem? hi')
  unfold looksB at hlook
  obtain ⟨hlook, hsel⟩ := Bool.and_eq_true_iff.1 hlook
  have hsame : ∀ t, t ∈ o.looksAt l.toArray -> A.tmps.getD t undef = C.tmps.getD t undef := fun t ht => by
   have h1 := List.all_eq_true.1 hlook t ht
   simp only [Bool.or_eq_true, Bool.not_eq_true'] at h1
   rcases h1 with h1 | h1
   ·rw [hout t h1, c3' t h1]
   ·unfold waitsB at h1
    simp only [Array.any_eq_true', Bool.and_eq_true, beq_iff_eq] at h1
    obtain ⟨e, he, hb, hd⟩ := h1
    have h2 := hdep e he hb
    simp only [slotJ, hd] at h2
    exact h2
  have hev : execOp A.eval o = execOp C.eval o := execOp_congr o (fun cs b e => by rw [e] at hsel; cases hsel) fun x hx => by
   cases x with
   | tmp t => exact hsame t (List.mem_append_left _ (List.mem_filterMap.2 ⟨.tmp t, by simpa using hx, rfl⟩))
   | _ => rfl
  have hw : Region.wanted o (yielded l.toArray A.tmps) = Region.wanted o (yielded l.toArray C.tmps) := by
   unfold Region.wanted
   cases hg : o.guard with
   | none => rfl
   | some g =>
    obtain ⟨g, b⟩ := g
    simp only
    unfold yielded
    cases hb : (l.toArray[g]?).bind (·.dst) with
    | none => rfl
    | some t =>
     have := get_eq (hs.trans c1.symm) (hsame t (List.mem_append_right _ (by rw [hg]; simp only [hb]; simp)))
     simp only [Option.bind_some, this]
  have hsz : ∀ d, o.dst = some d -> d < C.tmps.size := fun d hd => by rw [c1, hn]; exact eachB_lt hB ho hd
  have hK' : ∀ v w', Below w.heap.size w w' -> (∀ d, o.dst = some d -> v = C.tmps.getD d undef) -> K (A.put o.dst v) w' := fun v w' hb hv => hK v w' hb (by
   cases hd : o.dst with
   | none => simp [slotJ, ho, hd]
   | some d => simpa [slotJ, ho, hd] using hv d hd)
  have h1 := (hop.get hi') w hW
  rw [hw]
  split at h1
  ·rename_i hy
   rw [if_pos hy]
   unfold Oper.wp at h1 |-
   rw [hev]
   exact upon_vals hsz hK' _ h1
  ·rename_i hy
   rw [if_neg hy]
   exact hK' _ _ (Below.refl _ _) fun d hd => put_val (hd ▸ h1) (hsz d hd)
 ·obtain rfl : A = C := vals_is hB (by simpa using hml) hn c1 c2 c3' hv he
  simpa using hrest w' hW
 ·have : j < l.length := by simpa using hjs
  simp [this]
 ·exfalso
  rcases Nat.lt_or_ge j l.toArray.size with h | h
  ·simp at h; simp [h] at hj
  ·rw [Array.getD_eq_getD_getElem?, Array.getElem?_eq_none (by simpa using h)] at hj; cases hj
 ·exfalso
  rcases Nat.lt_or_ge j l.toArray.size with h | h
  ·simp at h; simp [h] at hjl
  ·rw [Array.getD_eq_getD_getElem?, Array.getElem?_eq_none (by simpa using h)] at hjl; cases hjl
theorem ready_all {l : List Oper} : Region.ready .any l.toArray (cutArr l.length l.length) = [] := by
 unfold Region.ready
 rw [List.filter_eq_nil_iff]
 intro i hi
 have : i < l.length := by simpa using hi
 simp [cutArr, this]
theorem wp_region_valsA {id : Nat} {a : Act} {W : World} {l : List Oper} (vs : List Value) (n : Nat) (hm : P.follows .mixedOrders = true) (hn : a.tmps.size = n) (hB : eachB l.toArray n = true) (hC : cutB l.toArray l.length = true) (hL : l.all (looksB l.toArray l.length) = true)
  (h : ∀ C, C = putVs vs l a -> EachVs P l.toArray C W l /\ ∀ w', Below W.heap.size W w' -> Q .normal C w') : (Code.region id l.toArray true).wp P Q a W := by
 refine wp_region_vals vs n l.length hm hn hB (Nat.le_refl _) hC (by rw [List.take_length]; exact hL) (fun C hC => ?_)
 rw [List.take_length] at hC |-
 refine ⟨(h C hC).1, fun w' hw => ?_⟩
 rw [Nat.sub_self]
 exact ⟨ready_all, (h C hC).2 w' hw⟩
theorem last_go {l : List Oper} {n m : Nat} {oL : Oper} {C : Act} {w' : World} (hB : eachB l.toArray n = true) (hlen : l.length = m + 1) (hoL : l[m]? = some oL) (hgL : oL.guard = none)
  (hend : ∀ K : Act -> World -> Prop, Shut (∀ A w, Q .normal A w -> K A w) -> Oper.wp P oL C w' K Q) : wpAny P .any l.toArray Q (l.length - m) (cutArr l.length m) C w' := by
 rw [show l.length - m = 1 by omega]
 refine ⟨fun hr => ?_, fun i hi => ?_⟩
 ·exfalso
  have := ready_nil hB (by simp [cutArr, hlen]) hr (m + 1) m (by omega) (by simp; omega)
  simp [cutArr, hlen] at this
 ·obtain ⟨hu, o, ho, hd⟩ := mem_ready.1 hi
  have hi' : i < l.length := by simpa using (Array.getElem?_eq_some_iff.1 ho).1
  obtain rfl : i = m := by
   rcases Nat.lt_or_ge i m with h | h
   ·exfalso
    simp [cutArr, hlen, List.getElem?_append, h] at hu
   ·omega
  unfold wpOp
  simp only [show l.toArray[i]? = some oL by simpa using hoL]
  rw [if_pos (by unfold Region.wanted; rw [hgL])]
  refine .inl (hend _ fun A w h => ⟨?_, h⟩)
  unfold Region.ready
  rw [List.filter_eq_nil_iff]
  intro j hj
  have hj' : j < i + 1 := by simpa [hlen] using hj
  have : ((cutArr l.length i).setIfInBounds i true).getD j true = true := by
   rcases Nat.lt_or_ge j i with h | h
   ·simp [cutArr, hlen, Array.getElem?_setIfInBounds, List.getElem?_append, h, Nat.ne_of_gt h]
   ·obtain rfl : j = i := by omega
    simp [cutArr, hlen]
  simp [this]
theorem wp_region_valsL {id : Nat} {a : Act} {W : World} {l : List Oper} (vs : List Value) (n m : Nat) (oL : Oper) (hm : P.follows .mixedOrders = true) (hn : a.tmps.size = n) (hB : eachB l.toArray n = true) (hlen : l.length = m + 1) (hoL : l[m]? = some oL) (hgL : oL.guard = none) (hC : cutB l.toArray m = true) (hL : (l.take m).all (looksB l.toArray m) = true)
  (h : ∀ C, C = putVs vs (l.take m) a -> EachVs P l.toArray C W (l.take m) /\ ∀ w', Below W.heap.size W w' -> ∀ K : Act -> World -> Prop, Shut (∀ A w, Q .normal A w -> K A w) -> Oper.wp P oL C w' K Q) : (Code.region id l.toArray true).wp P Q a W :=
 wp_region_vals vs n m hm hn hB (by omega) hC hL fun C hC => ⟨(h C hC).1, fun w' hw => last_go hB hlen hoL hgL ((h C hC).2 w' hw)⟩
theorem wp_region_cutL {id : Nat} {a : Act} {W : World} {l : List Oper} {R : World -> World -> Prop} (L : List (Know R)) (n m : Nat) (oL : Oper) (hm : P.follows .mixedOrders = true) (hn : a.tmps.size = n) (hB : eachB l.toArray n = true) (hlen : l.length = m + 1) (hoL : l[m]? = some oL) (hgL : oL.guard = none) (hC : cutB l.toArray m = true)
  (hR0 : R W W.drew) (hR : ∀ w w' w'', R w w' -> R w' w'' -> R w w'') (hop : ∀ Q', EachOpsC P m l.toArray Q' L a W (l.take m))
  (hend : ∀ (f : Nat -> Value) (w' : World), R W w' -> (∀ t, ownM l.toArray m t = true -> knowAt L t (f t) w') -> ∀ (A : Act), A = putSl f (l.take m) a -> ∀ K : Act -> World -> Prop, Shut (∀ A w, Q .normal A w -> K A w) -> Oper.wp P oL A w' K Q) : (Code.region id l.toArray true).wp P Q a W :=
 wp_region_cut L n m hm hn hB (by omega) hC hR0 hR hop fun f w' hw hf A hA => last_go hB hlen hoL hgL (hend f w' hw hf A hA)
theorem wp_region_cutA {id : Nat} {a : Act} {W : World} {l : List Oper} {R : World -> World -> Prop} (L : List (Know R)) (n : Nat) (hm : P.follows .mixedOrders = true) (hn : a.tmps.size = n) (hB : eachB l.toArray n = true) (hC : cutB l.toArray l.length = true)
  (hR0 : R W W.drew) (hR : ∀ w w' w'', R w w' -> R w' w'' -> R w w'') (hop : ∀ Q', EachOpsC P l.length l.toArray Q' L a W l)
  (hend : ∀ (f : Nat -> Value) (w' : World), R W w' -> (∀ t, ownM l.toArray l.length t = true -> knowAt L t (f t) w') -> Q .normal (putSl f l a) w') : (Code.region id l.toArray true).wp P Q a W := by
 refine wp_region_cut L n l.length hm hn hB (Nat.le_refl _) hC hR0 hR (by rw [List.take_length]; exact hop) fun f w' hw hf A hA => ?_
 rw [List.take_length] at hA
 subst hA
 rw [Nat.sub_self]
 exact ⟨ready_all, hend f w' hw hf⟩
end
end Go.Proofs.YtimfipkbddpdmaaGreatDoor
