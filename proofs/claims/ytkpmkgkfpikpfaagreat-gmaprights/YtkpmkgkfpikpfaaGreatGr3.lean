/- What is proved here: the document's Unmap of the guest's pages. -/
import Derived.Test.YtkpmkgkfpikpfaaGreatRunmap
import Derived.Test.YtkpmkgkfpikpfaaGreatGagp
import Derived.Test.YtkpmkgkfpikpfaaGreatPokePlain
import Derived.Test.YtkpmkgkfpikpfaaGreatEach
import Derived.LoopTactic
import Derived.Test.YtkpmkgkfpikpfaaGreatRmap
import Derived.Test.YtkpmkgkfpikpfaaGreatGdoc
import Derived.Test.YtkpmkgkfpikpfaaGreatGmap2
namespace Go.Proofs.YtkpmkgkfpikpfaaGreat
open Go.RowKit
set_option linter.unusedVariables false
set_option linter.unusedSimpArgs false
set_option maxRecDepth 100000
/-- All but some blocks stays. -/
def Oth (B : Nat → Prop) (w w' : World) : Prop := w.heap.size ≤ w'.heap.size ∧ ∀ k, k < w.heap.size → ¬ B k → w'.heap[k]? = w.heap[k]?
theorem Oth.of {B : Nat → Prop} {w w' : World} (h : Below w.heap.size w w') : Oth B w w' := ⟨h.size, fun k hk _ => h.block k hk⟩
theorem Oth.refl (B : Nat → Prop) (w : World) : Oth B w w := ⟨Nat.le_refl _, fun _ _ _ => rfl⟩
theorem Oth.trans {B : Nat → Prop} {a b c : World} (h : Oth B a b) (k : Oth B b c) : Oth B a c := ⟨Nat.le_trans h.1 k.1, fun i hi hg => (k.2 i (Nat.lt_of_lt_of_le hi h.1) hg).trans (h.2 i hi hg)⟩
theorem Oth.set {B : Nat → Prop} {g : Nat} (i : Nat) (w : World) (u : Value) (hg : B g) : Oth B w (w.setCell ⟨g, i, none⟩ u) := ⟨by simp [World.setCell], fun k _ hk => Below.heap_setCell _ _ _ _ (fun e => hk (by rw [e]; exact hg))⟩
theorem Oth.cell {B : Nat → Prop} {w w' : World} (h : Oth B w w') {p : Addr} {v : Value} (hp : ¬ B p.block) (hc : w.cell? p = some v) : w'.cell? p = some v :=
  (World.cell?_of_block (w := w) (h.2 p.block (World.block_lt_of_cell? w p hc) hp)).trans hc
/-- What a slice holds stays, whatever becomes of those blocks. -/
def St (B : Nat → Prop) (w : World) (k : IntKind) (v : Value) (xs : List (Nat × Int)) : Prop := ∀ w', Oth B w w' → Sl k w' v xs
def StP (B : Nat → Prop) (w : World) (v : Value) (xs : List (Nat × Int)) : Prop := ∀ w', Oth B w w' → Pg.Sl .i64 w' v xs
theorem St.on {B : Nat → Prop} {w w' : World} {k : IntKind} {v : Value} {xs : List (Nat × Int)} (h : St B w k v xs) (o : Oth B w w') : St B w' k v xs := fun w'' o' => h w'' (o.trans o')
theorem StP.on {B : Nat → Prop} {w w' : World} {v : Value} {xs : List (Nat × Int)} (h : StP B w v xs) (o : Oth B w w') : StP B w' v xs := fun w'' o' => h w'' (o.trans o')
theorem St.now {B : Nat → Prop} {w : World} {k : IntKind} {v : Value} {xs : List (Nat × Int)} (h : St B w k v xs) : Sl k w v xs := h w (Oth.refl _ _)
theorem StP.now {B : Nat → Prop} {w : World} {v : Value} {xs : List (Nat × Int)} (h : StP B w v xs) : Pg.Sl .i64 w v xs := h w (Oth.refl _ _)
theorem St.arg {B : Nat → Prop} {w0 w : World} {k : IntKind} {v : Value} {xs : List (Nat × Int)} (h : Sl k w0 v xs) (hb : Below w0.heap.size w0 w) (hg : ∀ k, B k → w0.heap.size ≤ k) : St B w k v xs := fun w' o => by
  obtain ⟨ao, cap, e, q1, q2, q3, q4⟩ := h
  refine ⟨ao, cap, e, q1, q2, q3, fun i hi => ?_⟩
  obtain ⟨b, o', e1, d0, d1⟩ := q4 i hi
  have hlt : b < w0.heap.size := World.block_lt_of_cell? w0 _ d0
  have hnb : ¬ B b := fun hB => by have := hg b hB; omega
  exact ⟨b, o', e1, o.cell hnb (keep_cell hb d0), o.cell hnb (keep_cell hb d1)⟩
theorem St.own {B : Nat → Prop} {C e : Nat} {w : World} {k : IntKind} {v : Value} {xs : List (Nat × Int)} (h : w.ownsRow C e 2 v xs.length (rowOf k xs)) (hg : ∀ k, B k → k < C) : St B w k v xs := fun w' o => by
  obtain ⟨ao, cap, e, q1, q2, q3, q4⟩ := own_sl h
  refine ⟨ao, cap, e, q1, q2, q3, fun i hi => ?_⟩
  obtain ⟨b, o', e1, d0, d1⟩ := q4 i hi
  have hge := own_ge h b (by rw [e, e1]; simp [Value.ownBlock])
  have hnb : ¬ B b := fun hB => by have := hg b hB; omega
  exact ⟨b, o', e1, o.cell hnb d0, o.cell hnb d1⟩
theorem StP.arg {B : Nat → Prop} {w0 w : World} {v : Value} {xs : List (Nat × Int)} (h : Pg.Sl .i64 w0 v xs) (hb : Below w0.heap.size w0 w) (hg : ∀ k, B k → w0.heap.size ≤ k) : StP B w v xs := fun w' o => by
  obtain ⟨ao, cap, e, q1, q2, q3, q4⟩ := h
  refine ⟨ao, cap, e, q1, q2, q3, fun i hi => ?_⟩
  obtain ⟨b, o', e1, d0, d1⟩ := q4 i hi
  have hlt : b < w0.heap.size := World.block_lt_of_cell? w0 _ d0
  have hnb : ¬ B b := fun hB => by have := hg b hB; omega
  exact ⟨b, o', e1, o.cell hnb (keep_cell hb d0), o.cell hnb (keep_cell hb d1)⟩
theorem StP.own {B : Nat → Prop} {C e : Nat} {w : World} {v : Value} {xs : List (Nat × Int)} (h : w.ownsRow C e 2 v xs.length (Pg.rowOf .i64 xs)) (hg : ∀ k, B k → k < C) : StP B w v xs := fun w' o => by
  obtain ⟨ao, cap, e, q1, q2, q3, q4⟩ := Pg.own_sl h
  refine ⟨ao, cap, e, q1, q2, q3, fun i hi => ?_⟩
  obtain ⟨b, o', e1, d0, d1⟩ := q4 i hi
  have hge := own_ge h b (by rw [e, e1]; simp [Value.ownBlock])
  have hnb : ¬ B b := fun hB => by have := hg b hB; omega
  exact ⟨b, o', e1, o.cell hnb d0, o.cell hnb d1⟩
/-- Three blocks from g on. -/
def B3 (g k : Nat) : Prop := g ≤ k ∧ k < g + 3
/-- The state of the document's Unmap: g is the block of the memory that it changes; g + 1 its result's; g + 2 the memory as it was. -/
structure UmI (g : Nat) (w wr : World) (bs : Nat) (vmr vcr vpr vp : Value) (mr cr pr ps : List (Nat × Int)) : Prop where
  c0 : wr.cell? ⟨g, 0, none⟩ = some vmr
  c1 : wr.cell? ⟨g, 1, none⟩ = some vcr
  c2 : wr.cell? ⟨g, 2, none⟩ = some (.int .u64 (bs : Int))
  c3 : wr.cell? ⟨g, 3, none⟩ = some vpr
  d3 : wr.cell? ⟨g + 2, 3, none⟩ = some vp
  f0 : Free wr ⟨g, 0, none⟩
  f1 : Free wr ⟨g, 1, none⟩
  r0 : Free wr ⟨g + 1, 0, none⟩
  r1 : Free wr ⟨g + 1, 1, none⟩
  r2 : Free wr ⟨g + 1, 2, none⟩
  r3 : Free wr ⟨g + 1, 3, none⟩
  sm : St (B3 g) wr .i64 vmr mr
  sc : St (B3 g) wr .u64 vcr cr
  sp : StP (B3 g) wr vpr pr
  so : StP (B3 g) wr vp ps
  bel : Below g w wr
  sz : g + 3 ≤ wr.heap.size
theorem UmI.keep {g bs : Nat} {w wr w' : World} {vmr vcr vpr vp : Value} {mr cr pr ps : List (Nat × Int)} (h : UmI g w wr bs vmr vcr vpr vp mr cr pr ps) (hb : Below wr.heap.size wr w') : UmI g w w' bs vmr vcr vpr vp mr cr pr ps :=
  ⟨keep_cell hb h.c0, keep_cell hb h.c1, keep_cell hb h.c2, keep_cell hb h.c3, keep_cell hb h.d3, h.f0.keep hb, h.f1.keep hb, h.r0.keep hb, h.r1.keep hb, h.r2.keep hb, h.r3.keep hb, h.sm.on (Oth.of hb), h.sc.on (Oth.of hb), h.sp.on (Oth.of hb), h.so.on (Oth.of hb), h.bel.trans (hb.mono (by have := h.sz; omega)), Nat.le_trans h.sz hb.size⟩
theorem UmI.set {g bs C : Nat} {w wr : World} {vmr vcr vpr vp vm' vc' : Value} {mr cr pr ps m' c' : List (Nat × Int)} (h : UmI g w wr bs vmr vcr vpr vp mr cr pr ps) (hm : St (B3 g) wr .i64 vm' m') (hc : St (B3 g) wr .u64 vc' c') : UmI g w ((wr.setCell ⟨g, 0, none⟩ vm').setCell ⟨g, 1, none⟩ vc') bs vm' vc' vpr vp m' c' pr ps := by
  have hg : B3 g g := ⟨Nat.le_refl _, by omega⟩
  have o : Oth (B3 g) wr ((wr.setCell ⟨g, 0, none⟩ vm').setCell ⟨g, 1, none⟩ vc') := (Oth.set 0 wr vm' hg).trans (Oth.set 1 _ vc' hg)
  refine ⟨?_, ?_, ?_, ?_, by rw [World.cell?_setCell_other _ _ _ _ (by simp), World.cell?_setCell_other _ _ _ _ (by simp)]; exact h.d3, (h.f0.set _ _).set _ _, (h.f1.set _ _).set _ _, (h.r0.set _ _).set _ _, (h.r1.set _ _).set _ _, (h.r2.set _ _).set _ _, (h.r3.set _ _).set _ _, hm.on o, hc.on o, h.sp.on o, h.so.on o, below_set (below_set h.bel (by simp) _) (by simp) _, by have := h.sz; have := o.1; omega⟩
  · rw [World.cell?_setCell_other _ _ _ _ (by simp)]; exact World.cell?_setCell_same _ _ _ h.f0.cell
  · exact World.cell?_setCell_same _ _ _ (h.f1.set _ _).cell
  · rw [World.cell?_setCell_other _ _ _ _ (by simp), World.cell?_setCell_other _ _ _ _ (by simp)]; exact h.c2
  · rw [World.cell?_setCell_other _ _ _ _ (by simp), World.cell?_setCell_other _ _ _ _ (by simp)]; exact h.c3
end Go.Proofs.YtkpmkgkfpikpfaaGreat
namespace Go.Proofs.YtkpmkgkfpikpfaaGreat
open Go.RowKit
set_option linter.unusedVariables false
set_option linter.unusedSimpArgs false
set_option maxRecDepth 100000
/-- The blocks that the document's Map writes. -/
def BM (g hb k : Nat) : Prop := (g ≤ k ∧ k < g + 2) ∨ k = hb
/-- Its state: g is the block of the memory that it changes, g + 1 its result's, hb that of the host's memory as it becomes. -/
structure MpI (g hb : Nat) (w wr : World) (bs : Nat) (vm vc vp vq vmr : Value) (cs ps pr mr : List (Nat × Int)) : Prop where
  c0 : wr.cell? ⟨g, 0, none⟩ = some vm
  c1 : wr.cell? ⟨g, 1, none⟩ = some vc
  c2 : wr.cell? ⟨g, 2, none⟩ = some (.int .u64 (bs : Int))
  c3 : wr.cell? ⟨g, 3, none⟩ = some vp
  k0 : wr.cell? ⟨hb, 0, none⟩ = some vmr
  k1 : wr.cell? ⟨hb, 1, none⟩ = some vc
  f0 : Free wr ⟨hb, 0, none⟩
  f1 : Free wr ⟨hb, 1, none⟩
  h0 : Free wr ⟨g, 0, none⟩
  h1 : Free wr ⟨g, 1, none⟩
  h3 : Free wr ⟨g, 3, none⟩
  r0 : Free wr ⟨g + 1, 0, none⟩
  r1 : Free wr ⟨g + 1, 1, none⟩
  r2 : Free wr ⟨g + 1, 2, none⟩
  r3 : Free wr ⟨g + 1, 3, none⟩
  sm : St (BM g hb) wr .i64 vmr mr
  sc : St (BM g hb) wr .u64 vc cs
  sq : StP (BM g hb) wr vq pr
  so : StP (BM g hb) wr vp ps
  bel : Below g w wr
  ne : g + 2 ≤ hb
  sz : hb + 1 ≤ wr.heap.size
theorem MpI.keep {g hb bs : Nat} {w wr w' : World} {vm vc vp vq vmr : Value} {cs ps pr mr : List (Nat × Int)} (h : MpI g hb w wr bs vm vc vp vq vmr cs ps pr mr) (b : Below wr.heap.size wr w') : MpI g hb w w' bs vm vc vp vq vmr cs ps pr mr :=
  ⟨keep_cell b h.c0, keep_cell b h.c1, keep_cell b h.c2, keep_cell b h.c3, keep_cell b h.k0, keep_cell b h.k1, h.f0.keep b, h.f1.keep b, h.h0.keep b, h.h1.keep b, h.h3.keep b, h.r0.keep b, h.r1.keep b, h.r2.keep b, h.r3.keep b, h.sm.on (Oth.of b), h.sc.on (Oth.of b), h.sq.on (Oth.of b), h.so.on (Oth.of b), h.bel.trans (b.mono (by have := h.sz; have := h.ne; omega)), h.ne, Nat.le_trans h.sz b.size⟩
theorem MpI.set {g hb bs : Nat} {w wr : World} {vm vc vp vq vmr vm' : Value} {cs ps pr mr m' : List (Nat × Int)} (h : MpI g hb w wr bs vm vc vp vq vmr cs ps pr mr) (hm : St (BM g hb) wr .i64 vm' m') : MpI g hb w ((wr.setCell ⟨hb, 0, none⟩ vm').setCell ⟨hb, 1, none⟩ vc) bs vm vc vp vq vm' cs ps pr m' := by
  have hg : BM g hb hb := Or.inr rfl
  have hn := h.ne
  have o : Oth (BM g hb) wr ((wr.setCell ⟨hb, 0, none⟩ vm').setCell ⟨hb, 1, none⟩ vc) := (Oth.set 0 wr vm' hg).trans (Oth.set 1 _ vc hg)
  have ot : ∀ {i : Nat} {v : Value}, wr.cell? ⟨g, i, none⟩ = some v → ((wr.setCell ⟨hb, 0, none⟩ vm').setCell ⟨hb, 1, none⟩ vc).cell? ⟨g, i, none⟩ = some v := fun hc => by
    rw [World.cell?_setCell_other _ _ _ _ (by simp <;> omega), World.cell?_setCell_other _ _ _ _ (by simp <;> omega)]; exact hc
  refine ⟨ot h.c0, ot h.c1, ot h.c2, ot h.c3, ?_, World.cell?_setCell_same _ _ _ (h.f1.set _ _).cell, (h.f0.set _ _).set _ _, (h.f1.set _ _).set _ _, (h.h0.set _ _).set _ _, (h.h1.set _ _).set _ _, (h.h3.set _ _).set _ _, (h.r0.set _ _).set _ _, (h.r1.set _ _).set _ _, (h.r2.set _ _).set _ _, (h.r3.set _ _).set _ _, hm.on o, h.sc.on o, h.sq.on o, h.so.on o, below_set (below_set h.bel (by simp; omega) _) (by simp; omega) _, hn, by have := h.sz; have := o.1; omega⟩
  rw [World.cell?_setCell_other _ _ _ _ (by simp)]; exact World.cell?_setCell_same _ _ _ h.f0.cell
end Go.Proofs.YtkpmkgkfpikpfaaGreat
namespace Go.Proofs.YtkpmkgkfpikpfaaGreat
open Go.RowKit
set_option linter.unusedVariables false
set_option linter.unusedSimpArgs false
set_option maxRecDepth 100000
/-- What a call tells: an error, and a memory. -/
abbrev GRes := Int × List (Nat × Int) × List (Nat × Int) × List (Nat × Int)
def mapR (ms cs ps : List (Nat × Int)) (bs first n : Nat) (prot : Int) : GRes :=
  if (gpagesOk first n && protOk prot) = false then (22, ms, cs, ps) else if 256 < ps.length - (mid ps first (first + n - 1)).length + n then (12, ms, cs, ps)
  else if (msF ps bs ms (ksM (added first prot n) n)).length ≤ 64 then (0, msF ps bs ms (ksM (added first prot n) n), clearN cs (bs + first * 4096) (n * 4096), lo ps first ++ added first prot n ++ hi ps (first + n - 1)) else (105, ms, cs, ps)
def unmapR (ms cs ps : List (Nat × Int)) (bs first n : Nat) : GRes :=
  if gpagesOk first n = false then (22, ms, cs, ps) else (0, (rF (lo ps first ++ hi ps (first + n - 1)) bs (ms, clearN cs (bs + first * 4096) (n * 4096)) (ksM (mid ps first (first + n - 1)) (mid ps first (first + n - 1)).length)).1, (rF (lo ps first ++ hi ps (first + n - 1)) bs (ms, clearN cs (bs + first * 4096) (n * 4096)) (ksM (mid ps first (first + n - 1)) (mid ps first (first + n - 1)).length)).2, lo ps first ++ hi ps (first + n - 1))
def protR (ms cs ps : List (Nat × Int)) (first n : Nat) (prot : Int) : GRes :=
  if (gpagesOk first n && protOk prot) = false then (22, ms, cs, ps) else (if (mid ps first (first + n - 1)).length = n then 0 else 12, ms, cs, if (mid ps first (first + n - 1)).length = n then protL first (first + n - 1) prot ps else ps)
/-- It is told so. -/
def GTold (R : GRes) (bs : Nat) (w : World) (e : Ending) (w' : World) : Prop := ∃ am nm pm ac nc pc ap np pp, e = .returned (.tuple #[.agg #[.slice am nm pm, .slice ac nc pc, .int .u64 (bs : Int), .slice ap np pp], .int .i64 R.1]) ∧ SlG w' (.slice am nm pm) (.slice ac nc pc) (.slice ap np pp) R.2.1 R.2.2.1 R.2.2.2 ∧ Below w.heap.size w w'
theorem told_of {F : Nat} {args : Array Value} {bs : Nat} {w : World} {c : Int} {m k p : List (Nat × Int)} (h : Calls Tryz.prog F args w fun e w' => ∃ vm' vc' vp', e = .returned (.tuple #[.agg #[vm', vc', .int .u64 (bs : Int), vp'], .int .i64 c]) ∧ SlG w' vm' vc' vp' m k p ∧ Below w.heap.size w w') : Calls Tryz.prog F args w (GTold (c, m, k, p) bs w) :=
  h.mono (fun e w' ⟨vm', vc', vp', he, hs, hb⟩ => by
    obtain ⟨am, nm, pm, ac, nc, pc, ap, np, pp, rfl, rfl, rfl⟩ := hs.shape
    exact ⟨_, _, _, _, _, _, _, _, _, he, hs, hb⟩)
theorem sl_of {F : Nat} {args : Array Value} {bs : Nat} {w : World} {c : Int} {m k p : List (Nat × Int)} (h : Calls Tryz.prog F args w fun e w' => ∃ vm' vc' vp', e = .returned (.tuple #[.agg #[vm', vc', .int .u64 (bs : Int), vp'], .int .i64 c]) ∧ OwnG w.heap.size w' vm' vc' vp' m k p ∧ Below w.heap.size w w') : Calls Tryz.prog F args w (GTold (c, m, k, p) bs w) :=
  told_of (h.mono (fun e w' ⟨vm', vc', vp', he, ho, hb⟩ => ⟨vm', vc', vp', he, ho.sl, hb⟩))
theorem told18 (vm vc vp : Value) (ms cs ps : List (Nat × Int)) (bs first n : Nat) (prot : Int) (w : World) (hsl : SlG w vm vc vp ms cs ps) (hrc : ∀ y ∈ cs, y.1 < 18446744073709551616) (hw : Words cs) (h1 : first < 4294967296) (h2 : n < 4294967296) (hf : FitG ms cs ps bs) : Calls Tryz.prog 29 #[.agg #[vm, vc, .int .u64 (bs : Int), vp], .int .u32 (first : Int), .int .u32 (n : Int), .int .i64 prot] w (GTold (mapR ms cs ps bs first n prot) bs w) := by
  have lm := hf.fq.1
  have lc := hf.fq.2.1
  have lp := hf.lp
  have hpn : ∀ y ∈ ps, y.1 < 4294967296 := fun y hy => Nat.lt_trans (hf.pg y hy).1 (by decide)
  unfold mapR
  cases hp : (gpagesOk first n && protOk prot) with
  | false => rw [if_pos rfl]; exact sl_of (gmap18_inval vm vc vp ms cs ps bs first n prot w hsl lm lc lp h1 h2 hp)
  | true =>
  rw [if_neg (by simp)]
  by_cases hroom : 256 < ps.length - (mid ps first (first + n - 1)).length + n
  · rw [if_pos hroom]; exact sl_of (gmap18_mem vm vc vp ms cs ps bs first n prot w hsl lm lc lp h1 h2 hf.sp hf.fq hw hrc hf.le _ rfl hp (by omega) hf.reach)
  · rw [if_neg hroom]
    have k := gmap18 vm vc vp ms cs ps bs first n prot w hsl lm lc lp h1 h2 hf.sp hf.fq hw hrc hf.le _ rfl hp (by omega) hf.reach
    by_cases hl : (msF ps bs ms (ksM (added first prot n) n)).length ≤ 64
    · rw [if_pos hl]
      exact sl_of (k.mono (fun e w' g => by rcases g with ⟨_, g⟩ | ⟨g, _⟩; exact g; omega))
    · rw [if_neg hl]
      exact sl_of (k.mono (fun e w' g => by rcases g with ⟨g, _⟩ | ⟨_, g⟩; omega; exact g))
theorem told20 (vm vc vp : Value) (ms cs ps : List (Nat × Int)) (bs first n : Nat) (prot : Int) (w : World) (hsl : SlG w vm vc vp ms cs ps) (hrc : ∀ y ∈ cs, y.1 < 18446744073709551616) (hw : Words cs) (h1 : first < 4294967296) (h2 : n < 4294967296) (hf : FitG ms cs ps bs) : Calls Tryz.prog 33 #[.agg #[vm, vc, .int .u64 (bs : Int), vp], .int .u32 (first : Int), .int .u32 (n : Int)] w (GTold (unmapR ms cs ps bs first n) bs w) := by
  have lm := hf.fq.1
  have lc := hf.fq.2.1
  have lp := hf.lp
  have hpn : ∀ y ∈ ps, y.1 < 4294967296 := fun y hy => Nat.lt_trans (hf.pg y hy).1 (by decide)
  unfold unmapR
  cases hp : gpagesOk first n with
  | false => rw [if_pos rfl]; exact sl_of (gunmap20_inval vm vc vp ms cs ps bs first n w hsl lm lc lp h1 h2 hp)
  | true =>
  have hp2 : n ≠ 0 ∧ first + n ≤ 1048576 := by simpa [gpagesOk] using hp
  have hC := fit_clear hf.fq hw hrc (bs + first * 4096) (n * 4096) (by have := hf.le; omega)
  rw [if_neg (by simp)]
  exact sl_of (gunmap20 vm vc vp ms cs ps bs first n w hsl lm lc lp h1 h2 hf.sp hf.fq hw hrc hf.le _ rfl (fun x hx => (hf.pg x hx).1) hC.1 hp)
theorem told22 (vm vc vp : Value) (ms cs ps : List (Nat × Int)) (bs first n : Nat) (prot : Int) (w : World) (hsl : SlG w vm vc vp ms cs ps) (hrc : ∀ y ∈ cs, y.1 < 18446744073709551616) (hw : Words cs) (h1 : first < 4294967296) (h2 : n < 4294967296) (hf : FitG ms cs ps bs) : Calls Tryz.prog 35 #[.agg #[vm, vc, .int .u64 (bs : Int), vp], .int .u32 (first : Int), .int .u32 (n : Int), .int .i64 prot] w (GTold (protR ms cs ps first n prot) bs w) := by
  have lm := hf.fq.1
  have lc := hf.fq.2.1
  have lp := hf.lp
  have hpn : ∀ y ∈ ps, y.1 < 4294967296 := fun y hy => Nat.lt_trans (hf.pg y hy).1 (by decide)
  unfold protR
  cases hp : (gpagesOk first n && protOk prot) with
  | false => rw [if_pos rfl]; exact sl_of (gprotect22_inval vm vc vp ms cs ps bs first n prot w hsl lm lc lp h1 h2 hp)
  | true =>
  rw [if_neg (by simp)]
  by_cases hno : (mid ps first (first + n - 1)).length = n
  · rw [if_pos hno, if_pos hno]; exact sl_of (gprotect22_ok vm vc vp ms cs ps bs first n prot w hsl lm lc lp h1 h2 hf.sp _ rfl hno hp)
  · rw [if_neg hno, if_neg hno]; exact sl_of (gprotect22_none vm vc vp ms cs ps bs first n prot w hsl lm lc lp h1 h2 hf.sp _ rfl hno hp)
/-- What is told is fit. -/
def RFit (R : GRes) (bs : Nat) : Prop := FitG R.2.1 R.2.2.1 R.2.2.2 bs ∧ Words R.2.2.1 ∧ ∀ y ∈ R.2.2.1, y.1 < 18446744073709551616
theorem rfit_same {ms cs ps : List (Nat × Int)} {bs : Nat} {c : Int} (hf : FitG ms cs ps bs) (hw : Words cs) (hrc : ∀ y ∈ cs, y.1 < 18446744073709551616) : RFit (c, ms, cs, ps) bs := ⟨hf, hw, hrc⟩
theorem mapR_fit {ms cs ps : List (Nat × Int)} {bs : Nat} (first n : Nat) (prot : Int) (hf : FitG ms cs ps bs) (hw : Words cs) (hrc : ∀ y ∈ cs, y.1 < 18446744073709551616) : RFit (mapR ms cs ps bs first n prot) bs := by
  unfold mapR
  cases hp : (gpagesOk first n && protOk prot) with
  | false => rw [if_pos rfl]; exact rfit_same hf hw hrc
  | true =>
  have hp1 : gpagesOk first n = true ∧ protOk prot = true := by simpa using hp
  have hp2 : n ≠ 0 ∧ first + n ≤ 1048576 := by simpa [gpagesOk] using hp1.1
  have hC := fit_clear hf.fq hw hrc (bs + first * 4096) (n * 4096) (by have := hf.le; omega)
  rw [if_neg (by simp)]
  by_cases hroom : 256 < ps.length - (mid ps first (first + n - 1)).length + n
  · rw [if_pos hroom]; exact rfit_same hf hw hrc
  · rw [if_neg hroom]
    by_cases hl : (msF ps bs ms (ksM (added first prot n) n)).length ≤ 64
    · rw [if_pos hl]; exact ⟨fitG_map hf hw hrc hp2.1 hp2.2 hp1.2 (by omega) hl, hC.2.1, hC.2.2⟩
    · rw [if_neg hl]; exact rfit_same hf hw hrc
theorem unmapR_fit {ms cs ps : List (Nat × Int)} {bs : Nat} (first n : Nat) (hf : FitG ms cs ps bs) (hw : Words cs) (hrc : ∀ y ∈ cs, y.1 < 18446744073709551616) : RFit (unmapR ms cs ps bs first n) bs := by
  unfold unmapR
  cases hp : gpagesOk first n with
  | false => rw [if_pos rfl]; exact rfit_same hf hw hrc
  | true =>
  have hp2 : n ≠ 0 ∧ first + n ≤ 1048576 := by simpa [gpagesOk] using hp
  have hC := fit_clear hf.fq hw hrc (bs + first * 4096) (n * 4096) (by have := hf.le; omega)
  have hsb := (rF_sub (ps := lo ps first ++ hi ps (first + n - 1)) (bs := bs) (ksM (mid ps first (first + n - 1)) (mid ps first (first + n - 1)).length) (ms, clearN cs (bs + first * 4096) (n * 4096)) hf.fq.2.2.1 hC.1.2.2.2.1).2
  rw [if_neg (by simp)]
  exact ⟨fitG_unmap hf hw hrc hp2.1 hp2.2 _ (fun x hx => ksM_of hx), words_sub hC.2.1 hsb, fun y hy => hC.2.2 y (hsb.subset hy)⟩
end Go.Proofs.YtkpmkgkfpikpfaaGreat
