/- What is proved here: what free room must not be in, in a row that is sorted. -/
import Derived.Test.YtkpmkgkfpikpfaaGreatSta
import Derived.Test.YtkpmkgkfpikpfaaGreatSb
import Derived.Test.YtkpmkgkfpikpfaaGreatSw
import Derived.Test.YtkpmkgkfpikpfaaGreatEach
namespace Go.Proofs.YtkpmkgkfpikpfaaGreat
open Go.RowKit
set_option linter.unusedVariables false
set_option linter.unusedSimpArgs false
set_option maxRecDepth 100000
def tkL (ps : List (Nat × Int)) (k : Nat) : List (Nat × Nat) := (0, 1) :: (ps.take k).map (fun p => (p.1, p.1 + 1))
theorem tkL_len (ps : List (Nat × Int)) (k : Nat) (h : k ≤ ps.length) : (tkL ps k).length = k + 1 := by simp [tkL]; omega
theorem tkL_succ (ps : List (Nat × Int)) (k : Nat) (h : k < ps.length) : tkL ps (k + 1) = tkL ps k ++ [(ps[k].1, ps[k].1 + 1)] := by
 unfold tkL
 rw [List.take_add_one, List.getElem?_eq_getElem h, List.map_append]
 rfl
def takenL (ps : List (Nat × Int)) (st en : Nat) : List (Nat × Nat) := tkL ps ps.length ++ (if st / 4096 < pgN en then [(st / 4096, pgN en)] else [])
theorem info120 : (Tryz.prog.info? 120).map (fun i => (i.zero, i.size, i.bytes)) = some (some (.agg #[.int .u32 0, .int .u32 0]), 2, 8) := by kernel_rfl
structure TkI (w : World) (vm vc vp : Value) (bs st en : Nat) (v : Value) (ts : List (Nat × Nat)) (wr : World) : Prop where
 box : B6 wr w.heap.size 32 vm vc (.int .u64 (bs : Int)) vp (.int .u32 (st : Int)) (.int .u32 (en : Int))
 lst : Boxed wr (w.heap.size + 2) 136 v
 row : wr.ownsRow (w.heap.size + 1) 120 2 v ts.length (stRow ts)
 bel : Below w.heap.size w wr
theorem TkI.keep {w : World} {vm vc vp : Value} {bs st en : Nat} {v : Value} {ts : List (Nat × Nat)} {wr wz : World} (h : TkI w vm vc vp bs st en v ts wr) (hb : Below wr.heap.size wr wz) : TkI w vm vc vp bs st en v ts wz :=
 ⟨h.box.keep hb, (hb.block _ h.lst.lt).trans h.lst, own_keep h.row hb, below_tr h.bel hb⟩
theorem TkI.app {w : World} {vm vc vp : Value} {bs st en : Nat} {v v' : Value} {ts : List (Nat × Nat)} {Y w1 : World} {x : Nat × Nat} (h : TkI w vm vc vp bs st en v ts Y) (hg : Y.grownBy w1 v.ownBlock) (hr : w1.ownsRow (w.heap.size + 1) 120 2 v' (ts.length + 1) (stRow ts ++ [.int .u32 (x.1 : Int), .int .u32 (x.2 : Int)])) :
  Boxed w1 (w.heap.size + 2) 136 v ∧ TkI w vm vc vp bs st en v' (ts ++ [x]) (w1.setCell ⟨w.heap.size + 2, 0, none⟩ v') := by
 have hL : some (w.heap.size + 2) ≠ v.ownBlock := h.lst.not_row (by decide) h.row
 have hS : some w.heap.size ≠ v.ownBlock := fun e => by have := own_ge h.row _ e.symm; omega
 have l1 : Boxed w1 (w.heap.size + 2) 136 v := h.lst.kept hg hL
 have b1 : B6 w1 w.heap.size 32 vm vc (.int .u64 (bs : Int)) vp (.int .u32 (st : Int)) (.int .u32 (en : Int)) := (hg.block _ h.box.lt hS).trans h.box
 have bl : Below w.heap.size w w1 := h.bel.grown hg h.bel.size (fun k e => by have := own_ge h.row k e; omega)
 have r1 : w1.ownsRow (w.heap.size + 1) 120 2 v' (ts ++ [x]).length (stRow (ts ++ [x])) := by rw [stRow_snoc, List.length_append]; exact hr
 refine ⟨l1, (heap_other w1 (w.heap.size + 2) 0 w.heap.size v' (by omega)).trans b1, l1.set v', ?_, bl.setCell (by show w.heap.size ≤ w.heap.size + 2; omega) _⟩
 refine ⟨r1.1, ?_⟩
 rcases r1.2 with hn | ⟨g, cap, cur, e1, e2, e3, e4⟩
 ·exact .inl hn
 ·refine .inr ⟨g, cap, cur, e1, e2, (heap_other w1 (w.heap.size + 2) 0 g v' (fun e => ?_)).trans e3, e4⟩
  have hne := l1.not_row (by decide) r1
  rw [e1] at hne
  exact hne (by rw [e]; rfl)
theorem own_some {w : World} {base e n : Nat} {v : Value} {xs : List Value} (h : w.ownsRow base e 2 v (n + 1) xs) : ∃ g cap, v = .slice (some ⟨g, 0, none⟩) (n + 1) cap ∧ base ≤ g := by
 rcases h.2 with ⟨_, h⟩ | ⟨g, cap, cur, e1, e2, _⟩
 ·omega
 ·exact ⟨g, cap, e1, e2⟩
theorem tk_start (w : World) (vm vc vp : Value) (bs st en : Nat) : ∃ X, ((w.alloc (.cells #[vm, vc, .int .u64 (bs : Int), vp, .int .u32 (st : Int), .int .u32 (en : Int)] 32)).alloc (.cells #[.int .u32 0, .int .u32 1] 120)).alloc (.cells #[.slice (some ⟨w.heap.size + 1, 0, none⟩) 1 1] 136) = X ∧
  TkI w vm vc vp bs st en (.slice (some ⟨w.heap.size + 1, 0, none⟩) 1 1) [(0, 1)] X := by
 refine ⟨_, rfl, ?_, ?_, ⟨rfl, .inr ⟨w.heap.size + 1, 1, #[.int .u32 0, .int .u32 1], rfl, Nat.le_refl _, ?_, Nat.le_refl _, by decide, rfl, rfl⟩⟩, (((Below.refl _ _).alloc (Nat.le_refl _) _).alloc (by simp) _).alloc (by simp only [World.size_alloc]; omega) _⟩
 ·refine (Below.heap_alloc _ _ _ (by simp only [World.size_alloc]; omega)).trans ((Below.heap_alloc _ _ _ (by simp)).trans (heap_alloc_new w _))
 ·have := Boxed.new ((w.alloc (.cells #[vm, vc, .int .u64 (bs : Int), vp, .int .u32 (st : Int), .int .u32 (en : Int)] 32)).alloc (.cells #[.int .u32 0, .int .u32 1] 120)) 136 (.slice (some ⟨w.heap.size + 1, 0, none⟩) 1 1)
  simp only [World.size_alloc] at this
  exact this
 ·refine (Below.heap_alloc _ _ _ (by simp)).trans ?_
  have := heap_alloc_new (w.alloc (.cells #[vm, vc, .int .u64 (bs : Int), vp, .int .u32 (st : Int), .int .u32 (en : Int)] 32)) (.cells #[.int .u32 0, .int .u32 1] 120)
  simp only [World.size_alloc] at this
  exact this
def TkTold (w : World) (vm vc vp : Value) (bs st en : Nat) (ps : List (Nat × Int)) (e : Ending) (w' : World) : Prop :=
 e = .returned (.func (.func 97) #[] #[.pointer (some ⟨w.heap.size + 2, 0, none⟩)]) ∧ ∃ g cap ts, ts.Perm (takenL ps st en) ∧ RiseS ts ∧ Boxed w' (w.heap.size + 2) 136 (.slice (some ⟨g, 0, none⟩) ts.length cap) ∧ StAt w' g ts ∧ w.heap.size + 1 ≤ g ∧ g ≠ w.heap.size + 2 ∧ g < w'.heap.size ∧ Below w.heap.size w w'
theorem one2s (a b : Int) : ∀ u ∈ [Value.int .u32 a, Value.int .u32 b], u.oneCell' = true := by
 intro u hu; simp at hu; rcases hu with rfl | rfl <;> rfl
theorem tk_end {w wr : World} {vm vc vp : Value} {bs st en : Nat} {ps : List (Nat × Int)} {v : Value} {ts : List (Nat × Nat)} (h : TkI w vm vc vp bs st en v ts wr) (ht : ts = takenL ps st en) (hl : ts.length ≤ 1000) :
  ∃ g cap, v = .slice (some ⟨g, 0, none⟩) ts.length cap ∧ Calls Tryz.prog 94 #[.slice (some ⟨g, 0, none⟩) ts.length cap, .func (.func 95) #[] #[]] wr fun e w' => e = .returned (.tuple #[]) ∧ TkTold w vm vc vp bs st en ps (.returned (.func (.func 97) #[] #[.pointer (some ⟨w.heap.size + 2, 0, none⟩)])) w' := by
 have hr := h.row
 obtain ⟨n, hn⟩ : ∃ n, ts.length = n + 1 := ⟨ts.length - 1, by rw [ht]; simp [takenL, tkL]⟩
 rw [hn] at hr
 obtain ⟨g, cap, hv, hg⟩ := own_some hr
 rw [← hn] at hv
 refine ⟨g, cap, hv, ?_⟩
 have hne := h.lst.not_row (by decide) h.row
 have hro := h.row
 rw [hv] at hro hne
 have hgl : g < wr.heap.size := by
  rcases hro.2 with ⟨e, _⟩ | ⟨g', _, cur, e1, _, e3, _⟩
  ·cases e
  ·simp at e1; rw [e1.1]; exact (Array.getElem?_eq_some_iff.1 e3).1
 refine (sortL g cap _ ts wr hro hl).mono ?_
 rintro e w' ⟨rfl, ts', hp, hrs, hst, hbt⟩
 have hL : w.heap.size + 2 ≠ g := fun e => hne (by rw [e]; rfl)
 refine ⟨rfl, rfl, g, cap, ts', by rw [← ht]; exact hp, hrs, ?_, hst, hg, Ne.symm hL, by have := hbt.size; omega, ?_⟩
 ·have := (hbt.block _ h.lst.lt hL).trans h.lst
  rw [hp.length_eq, ← hv]; exact this
 ·exact h.bel.trans ⟨hbt.os, hbt.tape, hbt.output, hbt.size, fun k hk => hbt.block k (by have := h.bel.size; omega) (by omega)⟩
set_option maxHeartbeats 4000000 in
theorem taken80 (vm vc vp : Value) (bs st en : Nat) (ps : List (Nat × Int)) (w : World) (hm : ∃ a n p, vm = .slice a n p) (hc : ∃ a n p, vc = .slice a n p) (hp : Pg.Sl .i64 w vp ps) (hps : ∀ x ∈ ps, x.1 < 1048576) (hl : ps.length ≤ 256) (hst : st < 4294967296) (hen : en < 4294967296) :
  Calls Tryz.prog 80 #[.agg #[vm, vc, .int .u64 (bs : Int), vp, .int .u32 (st : Int), .int .u32 (en : Int)]] w (TkTold w vm vc vp bs st en ps) := by
 obtain ⟨am, nm, pm, rfl⟩ := hm
 obtain ⟨ac, nc, pc, rfl⟩ := hc
 obtain ⟨ap, np, pp, rfl⟩ : ∃ a n p, vp = .slice a n p := by obtain ⟨a, p, h, _⟩ := hp; exact ⟨_, _, _, h⟩
 obtain ⟨np', hnp⟩ : ∃ z, z = ps.length := ⟨_, rfl⟩
 obtain rfl : np = np' := by obtain ⟨a, p, h, _⟩ := hp; simp at h; omega
 have HNP : Hid (np = ps.length) := hnp
 clear hnp
 obtain ⟨X, hX, hI0⟩ := tk_start w (.slice am nm pm) (.slice ac nc pc) (.slice ap np pp) bs st en
 obtain ⟨i0, hi, hz0, hz1, hz2⟩ := info_parts info120
 have HI : Hid (Tryz.prog.info? 120 = some i0 ∧ i0.zero = some (.agg #[.int .u32 0, .int .u32 0]) ∧ i0.size = 2 ∧ i0.bytes = 8) := ⟨hi, hz0, hz1, hz2⟩
 have HPS : Hid (∀ wr, Below w.heap.size w wr → ∀ k (h : k < ps.length), ∃ b o, ap = some ⟨b, o, none⟩ ∧ wr.cell? ⟨b, o + k * 2, none⟩ = some (.int .u32 (ps[k].1 : Int)) ∧ wr.cell? ⟨b, o + k * 2 + 1, none⟩ = some (.int .i64 ps[k].2) ∧ ps[k].1 < 1048576) := fun wr hb k h => by
  obtain ⟨ao, cap, e, _, _, _, hx⟩ := hp.keep hb
  simp at e
  obtain ⟨b, o, e1, e2, e3⟩ := hx k h
  exact ⟨b, o, by rw [e.1]; exact e1, e2, e3, hps _ (List.getElem_mem h)⟩
 have K27 : Hid (∀ w', Calls Tryz.prog 27 #[.int .u32 (en : Int)] w' fun e w'' => e = .returned (.int .u32 (pgN en : Int)) ∧ w'' = w') := fun w' => pagesOf27 en w' hen
 have HG : Hid (pgN en ≤ 1048576) := by show _ ≤ _; unfold pgN; omega
 have hd0 := hI0.box.cells
 obtain ⟨x0, x1, x2, x3, x4, x5⟩ := hd0
 have HT0 : Hid (TkI w (.slice am nm pm) (.slice ac nc pc) (.slice ap np pp) bs st en (.slice (some ⟨w.heap.size + 1, 0, none⟩) 1 1) [(0, 1)] X) := hI0
 clear hi hz0 hz1 hz2 hp hps hI0
 go_enter Tryz.func80, Tryz.ntmps80
 go_wp2
 go_loopw [13] (fun i wr => ∃ k : Nat, k ≤ ps.length ∧ i = .int .i64 (k : Int) ∧ ∃ v, TkI w (.slice am nm pm) (.slice ac nc pc) (.slice ap np pp) bs st en v (tkL ps k) wr) (fun i _ => ps.length - (intOf i).toNat)
 case atStart => exact ⟨0, Nat.zero_le _, rfl, _, HT0.out⟩
 case round =>
  obtain ⟨k, hk, rfl, v, hI⟩ := hrel
  have HIr : Hid (TkI w (.slice am nm pm) (.slice ac nc pc) (.slice ap np pp) bs st en v (tkL ps k) wr) := hI
  have hk64 : wrap64 ((k : Int) + 1) = (k : Int) + 1 := by unfold wrap64; omega
  by_cases hkl : k < ps.length
  ·obtain ⟨b, o, hap, y0, y1, hp1⟩ := HPS.out wr hI.bel k hkl
   subst hap
   have hlen := tkL_len ps k hk
   have HK : Hid (tkL ps (k + 1) = tkL ps k ++ [(ps[k].1, ps[k].1 + 1)]) := tkL_succ ps k hkl
   generalize ps[k].1 = p at y0 hp1 HK
   generalize ps[k].2 = r at y1
   have hkI : (k : Int) < (np : Int) := by have := HNP.out; omega
   obtain ⟨p1, hp1'⟩ : ∃ z, z = p + 1 := ⟨_, rfl⟩
   rw [← hp1'] at HK
   have hpa : ((p : Int) + 1) % 4294967296 = (p1 : Int) := by omega
   have hpb : ((p : Int) + 1) = (p1 : Int) := by omega
   clear hp1'
   have lc := hI.lst.cell
   have lf := hI.lst.frozen
   have hwsz := hI.bel.size
   have hlsz := hI.lst.lt
   have HR : Hid (∀ o1 o2, ((wr.alloc o1).alloc o2).ownsRow (w.heap.size + 1) 120 2 v (k + 1) (stRow (tkL ps k))) := fun o1 o2 => by have := own_alloc (own_alloc hI.row o1) o2; rw [hlen] at this; exact this
   clear hI
   go_wp2_with (at_builtin; refine wpList_append_own _ rfl (.tmp 17) (.tmp 24) 136 rfl (w.heap.size + 1) 120 i0 _ 2 8 Tryz.underlying136 HI.out.1 HI.out.2.1 HI.out.2.2.1 HI.out.2.2.2 rfl (by decide) _ _ _ rfl (HR.out _ _) ⟨wr.heap.size + 1, 0, none⟩ 1 1 [.int .u32 (p : Int), .int .u32 (p1 : Int)] rfl rfl (?c1) (one2s _ _) (by unfold maxLen; omega) (by omega) (by simp; omega) ?_)
   case c1 =>
    intro j u hj
    match j, hj with
    | 0, hj => simp at hj; subst hj; simp [Addr.add]
    | 1, hj => simp at hj; subst hj; simp [Addr.add]
   intro v' w1 hown' hgrow _
   have hbY : Below wr.heap.size wr ((wr.alloc (.cells #[.int .u32 (p : Int), .int .i64 r] 53)).alloc (.cells #[.int .u32 (p : Int), .int .u32 (p1 : Int)] 120)) := ((Below.refl _ _).alloc (Nat.le_refl _) _).alloc (by simp) _
   rw [← hlen] at hown'
   obtain ⟨l1, hI1⟩ := TkI.app (x := (p, p1)) (HIr.out.keep hbY) hgrow hown'
   obtain ⟨g', cap', rfl, _⟩ := own_some hown'
   have lc1 := l1.cell
   have lf1 := l1.frozen
   simp only [hlen] at hI1 lc1
   have HI1 : Hid _ := hI1
   clear hown' hgrow hbY l1 hI1 HR lc lf
   go_wp2
   go_roundw
   case rel => exact ⟨k + 1, by omega, by go_num, _, by rw [HK.out]; exact HI1.out⟩
   case measure => simp [intOf]; omega
  ·have hkI : ¬ (k : Int) < (np : Int) := by have := HNP.out; omega
   obtain rfl : k = ps.length := by omega
   have hlen := tkL_len ps ps.length (Nat.le_refl _)
   obtain ⟨lo, hlo'⟩ : ∃ z, z = st / 4096 := ⟨_, rfl⟩
   have hlo : IntKind.u32.wrap ((st : Int) / 4096) = (lo : Int) := by rw [IntKind.wrap_u32]; omega
   have hlo2 : (st : Int) / 4096 = (lo : Int) := by omega
   have hlo4 : (st : Int).tdiv 4096 = (lo : Int) := by rw [Int.tdiv_eq_ediv_of_nonneg (by omega)]; omega
   have hlo3 : IntKind.u32.wrap (lo : Int) = (lo : Int) := by rw [IntKind.wrap_u32]; omega
   obtain ⟨hi, hhi⟩ : ∃ z, z = pgN en := ⟨_, rfl⟩
   rw [← hhi] at K27
   have HTK : Hid (takenL ps st en = tkL ps ps.length ++ (if lo < hi then [(lo, hi)] else [])) := by show _ = _; rw [takenL, hlo', hhi]
   obtain ⟨d0, d1, d2, d3, d4, d5⟩ := hI.box.cells
   have hwsz := hI.bel.size
   clear hI hlo' hhi hk64 x0 x1 x2 x3 x4 x5 hX
   go_wp2
   refine wp_region_slots_last (R := Ext) [⟨27, fun v _ => v = (.pointer (some ⟨w.heap.size, 4, none⟩)), fun _ _ _ _ h => h⟩, ⟨28, fun v _ => v = (.int .u32 (st : Int)), fun _ _ _ _ h => h⟩, ⟨29, fun v _ => v = (.int .u32 (lo : Int)), fun _ _ _ _ h => h⟩, ⟨30, fun v _ => v = (.pointer (some ⟨w.heap.size, 5, none⟩)), fun _ _ _ _ h => h⟩, ⟨31, fun v _ => v = (.int .u32 (en : Int)), fun _ _ _ _ h => h⟩, ⟨32, fun v _ => v = (.int .u32 (hi : Int)), fun _ _ _ _ h => h⟩, ⟨33, fun v _ => v = (.agg #[.int .u32 (lo : Int), .int .u32 (hi : Int)]), fun _ _ _ _ h => h⟩, ⟨6, fun v w' => ∃ b, v = .pointer (some ⟨b, 0, none⟩) ∧ w'.heap[b]? = some (.cells #[.int .u32 0, .int .u32 0] 120 (0, 0)) ∧ wr.heap.size ≤ b, fun v w' w'' hb ⟨b, e, h, h'⟩ => ⟨b, e, (hb.block b (Array.getElem?_eq_some_iff.1 h).1).trans h, h'⟩⟩] _ 8 _ (by kernel_rfl) rfl (by kernel_rfl) rfl rfl rfl rfl (by kernel_rfl) (Below.drew (Below.refl _ _)) (fun _ _ _ h1 h2 => below_tr h1 h2) (fun QQ => ⟨?_, ?_, ?_, ?_, ?_, ?_, ?_, ?_, trivial⟩) (fun f wy hR hf A hA K hK => ?_)
   ·intro A wx hR hout hdep K hK
    have h1 : A.tmps[1]?.getD undef = (.pointer (some ⟨w.heap.size, 0, none⟩)) := hout 1 (by kernel_rfl)
    refine if_yes (by kernel_rfl) ?_
    simp [go_sem, h1, hlo, hlo2, hlo3, hlo4]
    exact hK.out _ _ (Below.refl _ _) rfl
   ·intro A wx hR hout hdep K hK
    have h27 : A.tmps[27]?.getD undef = (.pointer (some ⟨w.heap.size, 4, none⟩)) := hdep 27 (by kernel_rfl)
    refine if_yes (by kernel_rfl) ?_
    have d0 := keep_cell hR d0
    have d1 := keep_cell hR d1
    have d2 := keep_cell hR d2
    have d3 := keep_cell hR d3
    have d4 := keep_cell hR d4
    have d5 := keep_cell hR d5
    simp [go_sem, h27, d0, d1, d2, d3, d4, d5, hlo, hlo2, hlo3, hlo4]
    exact hK.out _ _ (Below.refl _ _) rfl
   ·intro A wx hR hout hdep K hK
    have h28 : A.tmps[28]?.getD undef = (.int .u32 (st : Int)) := hdep 28 (by kernel_rfl)
    refine if_yes (by kernel_rfl) ?_
    simp [go_sem, h28, hlo, hlo2, hlo3, hlo4]
    exact hK.out _ _ (Below.refl _ _) rfl
   ·intro A wx hR hout hdep K hK
    have h1 : A.tmps[1]?.getD undef = (.pointer (some ⟨w.heap.size, 0, none⟩)) := hout 1 (by kernel_rfl)
    refine if_yes (by kernel_rfl) ?_
    simp [go_sem, h1, hlo, hlo2, hlo3, hlo4]
    exact hK.out _ _ (Below.refl _ _) rfl
   ·intro A wx hR hout hdep K hK
    have h30 : A.tmps[30]?.getD undef = (.pointer (some ⟨w.heap.size, 5, none⟩)) := hdep 30 (by kernel_rfl)
    refine if_yes (by kernel_rfl) ?_
    have d0 := keep_cell hR d0
    have d1 := keep_cell hR d1
    have d2 := keep_cell hR d2
    have d3 := keep_cell hR d3
    have d4 := keep_cell hR d4
    have d5 := keep_cell hR d5
    simp [go_sem, h30, d0, d1, d2, d3, d4, d5, hlo, hlo2, hlo3, hlo4]
    exact hK.out _ _ (Below.refl _ _) rfl
   ·intro A wx hR hout hdep K hK
    have h31 : A.tmps[31]?.getD undef = (.int .u32 (en : Int)) := hdep 31 (by kernel_rfl)
    refine if_yes (by kernel_rfl) ?_
    simp [go_sem, h31, hlo, hlo2, hlo3, hlo4]
    refine (K27.out wx).mono ?_
    rintro e wG ⟨rfl, rfl⟩
    exact hK.out _ _ (Below.refl _ _) rfl
   ·intro A wx hR hout hdep K hK
    have h29 : A.tmps[29]?.getD undef = (.int .u32 (lo : Int)) := hdep 29 (by kernel_rfl)
    have h32 : A.tmps[32]?.getD undef = (.int .u32 (hi : Int)) := hdep 32 (by kernel_rfl)
    refine if_yes (by kernel_rfl) ?_
    simp [go_sem, h29, h32, hlo, hlo2, hlo3, hlo4]
    exact hK.out _ _ (Below.refl _ _) rfl
   ·intro A wx hR hout hdep K hK
    refine if_yes (by kernel_rfl) ?_
    simp [go_sem]
    exact hK.out _ _ ((Below.refl _ _).alloc (Nat.le_refl _) _) ⟨_, rfl, heap_alloc_new wx _, hR.size⟩
   obtain ⟨b, hv6, hB2, hbl⟩ : ∃ b, f 6 = .pointer (some ⟨b, 0, none⟩) ∧ wy.heap[b]? = some (.cells #[.int .u32 0, .int .u32 0] 120 (0, 0)) ∧ wr.heap.size ≤ b := hf 6 (by kernel_rfl)
   have hv33 : f 33 = .agg #[.int .u32 (lo : Int), .int .u32 (hi : Int)] := hf 33 (by kernel_rfl)
   simp only [putSl, List.take_succ_cons, List.take_zero, Act.put, List.setIfInBounds_toArray, List.set_cons_zero, List.set_cons_succ, hv6, hv33] at hA
   subst hA
   have q0 : wy.cell? ⟨b, 0, none⟩ = some (.int .u32 0) := by simp [World.cell?, hB2]
   have q1 : wy.cell? ⟨b, 1, none⟩ = some (.int .u32 0) := by simp [World.cell?, hB2]
   have z0 : wy.frozen? ⟨b, 0, none⟩ = false := by simp [World.frozen?, hB2]
   have z1 : wy.frozen? ⟨b, 1, none⟩ = false := by simp [World.frozen?, hB2]
   have s0 : ((wy.setCell ⟨b, 0, none⟩ (.int .u32 (lo : Int))).setCell ⟨b, 1, none⟩ (.int .u32 (hi : Int))).cell? ⟨b, 0, none⟩ = some (.int .u32 (lo : Int)) := by
    rw [World.cell?_setCell_other _ _ _ _ (by simp)]; exact World.cell?_setCell_same _ _ _ q0
   have s1 : ((wy.setCell ⟨b, 0, none⟩ (.int .u32 (lo : Int))).setCell ⟨b, 1, none⟩ (.int .u32 (hi : Int))).cell? ⟨b, 1, none⟩ = some (.int .u32 (hi : Int)) := by
    have q1' : (wy.setCell ⟨b, 0, none⟩ (.int .u32 (lo : Int))).cell? ⟨b, 1, none⟩ = some (.int .u32 0) := by rw [World.cell?_setCell_other _ _ _ _ (by simp)]; exact q1
    exact World.cell?_setCell_same _ _ _ q1'
   have hb5 : Below wr.heap.size wr ((wy.setCell ⟨b, 0, none⟩ (.int .u32 (lo : Int))).setCell ⟨b, 1, none⟩ (.int .u32 (hi : Int))) := (hR.setCell hbl _).setCell hbl _
   obtain ⟨w5, hw5⟩ : ∃ z, (wy.setCell ⟨b, 0, none⟩ (.int .u32 (lo : Int))).setCell ⟨b, 1, none⟩ (.int .u32 (hi : Int)) = z := ⟨_, rfl⟩
   rw [hw5] at s0 s1 hb5
   have hI5 := HIr.out.keep hb5
   have HI5 : Hid (TkI w (.slice am nm pm) (.slice ac nc pc) (.slice ap np pp) bs st en v (tkL ps ps.length) w5) := hI5
   have lc := hI5.lst.cell
   have lf := hI5.lst.frozen
   have hw5s := hI5.bel.size
   have hw5l := hI5.lst.lt
   have HR5 : Hid (∀ o1, (w5.alloc o1).ownsRow (w.heap.size + 1) 120 2 v (ps.length + 1) (stRow (tkL ps ps.length))) := fun o1 => by have := own_alloc hI5.row o1; rw [hlen] at this; exact this
   simp [go_sem, q0, q1, z0, z1, hw5]
   first | refine hK.out _ _ ?_ | refine hK _ _ ?_ | skip
   clear hf hv6 hv33 hB2 q0 q1 z0 z1 hw5 hb5 hR hbl d0 d1 d2 d3 d4 d5 hK hI5 HIr hlo hlo2 hlo3 hlo4 K27
   by_cases hlh : lo < hi
   ·have HTT : Hid (tkL ps ps.length ++ [(lo, hi)] = takenL ps st en) := by show _ = _; rw [HTK.out, if_pos hlh]
    have hlI : (lo : Int) < (hi : Int) := by omega
    go_wp2_with (at_builtin; refine wpList_append_own _ rfl (.tmp 39) (.tmp 41) 136 rfl (w.heap.size + 1) 120 i0 _ 2 8 Tryz.underlying136 HI.out.1 HI.out.2.1 HI.out.2.2.1 HI.out.2.2.2 rfl (by decide) _ _ _ rfl (HR5.out _) ⟨w5.heap.size, 0, none⟩ 1 1 [.int .u32 (lo : Int), .int .u32 (hi : Int)] rfl rfl (?c1) (one2s _ _) (by unfold maxLen; omega) (by omega) (by simp; omega) ?_)
    case c1 =>
     intro j u hj
     match j, hj with
     | 0, hj => simp at hj; subst hj; simp [Addr.add]
     | 1, hj => simp at hj; subst hj; simp [Addr.add]
    intro v' w1 hown' hgrow _
    have hbY : Below w5.heap.size w5 (w5.alloc (.cells #[.int .u32 (lo : Int), .int .u32 (hi : Int)] 120)) := (Below.refl _ _).alloc (Nat.le_refl _) _
    rw [← hlen] at hown'
    obtain ⟨l1, hI1⟩ := TkI.app (x := (lo, hi)) (HI5.out.keep hbY) hgrow hown'
    obtain ⟨g', cap', hv', K94⟩ := tk_end hI1 HTT.out (by simp [hlen]; omega)
    obtain ⟨n9, hn9⟩ : ∃ z, z = (tkL ps ps.length ++ [(lo, hi)]).length := ⟨_, rfl⟩
    rw [← hn9] at hv' K94
    clear hn9
    have lc1 := l1.cell
    have lf1 := l1.frozen
    have lc2 := hI1.lst.cell
    subst hv'
    clear hown' hgrow hbY l1 hI1 HR5 lc lf
    go_wp2_with fail
    refine K94.mono ?_
    rintro e w9 ⟨rfl, hT⟩
    have HTe : Hid _ := hT
    clear hT K94
    go_wp2
    go_ret
    exact ⟨rfl, HTe.out.2⟩
   ·have HTT : Hid (tkL ps ps.length = takenL ps st en) := by show _ = _; rw [HTK.out, if_neg hlh, List.append_nil]
    have hlI : ¬ (lo : Int) < (hi : Int) := by omega
    obtain ⟨g', cap', hv', K94⟩ := tk_end HI5.out HTT.out (by omega)
    obtain ⟨n9, hn9⟩ : ∃ z, z = (tkL ps ps.length).length := ⟨_, rfl⟩
    rw [← hn9] at hv' K94
    clear hn9
    subst hv'
    clear HR5
    go_wp2_with fail
    refine K94.mono ?_
    rintro e w9 ⟨rfl, hT⟩
    have HTe : Hid _ := hT
    clear hT K94
    go_wp2
    go_ret
    exact ⟨rfl, HTe.out.2⟩
end Go.Proofs.YtkpmkgkfpikpfaaGreat
