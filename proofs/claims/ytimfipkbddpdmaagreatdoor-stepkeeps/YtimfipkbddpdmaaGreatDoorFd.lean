import Derived.Test.YtimfipkbddpdmaaGreatDoorBel
import Derived.Test.YtimfipkbddpdmaaGreatDoorRw
set_option linter.unusedVariables false
set_option linter.unusedSimpArgs false
set_option maxRecDepth 100000
open Go Go.RowKit
namespace Go.Proofs.YtimfipkbddpdmaaGreatDoor
def letOf (k : Nat) : Nat × Nat := (letL.lookup k).getD (0, 0)
def isLet (k : Nat) : Bool := (letL.lookup k).isSome
def foldF (l : List Nat) : Nat × Nat := l.foldl (fun a k => (a.1 ||| (letOf k).1, a.2 ||| (letOf k).2)) (0, 0)
def formL (f : ByteArray) : List Nat := f.toList.map (·.toNat)
theorem formL_len (f : ByteArray) : (formL f).length = f.size := by
 rw [formL, List.length_map, ByteArray.toList_eq]; rfl
theorem formL_get (f : ByteArray) (i : Nat) (h : i < f.size) : (formL f)[i]? = some (f[i]'h).toNat := by
 unfold formL
 rw [List.getElem?_map, ByteArray.toList_eq]
 have : f.data.toList[i]? = some (f[i]'h) := by
  rw [Array.getElem?_toList, Array.getElem?_eq_getElem (show i < f.data.size from h)]; rfl
 rw [this]; rfl
theorem lookup_mem : ∀ (l : List (Nat × Nat × Nat)) (k : Nat), (l.lookup k).isSome = true -> k ∈ l.map (·.1)
 | [], k, h => by simp at h
 | x :: l, k, h => by
  by_cases e : k = x.1
  ·simp [e]
  ·have : (k == x.1) = false := by simpa using e
   rw [List.lookup_cons, this] at h
   exact List.mem_cons_of_mem _ (lookup_mem l k h)
theorem look_is (k : Nat) (h : isLet k = true) (w : World) (b : Nat) (hm : LetM w b) : (Instr.lookup 130 (.map (some b)) (.int .i32 k) false).run Tryz.prog w = .ok (letV (letOf k)) w := by
 have hk := lookup_mem letL k h
 simp only [letL, List.map_cons, List.map_nil, List.mem_cons, List.not_mem_nil, or_false] at hk
 rcases hk with rfl | rfl | rfl | rfl | rfl | rfl | rfl | rfl | rfl | rfl | rfl | rfl
 ·exact look w b hm 115 0 _ rfl
 ·exact look w b hm 118 1 _ rfl
 ·exact look w b hm 116 2 _ rfl
 ·exact look w b hm 100 3 _ rfl
 ·exact look w b hm 97 4 _ rfl
 ·exact look w b hm 114 5 _ rfl
 ·exact look w b hm 120 6 _ rfl
 ·exact look w b hm 99 7 _ rfl
 ·exact look w b hm 106 8 _ rfl
 ·exact look w b hm 111 9 _ rfl
 ·exact look w b hm 105 10 _ rfl
 ·exact look w b hm 109 11 _ rfl
theorem let_lt (k : Nat) (h : isLet k = true) : k < 128 /\ (letOf k).1 < 4294967296 /\ (letOf k).2 < 4294967296 := by
 have hk := lookup_mem letL k h
 simp only [letL, List.map_cons, List.map_nil, List.mem_cons, List.not_mem_nil, or_false] at hk
 rcases hk with rfl | rfl | rfl | rfl | rfl | rfl | rfl | rfl | rfl | rfl | rfl | rfl <;> decide
def Fm (f : ByteArray) : Prop := ∀ k ∈ formL f, isLet k = true
def Rw.shape (r : Rw) : Sh := ⟨r.name, r.op, r.same, r.form, (foldF (formL r.form)).1, (foldF (formL r.form)).2⟩
theorem foldF_lt : ∀ (l : List Nat) (a : Nat × Nat), a.1 < 4294967296 -> a.2 < 4294967296 -> (∀ k ∈ l, isLet k = true) -> (l.foldl (fun a k => (a.1 ||| (letOf k).1, a.2 ||| (letOf k).2)) a).1 < 4294967296 /\ (l.foldl (fun a k => (a.1 ||| (letOf k).1, a.2 ||| (letOf k).2)) a).2 < 4294967296
 | [], a, h1, h2, _ => ⟨h1, h2⟩
 | k :: l, a, h1, h2, h => by
  obtain ⟨_, g1, g2⟩ := let_lt k (h k (by simp))
  exact foldF_lt l _ (or_lt _ _ h1 g1) (or_lt _ _ h2 g2) (fun k hk => h k (List.mem_cons_of_mem _ hk))
theorem foldF_snoc (l : List Nat) (k : Nat) : foldF (l ++ [k]) = ((foldF l).1 ||| (letOf k).1, (foldF l).2 ||| (letOf k).2) := by
 unfold foldF; rw [List.foldl_append]; rfl
theorem below_iterAt {B : Nat} {w w1 : World} (h : Below B w w1) {k : Nat} (hk : B <= k) (s : ByteArray) (p : Nat) : Below B w (w1.iterAt k s p) :=
 ⟨h.os, h.tape, h.output, by simpa [World.iterAt] using h.size, fun i hi => by
  rw [<- h.block i hi]
  show (w1.heap.setIfInBounds k _)[i]? = _
  rw [Array.getElem?_setIfInBounds, if_neg (by omega)]⟩
theorem heap_setCell_other (w : World) (p : Addr) (v : Value) (k : Nat) (h : k ≠ p.block) : (w.setCell p v).heap[k]? = w.heap[k]? := by
 unfold World.setCell
 split <;> simp [Array.getElem?_modify, Ne.symm h]
structure ShI (w0 wr : World) (r : Rw) (pos F G : Nat) : Prop where
 it : wr.heap[w0.heap.size + 1 + 1 + 1]? = some (.stringIter r.form pos)
 c0 : wr.cell? ⟨w0.heap.size + 1 + 1, 0, none⟩ = some (.string r.name)
 c1 : wr.cell? ⟨w0.heap.size + 1 + 1, 1, none⟩ = some (.int .u32 r.op)
 c2 : wr.cell? ⟨w0.heap.size + 1 + 1, 2, none⟩ = some (.int .u32 r.same)
 c3 : wr.cell? ⟨w0.heap.size + 1 + 1, 3, none⟩ = some (.string r.form)
 c4 : wr.cell? ⟨w0.heap.size + 1 + 1, 4, none⟩ = some (.int .u32 F)
 c5 : wr.cell? ⟨w0.heap.size + 1 + 1, 5, none⟩ = some (.int .u32 G)
 f4 : wr.frozen? ⟨w0.heap.size + 1 + 1, 4, none⟩ = false
 f5 : wr.frozen? ⟨w0.heap.size + 1 + 1, 5, none⟩ = false
 res : Free wr ⟨w0.heap.size + 1, 0, none⟩ /\ Free wr ⟨w0.heap.size + 1, 1, none⟩ /\ Free wr ⟨w0.heap.size + 1, 2, none⟩ /\ Free wr ⟨w0.heap.size + 1, 3, none⟩ /\ Free wr ⟨w0.heap.size + 1, 4, none⟩ /\ Free wr ⟨w0.heap.size + 1, 5, none⟩
 bel : Below w0.heap.size w0 wr
theorem ShI.next {w0 wr : World} {r : Rw} {pos F G : Nat} (h : ShI w0 wr r pos F G) (pos' : Nat) : ShI w0 (wr.iterAt (w0.heap.size + 1 + 1 + 1) r.form pos') r pos' F G := by
 have hb : Below (w0.heap.size + 1 + 1 + 1) wr (wr.iterAt (w0.heap.size + 1 + 1 + 1) r.form pos') := below_iterAt (Below.refl _ _) (Nat.le_refl _) _ _
 have kc : ∀ {a : Addr} {v : Value}, a.block < w0.heap.size + 1 + 1 + 1 -> wr.cell? a = some v -> (wr.iterAt (w0.heap.size + 1 + 1 + 1) r.form pos').cell? a = some v := fun ha hc => (hb.cell ha).trans hc
 have kf : ∀ {a : Addr}, a.block < w0.heap.size + 1 + 1 + 1 -> Free wr a -> Free (wr.iterAt (w0.heap.size + 1 + 1 + 1) r.form pos') a := fun ha hf => ⟨⟨_, kc ha hf.cell⟩, (hb.frozen ha).trans hf.frozen⟩
 refine ⟨Lib.iterAt_heap _ _ _ _ _ h.it, kc (by simp) h.c0, kc (by simp) h.c1, kc (by simp) h.c2, kc (by simp) h.c3, kc (by simp) h.c4, kc (by simp) h.c5, (hb.frozen (by simp)).trans h.f4, (hb.frozen (by simp)).trans h.f5, ⟨kf (by simp) h.res.1, kf (by simp) h.res.2.1, kf (by simp) h.res.2.2.1, kf (by simp) h.res.2.2.2.1, kf (by simp) h.res.2.2.2.2.1, kf (by simp) h.res.2.2.2.2.2⟩, below_iterAt h.bel (by omega) _ _⟩
theorem ShI.set {w0 wr : World} {r : Rw} {pos F G : Nat} (h : ShI w0 wr r pos F G) (F' G' : Nat) : ShI w0 ((wr.setCell ⟨w0.heap.size + 1 + 1, 4, none⟩ (.int .u32 F')).setCell ⟨w0.heap.size + 1 + 1, 5, none⟩ (.int .u32 G')) r pos F' G' := by
 have o : ∀ {a : Addr} {v x y : Value}, a ≠ ⟨w0.heap.size + 1 + 1, 4, none⟩ -> a ≠ ⟨w0.heap.size + 1 + 1, 5, none⟩ -> wr.cell? a = some v -> ((wr.setCell ⟨w0.heap.size + 1 + 1, 4, none⟩ x).setCell ⟨w0.heap.size + 1 + 1, 5, none⟩ y).cell? a = some v := fun h4 h5 hc => by
  rw [World.cell?_setCell_other _ _ _ _ (Ne.symm h5), World.cell?_setCell_other _ _ _ _ (Ne.symm h4)]; exact hc
 have f4 : Free wr ⟨w0.heap.size + 1 + 1, 4, none⟩ := ⟨⟨_, h.c4⟩, h.f4⟩
 have f5 : Free wr ⟨w0.heap.size + 1 + 1, 5, none⟩ := ⟨⟨_, h.c5⟩, h.f5⟩
 refine ⟨?_, o (by simp) (by simp) h.c0, o (by simp) (by simp) h.c1, o (by simp) (by simp) h.c2, o (by simp) (by simp) h.c3, ?_, ?_, ?_, ?_, ?_, (h.bel.setCell (by simp; omega) _).setCell (by simp; omega) _⟩
 ·rw [heap_setCell_other _ _ _ _ (by simp), heap_setCell_other _ _ _ _ (by simp)]; exact h.it
 ·rw [World.cell?_setCell_other _ _ _ _ (by simp)]; exact World.cell?_setCell_same _ _ _ f4.cell
 ·exact World.cell?_setCell_same _ _ _ (f5.set _ _).cell
 ·exact ((f4.set _ _).set _ _).frozen
 ·exact ((f5.set _ _).set _ _).frozen
 ·exact ⟨(h.res.1.set _ _).set _ _, (h.res.2.1.set _ _).set _ _, (h.res.2.2.1.set _ _).set _ _, (h.res.2.2.2.1.set _ _).set _ _, (h.res.2.2.2.2.1.set _ _).set _ _, (h.res.2.2.2.2.2.set _ _).set _ _⟩
theorem fld0 (x y : Int) (w : World) : (Instr.field 137 (.agg #[.int .u32 x, .int .u32 y]) 0).run Tryz.prog w = .ok (.int .u32 x) w := by kernel_rfl
theorem fld1 (x y : Int) (w : World) : (Instr.field 137 (.agg #[.int .u32 x, .int .u32 y]) 1).run Tryz.prog w = .ok (.int .u32 y) w := by kernel_rfl
set_option maxHeartbeats 1000000 in
theorem shape18 (r : Rw) (b : Nat) (w : World) (hf : Fm r.form) (hm : LetM w b) : Calls Tryz.prog 76 #[.map (some b), r.val] w fun e w' => e = .returned r.shape.val /\ Below w.heap.size w w' := by
 have HV : Hid (r.shape.val = .agg #[.string r.name, .int .u32 r.op, .int .u32 r.same, .string r.form, .int .u32 ((foldF (formL r.form)).1 : Int), .int .u32 ((foldF (formL r.form)).2 : Int)]) := rfl
 obtain ⟨V, hV⟩ : ∃ V, V = r.shape.val := ⟨_, rfl⟩
 rw [<- hV] at HV |-
 clear hV
 have HM : Hid (∀ w', Below w.heap.size w w' -> LetM w' b) := fun w' h => hm.keep h
 obtain ⟨W, hW⟩ : ∃ W, ((((w.alloc (.cells #[.string r.name, .int .u32 r.op, .int .u32 r.same, .string r.form] 133)).alloc (.cells #[.string ⟨#[]⟩, .int .u32 0, .int .u32 0, .string ⟨#[]⟩, .int .u32 0, .int .u32 0] 139)).alloc (.cells #[.string r.name, .int .u32 r.op, .int .u32 r.same, .string r.form, .int .u32 0, .int .u32 0] 139)).iter r.form 0) = W := ⟨_, rfl⟩
 have HI : Hid (ShI w W r 0 (foldF ((formL r.form).take 0)).1 (foldF ((formL r.form).take 0)).2) := by
  show ShI _ _ _ _ _ _
  have n0 : w.heap.size + 1 = (w.alloc (.cells #[.string r.name, .int .u32 r.op, .int .u32 r.same, .string r.form] 133)).heap.size := by simp
  have n1 : w.heap.size + 1 + 1 = ((w.alloc (.cells #[.string r.name, .int .u32 r.op, .int .u32 r.same, .string r.form] 133)).alloc (.cells #[.string ⟨#[]⟩, .int .u32 0, .int .u32 0, .string ⟨#[]⟩, .int .u32 0, .int .u32 0] 139)).heap.size := by simp
  rw [<- hW]
  unfold World.iter
  refine ⟨?_, ?_, ?_, ?_, ?_, ?_, ?_, ?_, ?_, ⟨⟨⟨.string ⟨#[]⟩, ?_⟩, ?_⟩, ⟨⟨.int .u32 0, ?_⟩, ?_⟩, ⟨⟨.int .u32 0, ?_⟩, ?_⟩, ⟨⟨.string ⟨#[]⟩, ?_⟩, ?_⟩, ⟨⟨.int .u32 0, ?_⟩, ?_⟩, ⟨⟨.int .u32 0, ?_⟩, ?_⟩⟩, ?_⟩
  ·have := (MapKept.heap_alloc (((w.alloc (.cells #[.string r.name, .int .u32 r.op, .int .u32 r.same, .string r.form] 133)).alloc (.cells #[.string ⟨#[]⟩, .int .u32 0, .int .u32 0, .string ⟨#[]⟩, .int .u32 0, .int .u32 0] 139)).alloc (.cells #[.string r.name, .int .u32 r.op, .int .u32 r.same, .string r.form, .int .u32 0, .int .u32 0] 139)) (.stringIter r.form 0)).1
   simpa using this
  ·exact cell_old (cell_newA _ _ _ _ _ _ n1 rfl) _
  ·exact cell_old (cell_newA _ _ _ _ _ _ n1 rfl) _
  ·exact cell_old (cell_newA _ _ _ _ _ _ n1 rfl) _
  ·exact cell_old (cell_newA _ _ _ _ _ _ n1 rfl) _
  ·exact cell_old (cell_newA _ _ _ _ _ _ n1 rfl) _
  ·exact cell_old (cell_newA _ _ _ _ _ _ n1 rfl) _
  ·rw [World.frozen?_alloc_old _ _ _ (by simp), World.frozen?_alloc_at _ _ _ _ n1]
  ·rw [World.frozen?_alloc_old _ _ _ (by simp), World.frozen?_alloc_at _ _ _ _ n1]
  all_goals first | exact cell_old (cell_old (cell_newA _ _ _ _ _ _ n0 rfl) _) _ | (rw [World.frozen?_alloc_old _ _ _ (by simp), World.frozen?_alloc_old _ _ _ (by simp), World.frozen?_alloc_at _ _ _ _ n0]) | skip
  exact (((((Below.refl _ _).alloc (Nat.le_refl _) _).alloc (by simp) _).alloc (by simp; omega) _).alloc (by simp; omega) _)
 clear hm
 have hlen := formL_len r.form
 have hget := fun i h => formL_get r.form i h
 unfold Rw.val
 obtain ⟨name, op, same, form⟩ := r
 simp only at HV HI hW hf hlen hget |-
 have HLEN : Hid ((formL form).length = form.size) := hlen
 have HGET : Hid (∀ (i : Nat) (h : i < form.size), (formL form)[i]? = some (form[i]'h).toNat) := hget
 have HF : Hid (Fm form) := hf
 clear hlen hget hf
 have hfl0 := fld0
 have hfl1 := fld1
 go_enter Tryz.func76, Tryz.ntmps76
 go_wp2
 clear hW
 go_loopw [7] (fun _ wr => ∃ pos, pos <= form.size /\ ShI w wr ⟨name, op, same, form⟩ pos (foldF ((formL form).take pos)).1 (foldF ((formL form).take pos)).2) (fun _ wr => form.size - wr.iterPos (w.heap.size + 1 + 1 + 1))
 case atStart => exact ⟨0, Nat.zero_le _, HI.out⟩
 case round =>
  obtain ⟨pos, hpos, hI⟩ := hrel
  have HIR : Hid _ := hI
  by_cases hp : pos < form.size
  ·have hg := HGET.out pos hp
   have hkm : (form[pos]'hp).toNat ∈ formL form := List.mem_of_getElem? hg
   have hkl := HF.out _ hkm
   obtain ⟨k1, k2, k3⟩ := let_lt _ hkl
   have hn := fun ty => Lib.run_next_ascii_at (P := Tryz.prog) wr (w.heap.size + 1 + 1 + 1) form pos ty hI.it hp k1
   have hsn : foldF ((formL form).take (pos + 1)) = ((foldF ((formL form).take pos)).1 ||| (letOf (form[pos]'hp).toNat).1, (foldF ((formL form).take pos)).2 ||| (letOf (form[pos]'hp).toNat).2) := by
    rw [List.take_add_one, hg, Option.toList_some]; exact foldF_snoc _ _
   have hlt := foldF_lt ((formL form).take pos) (0, 0) (by decide) (by decide) (fun k hk => HF.out k (List.mem_of_mem_take hk))
   generalize (form[pos]'hp).toNat = k at hn hsn k1 k2 k3 hkl
   have hI2 := hI.next (pos + 1)
   simp only at hI2
   obtain ⟨WI, hWI⟩ : ∃ WI, wr.iterAt (w.heap.size + 1 + 1 + 1) form (pos + 1) = WI := ⟨_, rfl⟩
   rw [hWI] at hI2 hn
   obtain ⟨F, hF⟩ : ∃ F, F = (foldF ((formL form).take pos)).1 := ⟨_, rfl⟩
   obtain ⟨G, hG⟩ : ∃ F, F = (foldF ((formL form).take pos)).2 := ⟨_, rfl⟩
   rw [<- hF, <- hG] at hI2
   have o1 := or_u32 F (letOf k).1 (by rw [hF]; exact hlt.1) k2
   have o2 := or_u32 G (letOf k).2 (by rw [hG]; exact hlt.2) k3
   have l1 := look_is k hkl WI b (HM.out WI hI2.bel)
   have l2 := look_is k hkl (WI.setCell ⟨w.heap.size + 1 + 1, 4, none⟩ (.int .u32 ((F ||| (letOf k).1 : Nat) : Int))) b (HM.out _ (hI2.bel.setCell (by simp; omega) _))
   have hI3 := hI2.set (F ||| (letOf k).1) (G ||| (letOf k).2)
   obtain ⟨W3, hW3⟩ : ∃ W3, (WI.setCell ⟨w.heap.size + 1 + 1, 4, none⟩ (.int .u32 ((F ||| (letOf k).1 : Nat) : Int))).setCell ⟨w.heap.size + 1 + 1, 5, none⟩ (.int .u32 ((G ||| (letOf k).2 : Nat) : Int)) = W3 := ⟨_, rfl⟩
   rw [hW3] at hI3
   have HI3 : Hid (∃ p, p <= form.size /\ ShI w W3 ⟨name, op, same, form⟩ p (foldF ((formL form).take p)).1 (foldF ((formL form).take p)).2) := ⟨pos + 1, hp, by rw [hsn]; simp only; rw [<- hF, <- hG]; exact hI3⟩
   have HME : Hid (form.size - W3.iterPos (w.heap.size + 1 + 1 + 1) < form.size - wr.iterPos (w.heap.size + 1 + 1 + 1)) := by
    show _ < _
    rw [iterPos_of hI3.it, iterPos_of hI.it]; omega
   unfold letV at l1 l2
   generalize (letOf k).1 = f1 at *
   generalize (letOf k).2 = g1 at *
   have c4 := hI2.c4
   have c5 := hI2.c5
   have f4 := hI2.f4
   have f5 := hI2.f5
   clear hI2 hI3 hI hWI hlt hsn hg hkm hkl hF hG k2 k3 HIR
   go_wp2
   go_roundw
   case rel => exact HI3.out
   case measure => exact HME.out
  ·have he : pos = form.size := by omega
   subst he
   have htk : (formL form).take form.size = formL form := by rw [<- HLEN.out]; exact List.take_length
   rw [htk] at hI
   have hn := fun ty => Lib.run_next_end_at (P := Tryz.prog) wr (w.heap.size + 1 + 1 + 1) form form.size ty hI.it hp
   have hres := res6 wr (w.heap.size + 1) (.string name) (.int .u32 op) (.int .u32 same) (.string form) (.int .u32 ((foldF (formL form)).1 : Int)) (.int .u32 ((foldF (formL form)).2 : Int)) hI.res
   have HBE := below6 (n := w.heap.size + 1) hI.bel (by omega) (.string name) (.int .u32 op) (.int .u32 same) (.string form) (.int .u32 ((foldF (formL form)).1 : Int)) (.int .u32 ((foldF (formL form)).2 : Int))
   simp only at hres
   obtain ⟨c0, c1, c2, c3, c4, c5⟩ := And.intro hI.c0 (And.intro hI.c1 (And.intro hI.c2 (And.intro hI.c3 (And.intro hI.c4 hI.c5))))
   obtain ⟨f0, f1, f2, f3, f4, f5⟩ := hI.res
   have q0 := f0.cell
   have q1 := f1.cell
   have q2 := f2.cell
   have q3 := f3.cell
   have q4 := f4.cell
   have q5 := f5.cell
   have z0 := f0.frozen
   have z1 := f1.frozen
   have z2 := f2.frozen
   have z3 := f3.frozen
   have z4 := f4.frozen
   have z5 := f5.frozen
   simp only at c0 c1 c2 c3 c4 c5
   generalize (foldF (formL form)).1 = FF at *
   generalize (foldF (formL form)).2 = GG at *
   obtain ⟨W9, hW9⟩ : ∃ z, (((((wr.setCell ⟨w.heap.size + 1, 0, none⟩ (.string name)).setCell ⟨w.heap.size + 1, 1, none⟩ (.int .u32 op)).setCell ⟨w.heap.size + 1, 2, none⟩ (.int .u32 same)).setCell ⟨w.heap.size + 1, 3, none⟩ (.string form)).setCell ⟨w.heap.size + 1, 4, none⟩ (.int .u32 FF)).setCell ⟨w.heap.size + 1, 5, none⟩ (.int .u32 GG) = z := ⟨_, rfl⟩
   rw [hW9] at hres HBE
   have HBE : Hid _ := HBE
   obtain ⟨s0, s1, s2, s3, s4, s5⟩ := hres
   clear hI HIR HI htk hp hpos
   go_wp2
   refine bodyPost_ret (v := V) ?_ rfl ⟨rfl, HBE.out⟩
   rw [HV.out, results_cell1 rfl]; simp [go_sem, s0, s1, s2, s3, s4, s5]
def rowOkB (r : Rw) : Bool := (formL r.form).all isLet && (decide (r.op < 64) && (decide (r.same < 67108864) && (decide (r.shape.few < 67108864) && (r.shape.great == 0 || r.shape.great == 67108800 || r.shape.great == 65535 || r.shape.great == 67108863))))
structure RowOk (r : Rw) : Prop where
 fm : Fm r.form
 op : r.op < 64
 same : r.same < 67108864
 few : r.shape.few < 67108864
 great : Great r.shape.great
theorem rowOk_of {r : Rw} (h : rowOkB r = true) : RowOk r := by
 simp only [rowOkB, Bool.and_eq_true, decide_eq_true_eq, Bool.or_eq_true, beq_iff_eq, List.all_eq_true] at h
 obtain ⟨h1, h2, h3, h4, h5⟩ := h
 refine ⟨h1, h2, h3, h4, ?_⟩
 unfold Great
 rcases h5 with ((h | h) | h) | h
 ·exact .inl h
 ·exact .inr (.inl h)
 ·exact .inr (.inr (.inl h))
 ·exact .inr (.inr (.inr h))
theorem rows_ok : rowsL.all rowOkB = true := by decide +kernel
theorem row_ok {r : Rw} (h : r ∈ rowsL) : RowOk r := rowOk_of (List.all_eq_true.1 rows_ok r h)
def zeroR : Rw := ⟨⟨#[]⟩, 0, 0, ⟨#[]⟩⟩
theorem zero_ok : RowOk zeroR := rowOk_of (by decide +kernel)
def RowsAt (w : World) (b : Nat) : Prop := ∀ i (h : i < rowsL.length), w.cell? ⟨b, i * 4, none⟩ = some (.string rowsL[i].name) /\ w.cell? ⟨b, i * 4 + 1, none⟩ = some (.int .u32 (rowsL[i].op : Int)) /\ w.cell? ⟨b, i * 4 + 2, none⟩ = some (.int .u32 (rowsL[i].same : Int)) /\ w.cell? ⟨b, i * 4 + 3, none⟩ = some (.string rowsL[i].form)
theorem RowsAt.keep {w w' : World} {b : Nat} (h : RowsAt w b) (hb : Below w.heap.size w w') : RowsAt w' b := fun i hi => by
 obtain ⟨h0, h1, h2, h3⟩ := h i hi
 exact ⟨keep_cell hb h0, keep_cell hb h1, keep_cell hb h2, keep_cell hb h3⟩
theorem flat_get : ∀ (l : List Rw) (i j : Nat) (h : i < l.length) (hj : j < 4), (l.flatMap Rw.cells)[i * 4 + j]? = (l[i].cells)[j]?
 | [], i, j, h, _ => absurd h (Nat.not_lt_zero _)
 | r :: l, 0, j, _, hj => by
  rw [List.flatMap_cons, List.getElem?_append_left (by show _ < 4; omega), Nat.zero_mul, Nat.zero_add]; rfl
 | r :: l, i + 1, j, h, hj => by
  rw [List.flatMap_cons, List.getElem?_append_right (by show 4 <= _; omega), show (i + 1) * 4 + j - r.cells.length = i * 4 + j from by show _ - 4 = _; omega]
  exact flat_get l i j (by simpa using h) hj
theorem rowsAt_new (w : World) : RowsAt (w.alloc (.cells rowsA 133)) w.heap.size := fun i hi => by
 have hg : ∀ j, j < 4 -> rowsA[i * 4 + j]? = (rowsL[i].cells)[j]? := fun j hj => by
  rw [rowsA, List.getElem?_toArray]; exact flat_get rowsL i j hi hj
 refine ⟨?_, ?_, ?_, ?_⟩
 ·exact cell_newA w _ _ _ _ _ rfl (hg 0 (by decide))
 ·exact cell_newA w _ _ _ _ _ rfl (hg 1 (by decide))
 ·exact cell_newA w _ _ _ _ _ rfl (hg 2 (by decide))
 ·exact cell_newA w _ _ _ _ _ rfl (hg 3 (by decide))
theorem rows_len : rowsL.length = 83 := by decide +kernel
theorem box4 (w : World) (a b c d : Value) (t : Nat) : ∃ W, w.alloc (.cells #[a, b, c, d] t) = W /\ Below w.heap.size w W /\ W.heap.size = w.heap.size + 1 /\
  W.cell? ⟨w.heap.size, 0, none⟩ = some a /\ W.cell? ⟨w.heap.size, 1, none⟩ = some b /\ W.cell? ⟨w.heap.size, 2, none⟩ = some c /\ W.cell? ⟨w.heap.size, 3, none⟩ = some d /\ Free W ⟨w.heap.size, 0, none⟩ /\ Free W ⟨w.heap.size, 1, none⟩ /\ Free W ⟨w.heap.size, 2, none⟩ /\ Free W ⟨w.heap.size, 3, none⟩ := by
 refine ⟨_, rfl, (Below.refl _ _).alloc (Nat.le_refl _) _, by simp, ?_, ?_, ?_, ?_, ⟨⟨a, ?_⟩, ?_⟩, ⟨⟨b, ?_⟩, ?_⟩, ⟨⟨c, ?_⟩, ?_⟩, ⟨⟨d, ?_⟩, ?_⟩⟩
 all_goals first | exact cell_newA w _ _ _ _ _ rfl rfl | (rw [World.frozen?_alloc_at _ _ _ _ rfl])
theorem res4 (w : World) (n : Nat) (x0 x1 x2 x3 : Value) (f0 : Free w ⟨n, 0, none⟩) (f1 : Free w ⟨n, 1, none⟩) (f2 : Free w ⟨n, 2, none⟩) (f3 : Free w ⟨n, 3, none⟩) :
  let W := (((w.setCell ⟨n, 0, none⟩ x0).setCell ⟨n, 1, none⟩ x1).setCell ⟨n, 2, none⟩ x2).setCell ⟨n, 3, none⟩ x3
  W.cell? ⟨n, 0, none⟩ = some x0 /\ W.cell? ⟨n, 1, none⟩ = some x1 /\ W.cell? ⟨n, 2, none⟩ = some x2 /\ W.cell? ⟨n, 3, none⟩ = some x3 := by
 refine ⟨?_, ?_, ?_, ?_⟩
 ·rw [World.cell?_setCell_other _ _ _ _ (by simp)]; rw [World.cell?_setCell_other _ _ _ _ (by simp)]; rw [World.cell?_setCell_other _ _ _ _ (by simp)]; exact World.cell?_setCell_same _ _ _ f0.cell
 ·rw [World.cell?_setCell_other _ _ _ _ (by simp)]; rw [World.cell?_setCell_other _ _ _ _ (by simp)]; exact World.cell?_setCell_same _ _ _ (f1.set _ _).cell
 ·rw [World.cell?_setCell_other _ _ _ _ (by simp)]; exact World.cell?_setCell_same _ _ _ ((f2.set _ _).set _ _).cell
 ·exact World.cell?_setCell_same _ _ _ (((f3.set _ _).set _ _).set _ _).cell
theorem below4 {B : Nat} {w0 w : World} {n : Nat} (h : Below B w0 w) (hn : B <= n) (x0 x1 x2 x3 : Value) : Below B w0 ((((w.setCell ⟨n, 0, none⟩ x0).setCell ⟨n, 1, none⟩ x1).setCell ⟨n, 2, none⟩ x2).setCell ⟨n, 3, none⟩ x3) :=
 (((h.setCell hn _).setCell hn _).setCell hn _).setCell hn _
def idxI (p : Rw -> Bool) : Int := match rowsL.findIdx? p with | some k => (k : Int) | none => -1
theorem idx_at (p : Rw -> Bool) (k : Nat) (h : k < rowsL.length) (hp : p rowsL[k] = true) (hb : ∀ j (hj : j < rowsL.length), j < k -> p rowsL[j] = false) : idxI p = (k : Int) := by
 have : rowsL.findIdx? p = some k := List.findIdx?_eq_some_iff_getElem.2 ⟨h, hp, fun j hj => by rw [hb j (by omega) hj]; decide⟩
 unfold idxI; rw [this]
theorem idx_none (p : Rw -> Bool) (hb : ∀ j (hj : j < rowsL.length), p rowsL[j] = false) : idxI p = -1 := by
 have : rowsL.findIdx? p = none := List.findIdx?_eq_none_iff.2 (fun x hx => by obtain ⟨i, hi, rfl⟩ := List.getElem_of_mem hx; exact hb i hi)
 unfold idxI; rw [this]
theorem idx_cases (p : Rw -> Bool) : (idxI p = -1 /\ rowsL.find? p = none) \/ ∃ k, ∃ h : k < rowsL.length, idxI p = (k : Int) /\ rowsL.find? p = some rowsL[k] := by
 unfold idxI
 cases h : rowsL.findIdx? p with
 | none =>
  refine .inl ⟨rfl, List.find?_eq_none.2 (fun x hx => ?_)⟩
  have := List.findIdx?_eq_none_iff.1 h x hx
  rw [this]; decide
 | some k =>
  obtain ⟨h1, h2, h3⟩ := List.findIdx?_eq_some_iff_getElem.1 h
  refine .inr ⟨k, h1, rfl, ?_⟩
  rw [List.find?_eq_some_iff_getElem]
  exact ⟨h2, k, h1, rfl, fun j hj => by simpa using h3 j hj⟩
def foundR (p : Rw -> Bool) : Rw := (rowsL.find? p).getD zeroR
def isFound (p : Rw -> Bool) : Bool := (rowsL.find? p).isSome
set_option maxHeartbeats 1000000 in
theorem index28_17 (p : Rw -> Bool) (p0 p1 : Addr) (b : Nat) (w : World) (hr : RowsAt w b) (hc : (∀ r ∈ rowsL, ∀ w', Below w.heap.size w w' -> Calls Tryz.prog 75 #[r.val, .pointer (some p0), .pointer (some p1)] w' fun e w'' => e = .returned (.bool (p r)) /\ Below w'.heap.size w' w'')) :
  Calls Tryz.prog 96 #[.slice (some ⟨b, 0, none⟩) 83 83, .func (.func 75) #[] #[.pointer (some p0), .pointer (some p1)]] w fun e w' => e = .returned (.int .i64 (idxI p)) /\ Below w.heap.size w w' := by
 have HR : Hid (∀ w', Below w.heap.size w w' -> RowsAt w' b) := fun w' h => hr.keep h
 have HC : Hid (∀ r ∈ rowsL, ∀ w', Below w.heap.size w w' -> Calls Tryz.prog 75 #[r.val, .pointer (some p0), .pointer (some p1)] w' fun e w'' => e = .returned (.bool (p r)) /\ Below w'.heap.size w' w'') := hc
 have hl := rows_len
 have HL : Hid (rowsL.length = 83) := hl
 clear hr hc hl
 obtain ⟨z, hz⟩ : ∃ z, z = idxI p := ⟨_, rfl⟩
 rw [<- hz]
 have HZ : Hid (z = idxI p) := hz
 clear hz
 go_enter Tryz.func96, Tryz.ntmps96
 go_wp2
 go_loopw [8] (fun i wr => ∃ k : Nat, k <= 83 /\ i = .int .i64 k /\ Below w.heap.size w wr /\ ∀ j (hj : j < rowsL.length), j < k -> p rowsL[j] = false) (fun i _ => 83 - (intOf i).toNat)
 case atStart => exact ⟨0, by decide, rfl, Below.refl _ _, fun j _ h => absurd h (Nat.not_lt_zero _)⟩
 case round =>
  obtain ⟨k, hk, rfl, hbr, hpre⟩ := hrel
  have HB : Hid (Below w.heap.size w wr) := hbr
  have HP : Hid (∀ j (hj : j < rowsL.length), j < k -> p rowsL[j] = false) := hpre
  have hk64 : wrap64 ((k : Int) + 1) = (k : Int) + 1 := by unfold wrap64; omega
  by_cases hkl : k < 83
  ·have hk' : k < rowsL.length := by rw [HL.out]; exact hkl
   obtain ⟨q0, q1, q2, q3⟩ := HR.out wr hbr k hk'
   have K := HC.out rowsL[k] (List.getElem_mem hk') wr hbr
   unfold Rw.val at K
   have hkI : (k : Int) < 83 := by omega
   have HE : Hid (p rowsL[k] = true -> z = (k : Int)) := fun h => by rw [HZ.out]; exact idx_at p k hk' h HP.out
   have HN : Hid (p rowsL[k] = false -> ∀ j (hj : j < rowsL.length), j < k + 1 -> p rowsL[j] = false) := fun h j hj hjk => by
    by_cases e : j = k
    ·subst e; exact h
    ·exact HP.out j hj (by omega)
   generalize p rowsL[k] = pb at K HE HN
   generalize rowsL[k] = r at q0 q1 q2 q3 K
   clear hbr hpre hk'
   go_wp2_with fail
   refine K.mono ?_
   rintro e wG ⟨rfl, hbG⟩
   have HBG : Hid (Below w.heap.size w wG) := below_tr HB.out hbG
   clear K hbG q0 q1 q2 q3
   cases pb with
   | true =>
    have HEE : Hid (z = (k : Int)) := HE.out rfl
    go_wp2
    go_ret
    exact ⟨by rw [HEE.out]; rfl, HBG.out⟩
   | false =>
    have HNN : Hid _ := HN.out rfl
    clear HN HE
    go_wp2
    go_roundw
    case rel => exact ⟨k + 1, by omega, by go_num, HBG.out, HNN.out⟩
    case measure => simp [intOf]; omega
  ·have he : k = 83 := by omega
   subst he
   have HEE : Hid (z = -1) := by show _ = _; rw [HZ.out]; exact idx_none p (fun j hj => HP.out j hj (by rw [HL.out] at hj; exact hj))
   clear hbr hpre
   go_wp2
   go_ret
   exact ⟨by rw [HEE.out]; rfl, HB.out⟩
set_option maxHeartbeats 1000000 in
theorem found16_17 (p : Rw -> Bool) (p0 p1 : Addr) (w : World) (hc : (∀ r ∈ rowsL, ∀ w', Below w.heap.size w w' -> Calls Tryz.prog 75 #[r.val, .pointer (some p0), .pointer (some p1)] w' fun e w'' => e = .returned (.bool (p r)) /\ Below w'.heap.size w' w'')) :
  Calls Tryz.prog 74 #[.func (.func 75) #[] #[.pointer (some p0), .pointer (some p1)]] w fun e w' => e = .returned (.tuple #[(foundR p).val, .bool (isFound p)]) /\ Below w.heap.size w w' := by
 obtain ⟨W, hW, hb, hz, c0, c1, c2, c3, g0, g1, g2, g3⟩ := box4 w (.string ⟨#[]⟩) (.int .u32 0) (.int .u32 0) (.string ⟨#[]⟩) 133
 have K27 := rows27 W
 have hrn := rowsAt_new W
 have hbn : Below W.heap.size W (W.alloc (.cells rowsA 133)) := (Below.refl _ _).alloc (Nat.le_refl _) _
 have HBW : Hid (Below w.heap.size w W) := hb
 have hsz : w.heap.size + 1 = W.heap.size := hz.symm
 have K28 := index28_17 p p0 p1 W.heap.size (W.alloc (.cells rowsA 133)) hrn (fun r hr w' h => hc r hr w' (below_tr (below_tr hb hbn) h))
 have HRW : Hid (∀ w', Below (W.alloc (.cells rowsA 133)).heap.size (W.alloc (.cells rowsA 133)) w' -> RowsAt w' W.heap.size /\ Below w.heap.size w w' /\ Free w' ⟨w.heap.size, 0, none⟩ /\ Free w' ⟨w.heap.size, 1, none⟩ /\ Free w' ⟨w.heap.size, 2, none⟩ /\ Free w' ⟨w.heap.size, 3, none⟩) := fun w' h => ⟨hrn.keep h, below_tr hb (below_tr hbn h), (g0.keep hbn).keep h, (g1.keep hbn).keep h, (g2.keep hbn).keep h, (g3.keep hbn).keep h⟩
 have hl := rows_len
 have HL : Hid (rowsL.length = 83) := hl
 clear hl hc hrn hbn hb c0 c1 c2 c3 g0 g1 g2 g3
 rw [hz] at K27 K28 HRW
 obtain ⟨W2, hW2⟩ : ∃ W2, W.alloc (.cells rowsA 133) = W2 := ⟨_, rfl⟩
 rw [hW2] at K27 K28 HRW
 have hcs := idx_cases p
 have HF : Hid (foundR p = (rowsL.find? p).getD zeroR /\ isFound p = (rowsL.find? p).isSome) := ⟨rfl, rfl⟩
 generalize foundR p = R at HF |-
 generalize isFound p = fb at HF |-
 rcases hcs with ⟨hi, hf⟩ | ⟨k, hk, hi, hf⟩
 ·rw [hf] at HF
  rw [hi] at K28
  obtain ⟨hR, hfb⟩ := HF
  subst hR hfb
  show Calls _ _ _ _ fun e w' => e = .returned (.tuple #[.agg #[.string ⟨#[]⟩, .int .u32 0, .int .u32 0, .string ⟨#[]⟩], .bool false]) /\ Below w.heap.size w w'
  clear hf hi hW2 hsz hz
  go_enter Tryz.func74, Tryz.ntmps74
  go_wp2_with fail
  refine K27.mono ?_
  rintro e w1 ⟨rfl, rfl⟩
  go_wp2_with fail
  refine K28.mono ?_
  rintro e w3 ⟨rfl, hb3⟩
  obtain ⟨hra, hbw, f0, f1, f2, f3⟩ := HRW.out w3 hb3
  have q0 := f0.cell
  have q1 := f1.cell
  have q2 := f2.cell
  have q3 := f3.cell
  have z0 := f0.frozen
  have z1 := f1.frozen
  have z2 := f2.frozen
  have z3 := f3.frozen
  have hres := res4 w3 w.heap.size (.string ⟨#[]⟩) (.int .u32 0) (.int .u32 0) (.string ⟨#[]⟩) f0 f1 f2 f3
  simp only at hres
  have HBE := below4 (n := w.heap.size) hbw (Nat.le_refl _) (.string ⟨#[]⟩) (.int .u32 0) (.int .u32 0) (.string ⟨#[]⟩)
  obtain ⟨W9, hW9⟩ : ∃ z, (((w3.setCell ⟨w.heap.size, 0, none⟩ (.string ⟨#[]⟩)).setCell ⟨w.heap.size, 1, none⟩ (.int .u32 0)).setCell ⟨w.heap.size, 2, none⟩ (.int .u32 0)).setCell ⟨w.heap.size, 3, none⟩ (.string ⟨#[]⟩) = z := ⟨_, rfl⟩
  rw [hW9] at hres HBE
  have HBE : Hid _ := HBE
  obtain ⟨s0, s1, s2, s3⟩ := hres
  clear K27 K28 hbw hb3 hra
  go_wp2
  refine bodyPost_ret (v := .tuple #[.agg #[.string ⟨#[]⟩, .int .u32 0, .int .u32 0, .string ⟨#[]⟩], .bool false]) ?_ rfl ⟨rfl, HBE.out⟩
  rw [results_cell_tmp rfl]; simp [go_sem, s0, s1, s2, s3]
 ·rw [hf] at HF
  rw [hi] at K28
  obtain ⟨hR, hfb⟩ := HF
  simp only [Option.getD_some, Option.isSome_some] at hR hfb
  subst hfb
  have HRk : Hid (∀ w', RowsAt w' (w.heap.size + 1) -> w'.cell? ⟨w.heap.size + 1, k * 4, none⟩ = some (.string R.name) /\ w'.cell? ⟨w.heap.size + 1, k * 4 + 1, none⟩ = some (.int .u32 R.op) /\ w'.cell? ⟨w.heap.size + 1, k * 4 + 2, none⟩ = some (.int .u32 R.same) /\ w'.cell? ⟨w.heap.size + 1, k * 4 + 3, none⟩ = some (.string R.form)) := fun w' h => by rw [hR]; exact h k hk
  have hk83 : (k : Int) < 83 := by rw [HL.out] at hk; omega
  have hk0 : ¬ (k : Int) < 0 := by omega
  obtain ⟨name, op, same, form⟩ := R
  simp only at HRk
  show Calls _ _ _ _ fun e w' => e = .returned (.tuple #[.agg #[.string name, .int .u32 op, .int .u32 same, .string form], .bool true]) /\ Below w.heap.size w w'
  clear hf hi hW2 hsz hz hR hk
  go_enter Tryz.func74, Tryz.ntmps74
  go_wp2_with fail
  refine K27.mono ?_
  rintro e w1 ⟨rfl, rfl⟩
  go_wp2_with fail
  refine K28.mono ?_
  rintro e w3 ⟨rfl, hb3⟩
  obtain ⟨hra, hbw, f0, f1, f2, f3⟩ := HRW.out w3 hb3
  obtain ⟨u0, u1, u2, u3⟩ := HRk.out w3 hra
  have q0 := f0.cell
  have q1 := f1.cell
  have q2 := f2.cell
  have q3 := f3.cell
  have z0 := f0.frozen
  have z1 := f1.frozen
  have z2 := f2.frozen
  have z3 := f3.frozen
  have hres := res4 w3 w.heap.size (.string name) (.int .u32 op) (.int .u32 same) (.string form) f0 f1 f2 f3
  simp only at hres
  have HBE := below4 (n := w.heap.size) hbw (Nat.le_refl _) (.string name) (.int .u32 op) (.int .u32 same) (.string form)
  obtain ⟨W9, hW9⟩ : ∃ z, (((w3.setCell ⟨w.heap.size, 0, none⟩ (.string name)).setCell ⟨w.heap.size, 1, none⟩ (.int .u32 op)).setCell ⟨w.heap.size, 2, none⟩ (.int .u32 same)).setCell ⟨w.heap.size, 3, none⟩ (.string form) = z := ⟨_, rfl⟩
  rw [hW9] at hres HBE
  have HBE : Hid _ := HBE
  obtain ⟨s0, s1, s2, s3⟩ := hres
  clear K27 K28 hbw hb3 hra HRk
  go_wp2
  refine bodyPost_ret (v := .tuple #[.agg #[.string name, .int .u32 op, .int .u32 same, .string form], .bool true]) ?_ rfl ⟨rfl, HBE.out⟩
  rw [results_cell_tmp rfl]; simp [go_sem, s0, s1, s2, s3]
end Go.Proofs.YtimfipkbddpdmaaGreatDoor
