/- What is proved here: a row's shape: the bits that its form's letters have. -/
import Derived.Test.YtglkkeelocdanaaDoorBel
import Derived.Test.YtglkkeelocdanaaDoorMp
import Derived.Test.YtglkkeelocdanaaDoorRw
namespace Go.Proofs.YtglkkeelocdanaaDoor
open Go.RowKit
set_option linter.unusedVariables false
set_option linter.unusedSimpArgs false
set_option maxRecDepth 100000
/-- The bits of a letter. -/
def letOf (k : Nat) : Nat × Nat := (letL.lookup k).getD (0, 0)
def isLet (k : Nat) : Bool := (letL.lookup k).isSome
/-- The bits of letters, all together. -/
def foldF (l : List Nat) : Nat × Nat := l.foldl (fun a k => (a.1 ||| (letOf k).1, a.2 ||| (letOf k).2)) (0, 0)
def formL (f : ByteArray) : List Nat := f.toList.map (·.toNat)
theorem formL_len (f : ByteArray) : (formL f).length = f.size := by
  rw [formL, List.length_map, ByteArray.toList_eq]; rfl
theorem formL_get (f : ByteArray) (i : Nat) (h : i < f.size) : (formL f)[i]? = some (f[i]'h).toNat := by
  unfold formL
  rw [List.getElem?_map, ByteArray.toList_eq]
  have : f.data.toList[i]? = some (f[i]'h) := by
    rw [Array.getElem?_toList, Array.getElem?_eq_getElem (show i < f.data.size from h)]; rfl
  rw [this]; rfl
theorem lookup_mem : ∀ (l : List (Nat × Nat × Nat)) (k : Nat), (l.lookup k).isSome = true → k ∈ l.map (·.1)
  | [], k, h => by simp at h
  | x :: l, k, h => by
    by_cases e : k = x.1
    · simp [e]
    · have : (k == x.1) = false := by simpa using e
      rw [List.lookup_cons, this] at h
      exact List.mem_cons_of_mem _ (lookup_mem l k h)
theorem look_is (k : Nat) (h : isLet k = true) (w : World) (b : Nat) (hm : LetM w b) : (Instr.lookup 77 (.map (some b)) (.int .i32 (k : Int)) false).run Tryd.prog w = .ok (letV (letOf k)) w := by
  have hk := lookup_mem letL k h
  simp only [letL, List.map_cons, List.map_nil, List.mem_cons, List.not_mem_nil, or_false] at hk
  rcases hk with rfl | rfl | rfl | rfl | rfl | rfl | rfl | rfl | rfl | rfl | rfl | rfl
  · exact look w b hm 115 0 _ rfl
  · exact look w b hm 118 1 _ rfl
  · exact look w b hm 116 2 _ rfl
  · exact look w b hm 100 3 _ rfl
  · exact look w b hm 97 4 _ rfl
  · exact look w b hm 114 5 _ rfl
  · exact look w b hm 120 6 _ rfl
  · exact look w b hm 99 7 _ rfl
  · exact look w b hm 106 8 _ rfl
  · exact look w b hm 111 9 _ rfl
  · exact look w b hm 105 10 _ rfl
  · exact look w b hm 109 11 _ rfl
theorem let_lt (k : Nat) (h : isLet k = true) : k < 128 ∧ (letOf k).1 < 4294967296 ∧ (letOf k).2 < 4294967296 := by
  have hk := lookup_mem letL k h
  simp only [letL, List.map_cons, List.map_nil, List.mem_cons, List.not_mem_nil, or_false] at hk
  rcases hk with rfl | rfl | rfl | rfl | rfl | rfl | rfl | rfl | rfl | rfl | rfl | rfl <;> decide
/-- All of a form's letters are known. -/
def Fm (f : ByteArray) : Prop := ∀ k ∈ formL f, isLet k = true
def Rw.shape (r : Rw) : Sh := ⟨r.name, r.op, r.same, r.form, (foldF (formL r.form)).1, (foldF (formL r.form)).2⟩
theorem foldF_lt : ∀ (l : List Nat) (a : Nat × Nat), a.1 < 4294967296 → a.2 < 4294967296 → (∀ k ∈ l, isLet k = true) → (l.foldl (fun a k => (a.1 ||| (letOf k).1, a.2 ||| (letOf k).2)) a).1 < 4294967296 ∧ (l.foldl (fun a k => (a.1 ||| (letOf k).1, a.2 ||| (letOf k).2)) a).2 < 4294967296
  | [], a, h1, h2, _ => ⟨h1, h2⟩
  | k :: l, a, h1, h2, h => by
    obtain ⟨_, g1, g2⟩ := let_lt k (h k (by simp))
    exact foldF_lt l _ (or_lt _ _ h1 g1) (or_lt _ _ h2 g2) (fun k hk => h k (List.mem_cons_of_mem _ hk))
theorem foldF_snoc (l : List Nat) (k : Nat) : foldF (l ++ [k]) = ((foldF l).1 ||| (letOf k).1, (foldF l).2 ||| (letOf k).2) := by
  unfold foldF; rw [List.foldl_append]; rfl
theorem below_iterAt {B : Nat} {w w1 : World} (h : Below B w w1) {k : Nat} (hk : B ≤ k) (s : ByteArray) (p : Nat) : Below B w (w1.iterAt k s p) :=
  ⟨h.os, h.tape, h.output, by simpa [World.iterAt] using h.size, fun i hi => by
    rw [← h.block i hi]
    show (w1.heap.setIfInBounds k _)[i]? = _
    rw [Array.getElem?_setIfInBounds, if_neg (by omega)]⟩
theorem heap_setCell_other (w : World) (p : Addr) (v : Value) (k : Nat) (h : k ≠ p.block) : (w.setCell p v).heap[k]? = w.heap[k]? := by
  unfold World.setCell
  split <;> simp [Array.getElem?_modify, Ne.symm h]
/-- What stands at every round's head. -/
structure ShI (w0 wr : World) (r : Rw) (pos F G : Nat) : Prop where
  it : wr.heap[w0.heap.size + 1 + 1 + 1]? = some (.stringIter r.form pos)
  c0 : wr.cell? ⟨w0.heap.size + 1 + 1, 0, none⟩ = some (.string r.name)
  c1 : wr.cell? ⟨w0.heap.size + 1 + 1, 1, none⟩ = some (.int .u32 (r.op : Int))
  c2 : wr.cell? ⟨w0.heap.size + 1 + 1, 2, none⟩ = some (.int .u32 (r.same : Int))
  c3 : wr.cell? ⟨w0.heap.size + 1 + 1, 3, none⟩ = some (.string r.form)
  c4 : wr.cell? ⟨w0.heap.size + 1 + 1, 4, none⟩ = some (.int .u32 (F : Int))
  c5 : wr.cell? ⟨w0.heap.size + 1 + 1, 5, none⟩ = some (.int .u32 (G : Int))
  f4 : wr.frozen? ⟨w0.heap.size + 1 + 1, 4, none⟩ = false
  f5 : wr.frozen? ⟨w0.heap.size + 1 + 1, 5, none⟩ = false
  res : Free wr ⟨w0.heap.size + 1, 0, none⟩ ∧ Free wr ⟨w0.heap.size + 1, 1, none⟩ ∧ Free wr ⟨w0.heap.size + 1, 2, none⟩ ∧ Free wr ⟨w0.heap.size + 1, 3, none⟩ ∧ Free wr ⟨w0.heap.size + 1, 4, none⟩ ∧ Free wr ⟨w0.heap.size + 1, 5, none⟩
  bel : Below w0.heap.size w0 wr
theorem ShI.next {w0 wr : World} {r : Rw} {pos F G : Nat} (h : ShI w0 wr r pos F G) (pos' : Nat) : ShI w0 (wr.iterAt (w0.heap.size + 1 + 1 + 1) r.form pos') r pos' F G := by
  have hb : Below (w0.heap.size + 1 + 1 + 1) wr (wr.iterAt (w0.heap.size + 1 + 1 + 1) r.form pos') := below_iterAt (Below.refl _ _) (Nat.le_refl _) _ _
  have kc : ∀ {a : Addr} {v : Value}, a.block < w0.heap.size + 1 + 1 + 1 → wr.cell? a = some v → (wr.iterAt (w0.heap.size + 1 + 1 + 1) r.form pos').cell? a = some v := fun ha hc => (hb.cell ha).trans hc
  have kf : ∀ {a : Addr}, a.block < w0.heap.size + 1 + 1 + 1 → Free wr a → Free (wr.iterAt (w0.heap.size + 1 + 1 + 1) r.form pos') a := fun ha hf => ⟨⟨_, kc ha hf.cell⟩, (hb.frozen ha).trans hf.frozen⟩
  refine ⟨Lib.iterAt_heap _ _ _ _ _ h.it, kc (by simp) h.c0, kc (by simp) h.c1, kc (by simp) h.c2, kc (by simp) h.c3, kc (by simp) h.c4, kc (by simp) h.c5, (hb.frozen (by simp)).trans h.f4, (hb.frozen (by simp)).trans h.f5, ⟨kf (by simp) h.res.1, kf (by simp) h.res.2.1, kf (by simp) h.res.2.2.1, kf (by simp) h.res.2.2.2.1, kf (by simp) h.res.2.2.2.2.1, kf (by simp) h.res.2.2.2.2.2⟩, below_iterAt h.bel (by omega) _ _⟩
theorem ShI.set {w0 wr : World} {r : Rw} {pos F G : Nat} (h : ShI w0 wr r pos F G) (F' G' : Nat) : ShI w0 ((wr.setCell ⟨w0.heap.size + 1 + 1, 4, none⟩ (.int .u32 (F' : Int))).setCell ⟨w0.heap.size + 1 + 1, 5, none⟩ (.int .u32 (G' : Int))) r pos F' G' := by
  have o : ∀ {a : Addr} {v x y : Value}, a ≠ ⟨w0.heap.size + 1 + 1, 4, none⟩ → a ≠ ⟨w0.heap.size + 1 + 1, 5, none⟩ → wr.cell? a = some v → ((wr.setCell ⟨w0.heap.size + 1 + 1, 4, none⟩ x).setCell ⟨w0.heap.size + 1 + 1, 5, none⟩ y).cell? a = some v := fun h4 h5 hc => by
    rw [World.cell?_setCell_other _ _ _ _ (Ne.symm h5), World.cell?_setCell_other _ _ _ _ (Ne.symm h4)]; exact hc
  have f4 : Free wr ⟨w0.heap.size + 1 + 1, 4, none⟩ := ⟨⟨_, h.c4⟩, h.f4⟩
  have f5 : Free wr ⟨w0.heap.size + 1 + 1, 5, none⟩ := ⟨⟨_, h.c5⟩, h.f5⟩
  refine ⟨?_, o (by simp) (by simp) h.c0, o (by simp) (by simp) h.c1, o (by simp) (by simp) h.c2, o (by simp) (by simp) h.c3, ?_, ?_, ?_, ?_, ?_, (h.bel.setCell (by simp; omega) _).setCell (by simp; omega) _⟩
  · rw [heap_setCell_other _ _ _ _ (by simp), heap_setCell_other _ _ _ _ (by simp)]; exact h.it
  · rw [World.cell?_setCell_other _ _ _ _ (by simp)]; exact World.cell?_setCell_same _ _ _ f4.cell
  · exact World.cell?_setCell_same _ _ _ (f5.set _ _).cell
  · exact ((f4.set _ _).set _ _).frozen
  · exact ((f5.set _ _).set _ _).frozen
  · exact ⟨(h.res.1.set _ _).set _ _, (h.res.2.1.set _ _).set _ _, (h.res.2.2.1.set _ _).set _ _, (h.res.2.2.2.1.set _ _).set _ _, (h.res.2.2.2.2.1.set _ _).set _ _, (h.res.2.2.2.2.2.set _ _).set _ _⟩
theorem fld0 (x y : Int) (w : World) : (Instr.field 73 (.agg #[.int .u32 x, .int .u32 y]) 0).run Tryd.prog w = .ok (.int .u32 x) w := by kernel_rfl
theorem fld1 (x y : Int) (w : World) : (Instr.field 73 (.agg #[.int .u32 x, .int .u32 y]) 1).run Tryd.prog w = .ok (.int .u32 y) w := by kernel_rfl
set_option maxHeartbeats 1000000 in
theorem shape18 (r : Rw) (b : Nat) (w : World) (hf : Fm r.form) (hm : LetM w b) : Calls Tryd.prog 35 #[.map (some b), r.val] w fun e w' => e = .returned r.shape.val ∧ Below w.heap.size w w' := by
  have HV : Hid (r.shape.val = .agg #[.string r.name, .int .u32 (r.op : Int), .int .u32 (r.same : Int), .string r.form, .int .u32 ((foldF (formL r.form)).1 : Int), .int .u32 ((foldF (formL r.form)).2 : Int)]) := rfl
  obtain ⟨V, hV⟩ : ∃ V, V = r.shape.val := ⟨_, rfl⟩
  rw [← hV] at HV ⊢
  clear hV
  have HM : Hid (∀ w', Below w.heap.size w w' → LetM w' b) := fun w' h => hm.keep h
  obtain ⟨W, hW⟩ : ∃ W, ((((w.alloc (.cells #[.string r.name, .int .u32 (r.op : Int), .int .u32 (r.same : Int), .string r.form] 69)).alloc (.cells #[.string ⟨#[]⟩, .int .u32 0, .int .u32 0, .string ⟨#[]⟩, .int .u32 0, .int .u32 0] 75)).alloc (.cells #[.string r.name, .int .u32 (r.op : Int), .int .u32 (r.same : Int), .string r.form, .int .u32 0, .int .u32 0] 75)).iter r.form 0) = W := ⟨_, rfl⟩
  have HI : Hid (ShI w W r 0 (foldF ((formL r.form).take 0)).1 (foldF ((formL r.form).take 0)).2) := by
    show ShI _ _ _ _ _ _
    have n0 : w.heap.size + 1 = (w.alloc (.cells #[.string r.name, .int .u32 (r.op : Int), .int .u32 (r.same : Int), .string r.form] 69)).heap.size := by simp
    have n1 : w.heap.size + 1 + 1 = ((w.alloc (.cells #[.string r.name, .int .u32 (r.op : Int), .int .u32 (r.same : Int), .string r.form] 69)).alloc (.cells #[.string ⟨#[]⟩, .int .u32 0, .int .u32 0, .string ⟨#[]⟩, .int .u32 0, .int .u32 0] 75)).heap.size := by simp
    rw [← hW]
    unfold World.iter
    refine ⟨?_, ?_, ?_, ?_, ?_, ?_, ?_, ?_, ?_, ⟨⟨⟨.string ⟨#[]⟩, ?_⟩, ?_⟩, ⟨⟨.int .u32 0, ?_⟩, ?_⟩, ⟨⟨.int .u32 0, ?_⟩, ?_⟩, ⟨⟨.string ⟨#[]⟩, ?_⟩, ?_⟩, ⟨⟨.int .u32 0, ?_⟩, ?_⟩, ⟨⟨.int .u32 0, ?_⟩, ?_⟩⟩, ?_⟩
    · have := (MapKept.heap_alloc (((w.alloc (.cells #[.string r.name, .int .u32 (r.op : Int), .int .u32 (r.same : Int), .string r.form] 69)).alloc (.cells #[.string ⟨#[]⟩, .int .u32 0, .int .u32 0, .string ⟨#[]⟩, .int .u32 0, .int .u32 0] 75)).alloc (.cells #[.string r.name, .int .u32 (r.op : Int), .int .u32 (r.same : Int), .string r.form, .int .u32 0, .int .u32 0] 75)) (.stringIter r.form 0)).1
      simpa using this
    · exact cell_old (cell_newA _ _ _ _ _ _ n1 rfl) _
    · exact cell_old (cell_newA _ _ _ _ _ _ n1 rfl) _
    · exact cell_old (cell_newA _ _ _ _ _ _ n1 rfl) _
    · exact cell_old (cell_newA _ _ _ _ _ _ n1 rfl) _
    · exact cell_old (cell_newA _ _ _ _ _ _ n1 rfl) _
    · exact cell_old (cell_newA _ _ _ _ _ _ n1 rfl) _
    · rw [World.frozen?_alloc_old _ _ _ (by simp), World.frozen?_alloc_at _ _ _ _ n1]
    · rw [World.frozen?_alloc_old _ _ _ (by simp), World.frozen?_alloc_at _ _ _ _ n1]
    all_goals first | exact cell_old (cell_old (cell_newA _ _ _ _ _ _ n0 rfl) _) _ | (rw [World.frozen?_alloc_old _ _ _ (by simp), World.frozen?_alloc_old _ _ _ (by simp), World.frozen?_alloc_at _ _ _ _ n0]) | skip
    exact (((((Below.refl _ _).alloc (Nat.le_refl _) _).alloc (by simp) _).alloc (by simp; omega) _).alloc (by simp; omega) _)
  clear hm
  have hlen := formL_len r.form
  have hget := fun i h => formL_get r.form i h
  unfold Rw.val
  obtain ⟨name, op, same, form⟩ := r
  simp only at HV HI hW hf hlen hget ⊢
  have HLEN : Hid ((formL form).length = form.size) := hlen
  have HGET : Hid (∀ (i : Nat) (h : i < form.size), (formL form)[i]? = some (form[i]'h).toNat) := hget
  have HF : Hid (Fm form) := hf
  clear hlen hget hf
  have hfl0 := fld0
  have hfl1 := fld1
  go_enter Tryd.func35, Tryd.ntmps35
  go_wp2
  clear hW
  go_loopw [7] (fun _ wr => ∃ pos, pos ≤ form.size ∧ ShI w wr ⟨name, op, same, form⟩ pos (foldF ((formL form).take pos)).1 (foldF ((formL form).take pos)).2) (fun _ wr => form.size - wr.iterPos (w.heap.size + 1 + 1 + 1))
  case atStart => exact ⟨0, Nat.zero_le _, HI.out⟩
  case round =>
    obtain ⟨pos, hpos, hI⟩ := hrel
    have HIR : Hid _ := hI
    by_cases hp : pos < form.size
    · have hg := HGET.out pos hp
      have hkm : (form[pos]'hp).toNat ∈ formL form := List.mem_of_getElem? hg
      have hkl := HF.out _ hkm
      obtain ⟨k1, k2, k3⟩ := let_lt _ hkl
      have hn := fun ty => Lib.run_next_ascii_at (P := Tryd.prog) wr (w.heap.size + 1 + 1 + 1) form pos ty hI.it hp k1
      have hsn : foldF ((formL form).take (pos + 1)) = ((foldF ((formL form).take pos)).1 ||| (letOf (form[pos]'hp).toNat).1, (foldF ((formL form).take pos)).2 ||| (letOf (form[pos]'hp).toNat).2) := by
        rw [List.take_add_one, hg, Option.toList_some]; exact foldF_snoc _ _
      have hlt := foldF_lt ((formL form).take pos) (0, 0) (by decide) (by decide) (fun k hk => HF.out k (List.mem_of_mem_take hk))
      generalize (form[pos]'hp).toNat = k at hn hsn k1 k2 k3 hkl
      have hI2 := hI.next (pos + 1)
      simp only at hI2
      obtain ⟨WI, hWI⟩ : ∃ WI, wr.iterAt (w.heap.size + 1 + 1 + 1) form (pos + 1) = WI := ⟨_, rfl⟩
      rw [hWI] at hI2 hn
      obtain ⟨F, hF⟩ : ∃ F, F = (foldF ((formL form).take pos)).1 := ⟨_, rfl⟩
      obtain ⟨G, hG⟩ : ∃ F, F = (foldF ((formL form).take pos)).2 := ⟨_, rfl⟩
      rw [← hF, ← hG] at hI2
      have o1 := or_u32 F (letOf k).1 (by rw [hF]; exact hlt.1) k2
      have o2 := or_u32 G (letOf k).2 (by rw [hG]; exact hlt.2) k3
      have l1 := look_is k hkl WI b (HM.out WI hI2.bel)
      have l2 := look_is k hkl (WI.setCell ⟨w.heap.size + 1 + 1, 4, none⟩ (.int .u32 ((F ||| (letOf k).1 : Nat) : Int))) b (HM.out _ (hI2.bel.setCell (by simp; omega) _))
      have hI3 := hI2.set (F ||| (letOf k).1) (G ||| (letOf k).2)
      obtain ⟨W3, hW3⟩ : ∃ W3, (WI.setCell ⟨w.heap.size + 1 + 1, 4, none⟩ (.int .u32 ((F ||| (letOf k).1 : Nat) : Int))).setCell ⟨w.heap.size + 1 + 1, 5, none⟩ (.int .u32 ((G ||| (letOf k).2 : Nat) : Int)) = W3 := ⟨_, rfl⟩
      rw [hW3] at hI3
      have HI3 : Hid (∃ p, p ≤ form.size ∧ ShI w W3 ⟨name, op, same, form⟩ p (foldF ((formL form).take p)).1 (foldF ((formL form).take p)).2) := ⟨pos + 1, hp, by rw [hsn]; simp only; rw [← hF, ← hG]; exact hI3⟩
      have HME : Hid (form.size - W3.iterPos (w.heap.size + 1 + 1 + 1) < form.size - wr.iterPos (w.heap.size + 1 + 1 + 1)) := by
        show _ < _
        rw [iterPos_of hI3.it, iterPos_of hI.it]; omega
      unfold letV at l1 l2
      generalize (letOf k).1 = f1 at *
      generalize (letOf k).2 = g1 at *
      have c4 := hI2.c4
      have c5 := hI2.c5
      have f4 := hI2.f4
      have f5 := hI2.f5
      clear hI2 hI3 hI hWI hlt hsn hg hkm hkl hF hG k2 k3 HIR
      go_wp2
      go_roundw
      case rel => exact HI3.out
      case measure => exact HME.out
    · have he : pos = form.size := by omega
      subst he
      have htk : (formL form).take form.size = formL form := by rw [← HLEN.out]; exact List.take_length
      rw [htk] at hI
      have hn := fun ty => Lib.run_next_end_at (P := Tryd.prog) wr (w.heap.size + 1 + 1 + 1) form form.size ty hI.it hp
      have hres := res6 wr (w.heap.size + 1) (.string name) (.int .u32 (op : Int)) (.int .u32 (same : Int)) (.string form) (.int .u32 ((foldF (formL form)).1 : Int)) (.int .u32 ((foldF (formL form)).2 : Int)) hI.res
      have HBE := below6 (n := w.heap.size + 1) hI.bel (by omega) (.string name) (.int .u32 (op : Int)) (.int .u32 (same : Int)) (.string form) (.int .u32 ((foldF (formL form)).1 : Int)) (.int .u32 ((foldF (formL form)).2 : Int))
      simp only at hres
      obtain ⟨c0, c1, c2, c3, c4, c5⟩ := And.intro hI.c0 (And.intro hI.c1 (And.intro hI.c2 (And.intro hI.c3 (And.intro hI.c4 hI.c5))))
      obtain ⟨f0, f1, f2, f3, f4, f5⟩ := hI.res
      have q0 := f0.cell
      have q1 := f1.cell
      have q2 := f2.cell
      have q3 := f3.cell
      have q4 := f4.cell
      have q5 := f5.cell
      have z0 := f0.frozen
      have z1 := f1.frozen
      have z2 := f2.frozen
      have z3 := f3.frozen
      have z4 := f4.frozen
      have z5 := f5.frozen
      simp only at c0 c1 c2 c3 c4 c5
      generalize (foldF (formL form)).1 = FF at *
      generalize (foldF (formL form)).2 = GG at *
      obtain ⟨W9, hW9⟩ : ∃ z, (((((wr.setCell ⟨w.heap.size + 1, 0, none⟩ (.string name)).setCell ⟨w.heap.size + 1, 1, none⟩ (.int .u32 (op : Int))).setCell ⟨w.heap.size + 1, 2, none⟩ (.int .u32 (same : Int))).setCell ⟨w.heap.size + 1, 3, none⟩ (.string form)).setCell ⟨w.heap.size + 1, 4, none⟩ (.int .u32 (FF : Int))).setCell ⟨w.heap.size + 1, 5, none⟩ (.int .u32 (GG : Int)) = z := ⟨_, rfl⟩
      rw [hW9] at hres HBE
      have HBE : Hid _ := HBE
      obtain ⟨s0, s1, s2, s3, s4, s5⟩ := hres
      clear hI HIR HI htk hp hpos
      go_wp2
      refine bodyPost_ret (v := V) ?_ rfl ⟨rfl, HBE.out⟩
      rw [HV.out, results_cell1 rfl]; simp [go_sem, s0, s1, s2, s3, s4, s5]
end Go.Proofs.YtglkkeelocdanaaDoor
