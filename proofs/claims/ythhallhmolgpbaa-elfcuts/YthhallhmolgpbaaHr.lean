/- What is proved here: a header is taken off a file, or it throws. -/
import Derived.Test.YthhallhmolgpbaaHe
import Derived.OwnWalk
import Derived.RegionTactic
namespace Go.Proofs.Ythhallhmolgpbaa
open Go.RowKit
set_option linter.unusedVariables false
set_option linter.unusedSimpArgs false
set_option maxRecDepth 100000
/-- A row of segments of one's own. -/
def OwnG (B : Nat) (w : World) (v : Value) (gs : List Sg) : Prop := w.ownsRow B 39 7 v gs.length (gs.flatMap Sg.cells)
abbrev Gr (n : Nat) (x y : World) : Prop := x.grownBy y (some n)
theorem cells_len (gs : List Sg) : (gs.flatMap Sg.cells).length = gs.length * 7 := by
  induction gs with
  | nil => rfl
  | cons g t ih => rw [List.flatMap_cons, List.length_append, ih, List.length_cons]; show 7 + _ = _; omega
theorem cells_at (gs : List Sg) : ∀ i (h : i < gs.length) j (hj : j < 7), (gs.flatMap Sg.cells)[i * 7 + j]? = (gs[i].cells)[j]? := by
  induction gs with
  | nil => intro i h; simp at h
  | cons g t ih =>
    intro i h j hj
    rw [List.flatMap_cons]
    match i, h with
    | 0, _ => rw [Nat.zero_mul, Nat.zero_add, List.getElem?_append_left (by show j < 7; exact hj)]; rfl
    | i + 1, h =>
      rw [List.getElem?_append_right (by show 7 ≤ _; omega), show (i + 1) * 7 + j - g.cells.length = i * 7 + j from by show (i + 1) * 7 + j - 7 = _; omega]
      exact ih i (by simpa using h) j hj
theorem OwnG.sl {B : Nat} {w : World} {v : Value} {gs : List Sg} (h : OwnG B w v gs) : SlG w v gs := by
  obtain ⟨h0, h | ⟨g, cap, cur, h1, h2, h3, h4, h5, h6, h7⟩⟩ := h
  · obtain ⟨rfl, h⟩ := h
    have : gs = [] := List.eq_nil_of_length_eq_zero h
    subst this
    exact SlG.nil w
  · refine ⟨some ⟨g, 0, none⟩, cap, h1, h4, by unfold maxLen at h5; omega, (by simp), fun i hi => ⟨g, 0, rfl, ?_⟩⟩
    have key : ∀ j v, j < 7 → (gs[i].cells)[j]? = some v → w.cell? ⟨g, 0 + i * 7 + j, none⟩ = some v := by
      intro j v hj hv
      have e := cells_at gs i hi j hj
      rw [hv, ← h7] at e
      have hlt : i * 7 + j < gs.length * 7 := by omega
      rw [List.getElem?_take_of_lt hlt] at e
      simp only [World.cell?, h3, Nat.zero_add]
      simpa using e
    exact ⟨key 0 _ (by decide) rfl, key 1 _ (by decide) rfl, key 2 _ (by decide) rfl, key 3 _ (by decide) rfl, key 4 _ (by decide) rfl, key 5 _ (by decide) rfl, key 6 _ (by decide) rfl⟩
theorem OwnG.keep {B : Nat} {w w' : World} {v : Value} {gs : List Sg} (h : OwnG B w v gs) (hb : Below w.heap.size w w') : OwnG B w' v gs := own_keep h hb
theorem OwnG.row {B n : Nat} {w w' : World} {v : Value} {gs : List Sg} (h : OwnG B w v gs) (hg : w.grownBy w' (some n)) (hn : n < B) : OwnG B w' v gs := by
  obtain ⟨h0, h | ⟨g, cap, cur, h1, h2, h3, h4⟩⟩ := h
  · exact ⟨h0, Or.inl h⟩
  · refine ⟨h0, Or.inr ⟨g, cap, cur, h1, h2, ?_, h4⟩⟩
    rw [hg.block g (Array.getElem?_eq_some_iff.1 h3).1 (by intro e; injection e with e; omega)]; exact h3
theorem OwnG.base {B B' : Nat} {w : World} {v : Value} {gs : List Sg} (h : OwnG B w v gs) (hb : B' ≤ B) : OwnG B' w v gs := by
  obtain ⟨h0, h | ⟨g, cap, cur, h1, h2, h3, h4⟩⟩ := h
  · exact ⟨h0, Or.inl h⟩
  · exact ⟨h0, Or.inr ⟨g, cap, cur, h1, Nat.le_trans hb h2, h3, h4⟩⟩
theorem OwnG.shape {B : Nat} {w : World} {v : Value} {gs : List Sg} (h : OwnG B w v gs) : ∃ a c, v = .slice a gs.length c := by
  obtain ⟨_, h | ⟨g, cap, cur, h1, _⟩⟩ := h
  · exact ⟨none, 0, by rw [h.1, h.2]⟩
  · exact ⟨_, _, h1⟩
theorem OwnG.ge {B : Nat} {w : World} {v : Value} {gs : List Sg} (h : OwnG B w v gs) : ∀ r, v.ownBlock = some r → B ≤ r := by
  intro r hr
  obtain ⟨_, h | ⟨g, cap, cur, h1, h2, _⟩⟩ := h
  · rw [h.1] at hr; cases hr
  · rw [h1] at hr
    injection hr with hr
    subst hr
    exact h2
/-- What grows besides blocks from N on. -/
theorem gb_outs {a b c : World} {R N : Nat} {row : Option Nat} (h : a.grownBy b (some R)) (g : b.grownBy c row) (hk : ∀ k, row = some k → N ≤ k) (hN : a.heap.size ≤ N) : a.grownBy c (some R) :=
  ⟨g.os.trans h.os, g.tape.trans h.tape, g.output.trans h.output, Nat.le_trans h.size g.size, fun i hi hr => (g.block i (Nat.lt_of_lt_of_le hi h.size) (fun e => by have := hk i e.symm; omega)).trans (h.block i hi hr)⟩
theorem B3.rows {a b c : Value} {n N : Nat} {w w' : World} {row : Option Nat} (h : B3 a b c n w) (hg : w.grownBy w' row) (hr : ∀ k, row = some k → N ≤ k) (hN : n < N) : B3 a b c n w' := h.row hg (fun e => by have := hr n e.symm; omega)
theorem info39 : ∃ i, Try.prog.info? 39 = some i ∧ i.zero = some (.agg #[.int .i64 0, .int .u32 0, .int .u32 0, .int .u32 0, .int .u32 0, .int .i64 0, .int .u32 0]) ∧ i.size = 7 ∧ i.bytes = 40 := info_parts (P := Try.prog) (e := 39) (by kernel_rfl)
theorem cells7 (wy : World) (g : Nat) (G : Sg) (h : wy.heap[g]? = some (.cells #[.int .i64 G.kind, .int .u32 (G.off : Int), .int .u32 (G.at_ : Int), .int .u32 (G.size : Int), .int .u32 (G.room : Int), .int .i64 G.prot, .int .u32 (G.align : Int)] 39 (0, 0))) : ∀ j u, (G.cells)[j]? = some u → wy.cell? ((⟨g, 0, none⟩ : Addr).add j) = some u := by
  intro j u hj
  have : j < 7 := (List.getElem?_eq_some_iff.1 hj).1
  have hc : j = 0 ∨ j = 1 ∨ j = 2 ∨ j = 3 ∨ j = 4 ∨ j = 5 ∨ j = 6 := by omega
  rcases hc with rfl | rfl | rfl | rfl | rfl | rfl | rfl <;> (simp [Sg.cells] at hj; subst hj; simp [Addr.add, World.cell?, h])
theorem take_parts (l : L8) : hf (l.take 52) 16 = hf l 16 ∧ wd (l.take 52) 24 = wd l 24 ∧ hf (l.take 52) 44 = hf l 44 ∧ formOk (l.take 52) = formOk l ∧ ((l.take 52).take 16 == magicL) = (l.take 16 == magicL) := by
  have key : ∀ a b, a + b ≤ 52 → ((l.take 52).drop a).take b = (l.drop a).take b := fun a b h => by
    rw [List.drop_take, List.take_take, Nat.min_eq_left (by omega)]
  have h1 : hf (l.take 52) 16 = hf l 16 := by unfold hf; rw [key _ _ (by decide)]
  have h2 : wd (l.take 52) 24 = wd l 24 := by unfold wd; rw [key _ _ (by decide)]
  have h3 : hf (l.take 52) 44 = hf l 44 := by unfold hf; rw [key _ _ (by decide)]
  refine ⟨h1, h2, h3, ?_, ?_⟩
  · unfold formOk
    rw [h1, h3, key _ _ (by decide), key _ _ (by decide), key _ _ (by decide)]
  · rw [List.take_take]; rfl
/-- The segments' bytes, and a segment's in them. -/
def rsL (l : L8) : L8 := (l.drop 52).take (hf l 44 * 32)
theorem rs_seg (l : L8) (h : 52 + 32 * hf l 44 ≤ l.length) (k : Nat) (hk : k < hf l 44) : segN ((rsL l).drop (32 * k)) = segN (l.drop (52 + 32 * k)) ∧ segOk ((rsL l).drop (32 * k)) = segOk (l.drop (52 + 32 * k)) ∧ 32 ≤ ((rsL l).drop (32 * k)).length := by
  have hlen : (rsL l).length = hf l 44 * 32 := by unfold rsL; simp; omega
  have e : l.drop (52 + 32 * k) = (rsL l).drop (32 * k) ++ l.drop (52 + hf l 44 * 32) := by
    rw [← List.drop_drop, ← List.drop_drop]
    have : l.drop 52 = rsL l ++ (l.drop 52).drop (hf l 44 * 32) := by unfold rsL; rw [List.take_append_drop]
    conv => lhs; rw [this]
    rw [List.drop_append_of_le_length (by omega)]
  have h32 : 32 ≤ ((rsL l).drop (32 * k)).length := by rw [List.length_drop, hlen]; omega
  have := seg_app ((rsL l).drop (32 * k)) (l.drop (52 + hf l 44 * 32)) h32
  rw [e]
  exact ⟨this.1.symm, this.2.symm, h32⟩
theorem segsAt_len (l : L8) (n : Nat) : (segsAt l n).length = n := by unfold segsAt; simp
theorem segsAt_get (l : L8) (n k : Nat) (h : k < n) (h' : k < (segsAt l n).length) : (segsAt l n)[k] = segN (l.drop (52 + 32 * k)) := by
  simp only [segsAt, List.getElem_map, List.getElem_range]
theorem segsAt_bd (l : L8) (n : Nat) : ∀ g ∈ segsAt l n, g.Bd := by
  intro g hg
  unfold segsAt at hg
  obtain ⟨i, _, rfl⟩ := List.mem_map.1 hg
  exact segN_bd _
theorem segsOk_take (l : L8) (n : Nat) : segsOk l n = (List.range n).all (fun i => segOk (l.drop (52 + 32 * i))) := rfl
/-- What the reader's loop holds. -/
structure HdI (w : World) (R n0 N2 N3 B : Nat) (sh : Bool) (en : Nat) (l : L8) (k kr : Nat) (sa : Option Addr) (sc : Nat) (wr : World) : Prop where
  gr : w.grownBy wr (some R)
  z0 : Z3 n0 wr
  e : B3 (.bool sh) (.int .u32 (en : Int)) (.slice sa k sc) N2 wr
  own : OwnG B wr (.slice sa k sc) ((segsAt l (hf l 44)).take k)
  rd : Rd N3 wr ((rsL l).drop (32 * kr))
  sz : B ≤ wr.heap.size
  o1 : w.heap.size ≤ n0
  o2 : n0 < N2
  o3 : N2 < N3
  o4 : N3 < B
theorem HdI.keep {w wr wr' : World} {R n0 N2 N3 B : Nat} {sh : Bool} {en : Nat} {l : L8} {k kr : Nat} {sa : Option Addr} {sc : Nat} (h : HdI w R n0 N2 N3 B sh en l k kr sa sc wr) (hb : Below wr.heap.size wr wr') : HdI w R n0 N2 N3 B sh en l k kr sa sc wr' :=
  ⟨gb_trans h.gr (grown_of hb), h.z0.keep hb, h.e.keep hb, h.own.keep hb, h.rd.kept (grown_of (row := none) hb) (by simp), Nat.le_trans h.sz hb.size, h.o1, h.o2, h.o3, h.o4⟩
theorem HdI.read {w wr wr' : World} {R n0 N2 N3 B : Nat} {sh : Bool} {en : Nat} {l : L8} {k kr kn : Nat} {sa : Option Addr} {sc : Nat} (h : HdI w R n0 N2 N3 B sh en l k kr sa sc wr) (hg : wr.grownBy wr' (some N3)) (hr : Rd N3 wr' ((rsL l).drop (32 * kn))) : HdI w R n0 N2 N3 B sh en l k kn sa sc wr' := by
  have o1 := h.o1; have o2 := h.o2; have o3 := h.o3; have o4 := h.o4
  exact ⟨gb_out h.gr hg (by omega), h.z0.row hg (by intro e; injection e with e; omega), h.e.row hg (by intro e; injection e with e; omega), h.own.row hg o4, hr, Nat.le_trans h.sz hg.size, o1, o2, o3, o4⟩
theorem HdI.next {w wr w2 : World} {R n0 N2 N3 B : Nat} {sh : Bool} {en : Nat} {l : L8} {k kr : Nat} {sa : Option Addr} {sc : Nat} {sv : Value} (h : HdI w R n0 N2 N3 B sh en l k kr sa sc wr) (hk : k < hf l 44) (hg : wr.grownBy w2 (Value.slice sa k sc).ownBlock)
    (ho : OwnG B w2 sv ((segsAt l (hf l 44)).take (k + 1))) : (∃ sa2 sc2, sv = .slice sa2 (k + 1) sc2) ∧ B3 (.bool sh) (.int .u32 (en : Int)) (.slice sa k sc) N2 w2 ∧ ∀ sa2 sc2, sv = .slice sa2 (k + 1) sc2 → HdI w R n0 N2 N3 B sh en l (k + 1) kr sa2 sc2 (w2.setCell ⟨N2, 2, none⟩ sv) := by
  have o1 := h.o1; have o2 := h.o2; have o3 := h.o3; have o4 := h.o4
  have hge := h.own.ge
  have hb3 : B3 (.bool sh) (.int .u32 (en : Int)) (.slice sa k sc) N2 w2 := h.e.rows hg hge (by omega)
  have hlen : ((segsAt l (hf l 44)).take (k + 1)).length = k + 1 := by rw [List.length_take, segsAt_len]; omega
  refine ⟨?_, hb3, ?_⟩
  · obtain ⟨a, c, e⟩ := ho.shape
    rw [hlen] at e
    exact ⟨a, c, e⟩
  · intro sa2 sc2 e
    subst e
    have hgs := grown_setk w2 N2 2 (.slice sa2 (k + 1) sc2)
    have hgr : w.grownBy w2 (some R) := gb_outs h.gr hg hge (by omega)
    refine ⟨gb_out hgr hgs (by omega), (h.z0.rows hg hge (by omega)).row hgs (by intro e; injection e with e; omega), ?_, ho.row hgs (by omega), ?_, ?_, o1, o2, o3, o4⟩
    · have := blk_set hb3 2 (.slice sa2 (k + 1) sc2)
      simpa [B3] using this
    · refine (h.rd.kept hg ?_).kept hgs (by intro e; injection e with e; omega)
      intro e
      have := hge N3 e.symm
      omega
    · have := h.sz
      have := hg.size
      have := hgs.size
      omega
set_option maxHeartbeats 4000000 in
theorem hdr_rest (R : Nat) (l : L8) (hl : l.length ≤ 1000000) (h52 : 52 + 32 * hf l 44 ≤ l.length) (hm : (l.take 16 == magicL) = true) (hfo : formOk l = true) (w : World) (hr : Rd R w l) :
    Calls Try.prog 20 #[.pointer (some ⟨R, 0, none⟩)] w fun e w' => ((segsOk l (hf l 44) = true ∧ fitE (efAt l) = true ∧ ∃ v, e = .returned ((efAt l).val v) ∧ OwnG w.heap.size w' v (efAt l).segs) ∨ (¬ (segsOk l (hf l 44) = true ∧ fitE (efAt l) = true) ∧ e = .panicked (thrown 103))) ∧ w.grownBy w' (some R) := by
  obtain ⟨post, hpost⟩ : ∃ p : Ending → World → Prop, p = fun e w' => ((segsOk l (hf l 44) = true ∧ fitE (efAt l) = true ∧ ∃ v, e = .returned ((efAt l).val v) ∧ OwnG w.heap.size w' v (efAt l).segs) ∨ (¬ (segsOk l (hf l 44) = true ∧ fitE (efAt l) = true) ∧ e = .panicked (thrown 103))) ∧ w.grownBy w' (some R) := ⟨_, rfl⟩
  rw [← hpost]
  have HY : Hid (∀ v w', segsOk l (hf l 44) = true → fitE (efAt l) = true → OwnG w.heap.size w' v (efAt l).segs → w.grownBy w' (some R) → post (.returned ((efAt l).val v)) w') := fun v w' h1 h2 h3 h4 => by rw [hpost]; exact ⟨Or.inl ⟨h1, h2, v, rfl, h3⟩, h4⟩
  have HN : Hid (∀ w', ¬ (segsOk l (hf l 44) = true ∧ fitE (efAt l) = true) → w.grownBy w' (some R) → post (.panicked (thrown 103)) w') := fun w' h1 h2 => by rw [hpost]; exact ⟨Or.inr ⟨h1, rfl⟩, h2⟩
  clear hpost
  obtain ⟨W1, hW1⟩ : ∃ W1, w.alloc (.cells #[.bool false, .int .u32 0, .slice none 0 0] 26) = W1 := ⟨_, rfl⟩
  have hz1 : W1.heap.size = w.heap.size + 1 := by rw [← hW1]; simp
  have hb1 : Below w.heap.size w W1 := by rw [← hW1]; exact (Below.refl _ _).alloc (Nat.le_refl _) _
  have hRlt : R < w.heap.size := World.block_lt_of_cell? _ _ hr.cell
  have zz1 : Z3 w.heap.size W1 := by rw [← hW1]; exact World.alloc_heap_new w _
  have KT := take35_ok R l 52 (by omega) hl W1 (hr.kept (grown_of (row := none) hb1) (by simp))
  have HG1 : Hid (w.grownBy W1 (some R) ∧ Z3 w.heap.size W1 ∧ W1.heap.size = w.heap.size + 1) := ⟨grown_of hb1, zz1, hz1⟩
  have HRL : Hid (R < w.heap.size) := hRlt
  have HH : Hid (52 + 32 * hf l 44 ≤ l.length) := h52
  have HLL : Hid (l.length ≤ 1000000) := hl
  obtain ⟨tp1, tp2, tp3, tp4, tp5⟩ := take_parts l
  have HK36 : Hid (∀ n w', Rd n w' (l.take 52) → Calls Try.prog 36 #[.pointer (some ⟨n, 0, none⟩)] w' fun e w'' => e = .returned (.tuple #[.agg #[.bool (hf l 16 == 3), .int .u32 (wd l 24 : Int), .slice none 0 0], .int .i64 (hf l 44 : Int)]) ∧ w'.grownBy w'' (some n)) := fun n w' h => by
    have := head36_ok n (l.take 52) (by simp; omega) w' h (by rw [tp5]; exact hm) (by rw [tp4]; exact hfo)
    rw [tp1, tp2, tp3] at this
    exact this
  clear tp1 tp2 tp3 tp4 tp5 hb1 zz1 hr hRlt hm
  have hcn : hf l 44 ≤ 16 := (form_parts hfo).2.2.2.1
  have HES : Hid ((efAt l).segs = segsAt l (hf l 44) ∧ (efAt l).shared = (hf l 16 == 3) ∧ (efAt l).entry = wd l 24) := ⟨rfl, rfl, rfl⟩
  obtain ⟨CN, hCN⟩ : ∃ C, C = hf l 44 := ⟨_, rfl⟩
  obtain ⟨SH, hSH⟩ : ∃ S, S = (hf l 16 == 3) := ⟨_, rfl⟩
  obtain ⟨EN, hEN⟩ : ∃ S, S = wd l 24 := ⟨_, rfl⟩
  rw [← hCN] at hcn
  have HCN : Hid (CN = hf l 44) := hCN
  rw [← hCN, ← hSH, ← hEN] at HK36
  rw [← hSH, ← hEN] at HES
  have hmul : (CN : Int) * 32 = ((CN * 32 : Nat) : Int) := by omega
  have hmw : wrap64 ((CN : Int) * 32) = (CN : Int) * 32 := by unfold wrap64; omega
  have KT2 : Hid (∀ w', Rd R w' (l.drop 52) → Calls Try.prog 35 #[.pointer (some ⟨R, 0, none⟩), .int .i64 ((CN : Int) * 32)] w' fun e w'' => e = .returned (.string ⟨(rsL l).toArray⟩) ∧ Rd R w'' ((l.drop 52).drop (CN * 32)) ∧ w'.grownBy w'' (some R)) := fun w' h => by
    have := take35_ok R (l.drop 52) (CN * 32) (by simp; omega) (by simp; omega) w' h
    rw [hmul, show rsL l = (l.drop 52).take (CN * 32) from by rw [hCN]; rfl]
    exact this
  clear hfo h52 hl hCN hSH hEN hmul hz1
  go_enter Try.func20, Try.ntmps20
  go_wp2_with fail
  refine KT.mono ?_
  rintro e w2 ⟨rfl, hr2, hg2⟩
  clear KT hW1
  have HG2 : Hid (w.grownBy w2 (some R) ∧ Z3 w.heap.size w2 ∧ w.heap.size < w2.heap.size ∧ Rd R w2 (l.drop 52)) := ⟨gb_trans HG1.out.1 hg2, HG1.out.2.1.row hg2 (by intro e; injection e with e; have := HRL.out; omega), by have := HG1.out.2.2; have := hg2.size; omega, hr2⟩
  clear hg2 hr2 HG1
  obtain ⟨X, hX⟩ : ∃ X : ByteArray, X = ⟨(l.take 52).toArray⟩ := ⟨_, rfl⟩
  rw [← hX]
  obtain ⟨W3, hW3⟩ : ∃ W3, w2.alloc (.cells #[.string X] 48) = W3 := ⟨_, rfl⟩
  have hb3 : Below w2.heap.size w2 W3 := by rw [← hW3]; exact (Below.refl _ _).alloc (Nat.le_refl _) _
  have hr3 : Rd w2.heap.size W3 (l.take 52) := by rw [← hW3, hX]; exact Boxed.new w2 48 _
  have K36 := HK36.out w2.heap.size W3 hr3
  clear hX
  go_wp2_with fail
  refine K36.mono ?_
  rintro e w4 ⟨rfl, hg4⟩
  clear K36 hW3
  have HG4 : Hid (w.grownBy w4 (some R) ∧ Z3 w.heap.size w4 ∧ w2.heap.size < w4.heap.size ∧ Rd R w4 (l.drop 52) ∧ w.heap.size < w2.heap.size) := by
    have h2 := HG2.out
    have hlt := HRL.out
    refine ⟨gb_out (gb_trans h2.1 (grown_of hb3)) hg4 (by omega), (h2.2.1.keep hb3).row hg4 (by intro e; injection e with e; omega), ?_, ?_, h2.2.2.1⟩
    · have := hr3.cell
      have := World.block_lt_of_cell? _ _ this
      have := hg4.size
      simp only at *
      omega
    · exact (h2.2.2.2.kept (grown_of (row := none) hb3) (by simp)).kept hg4 (by intro e; injection e with e; omega)
  clear hb3 hr3 hg4 HG2
  obtain ⟨V5, hV5⟩ : ∃ W5, w4.alloc (.cells #[.bool false, .int .u32 0, .slice none 0 0] 26) = W5 := ⟨_, rfl⟩
  have ev : Z3 w4.heap.size V5 := by rw [← hV5]; exact World.alloc_heap_new w4 _
  have hbv : Below w4.heap.size w4 V5 := by rw [← hV5]; exact (Below.refl _ _).alloc (Nat.le_refl _) _
  have hzv : V5.heap.size = w4.heap.size + 1 := by rw [← hV5]; simp
  obtain ⟨W5, hW5⟩ : ∃ z, ((V5.setCell ⟨w4.heap.size, 0, none⟩ (.bool SH)).setCell ⟨w4.heap.size, 1, none⟩ (.int .u32 (EN : Int))).setCell ⟨w4.heap.size, 2, none⟩ (.slice none 0 0) = z := ⟨_, rfl⟩
  have e5 := st3_in ev (.bool SH) (.int .u32 (EN : Int)) (.slice none 0 0)
  have g5 := st3_grown V5 w4.heap.size (.bool SH) (.int .u32 (EN : Int)) (.slice none 0 0)
  rw [show st3 V5 w4.heap.size (.bool SH) (.int .u32 (EN : Int)) (.slice none 0 0) = W5 from hW5] at e5 g5
  have hb5 : Below w4.heap.size w4 W5 := by
    rw [← hW5]
    exact ((hbv.setCell (p := ⟨w4.heap.size, 0, none⟩) (Nat.le_refl _) _).setCell (p := ⟨w4.heap.size, 1, none⟩) (Nat.le_refl _) _).setCell (p := ⟨w4.heap.size, 2, none⟩) (Nat.le_refl _) _
  have hz5 : w4.heap.size + 1 ≤ W5.heap.size := by have := g5.size; omega
  obtain ⟨q0, q1, q2⟩ := ev.cells
  have f0 := ev.frozen 0
  have f1 := ev.frozen 1
  have f2 := ev.frozen 2
  have KT3 := KT2.out W5 (HG4.out.2.2.2.1.kept (grown_of (row := none) hb5) (by simp))
  go_wp2_with fail
  refine KT3.mono ?_
  rintro e w6 ⟨rfl, hr6, hg6⟩
  clear KT3 hW5 KT2 q0 q1 q2 f0 f1 f2 hV5 ev hbv hzv g5
  have HG6 : Hid (w.grownBy w6 (some R) ∧ Z3 w.heap.size w6 ∧ B3 (.bool SH) (.int .u32 (EN : Int)) (.slice none 0 0) w4.heap.size w6 ∧ w4.heap.size < w6.heap.size ∧ w.heap.size < w4.heap.size) := by
    have h4 := HG4.out
    have hlt := HRL.out
    refine ⟨gb_trans (gb_trans h4.1 (grown_of hb5)) hg6, (h4.2.1.keep hb5).row hg6 (by intro e; injection e with e; omega), e5.row hg6 (by intro e; injection e with e; omega), ?_, by omega⟩
    have := hg6.size
    omega
  clear hb5 hz5 e5 hr6 hg6 HG4
  obtain ⟨Y, hY⟩ : ∃ Y : ByteArray, Y = ⟨(rsL l).toArray⟩ := ⟨_, rfl⟩
  rw [← hY]
  obtain ⟨W7, hW7⟩ : ∃ W7, w6.alloc (.cells #[.string Y] 48) = W7 := ⟨_, rfl⟩
  have hb7 : Below w6.heap.size w6 W7 := by rw [← hW7]; exact (Below.refl _ _).alloc (Nat.le_refl _) _
  have hz7 : W7.heap.size = w6.heap.size + 1 := by rw [← hW7]; simp
  have hr7 : Rd w6.heap.size W7 (rsL l) := by rw [← hW7, hY]; exact Boxed.new w6 48 _
  have HG7 : Hid (HdI w R w.heap.size w4.heap.size w6.heap.size W7.heap.size SH EN l 0 0 none 0 W7) := by
    have h6 := HG6.out
    refine ⟨gb_trans h6.1 (grown_of hb7), h6.2.1.keep hb7, h6.2.2.1.keep hb7, ⟨by simp, Or.inl ⟨rfl, by simp⟩⟩, by rw [Nat.mul_zero, List.drop_zero]; exact hr7, Nat.le_refl _, Nat.le_refl _, h6.2.2.2.2, by omega, by omega⟩
  clear hb7 hz7 hr7 HG6 hY
  go_wp2
  clear hW7
  generalize w4.heap.size = N2 at HG7 ⊢
  generalize w6.heap.size = N3 at HG7 ⊢
  generalize hB : W7.heap.size = B at HG7
  clear hB
  go_loopw [22] (fun x wr => ∃ (k : Nat) (sa : Option Addr) (sc : Nat), x = .int .i64 (k : Int) ∧ k ≤ CN ∧ segsOk l k = true ∧ HdI w R w.heap.size N2 N3 B SH EN l k k sa sc wr) (fun x _ => CN - (intOf x).toNat)
  case atStart => exact ⟨0, none, 0, rfl, Nat.zero_le _, rfl, HG7.out⟩
  case round =>
    obtain ⟨k, sa, sc, rfl, hk, hok, hI⟩ := hrel
    have HI : Hid (HdI w R w.heap.size N2 N3 B SH EN l k k sa sc wr) := hI
    by_cases hlt : k < CN
    · obtain ⟨es, eo, e32⟩ := rs_seg l HH.out k (by rw [← HCN.out]; exact hlt)
      have hsuc : segsOk l (k + 1) = segOk (l.drop (52 + 32 * k)) := by
        unfold segsOk at hok ⊢
        rw [List.range_succ, List.all_append, hok]
        simp
      have hlt' : (k : Int) < (CN : Int) := by omega
      have hrl : ((rsL l).drop (32 * k)).length ≤ 1000000 := by
        have := HLL.out
        unfold rsL
        simp
        omega
      obtain ⟨G, hG⟩ : ∃ G, G = segN (l.drop (52 + 32 * k)) := ⟨_, rfl⟩
      cases hso : segOk (l.drop (52 + 32 * k)) with
      | true =>
        rw [hso] at hsuc eo
        have HOK : Hid (segsOk l (k + 1) = true) := hsuc
        have K37 : Hid (∀ wx, HdI w R w.heap.size N2 N3 B SH EN l k k sa sc wx → Calls Try.prog 37 #[.pointer (some ⟨N3, 0, none⟩)] wx fun e w'' => e = .returned (.agg #[.int .i64 G.kind, .int .u32 (G.off : Int), .int .u32 (G.at_ : Int), .int .u32 (G.size : Int), .int .u32 (G.room : Int), .int .i64 G.prot, .int .u32 (G.align : Int)]) ∧ HdI w R w.heap.size N2 N3 B SH EN l k (k + 1) sa sc w'') := fun wx h => by
          have := segment37_ok N3 ((rsL l).drop (32 * k)) e32 hrl eo wx h.rd
          rw [es, ← hG, List.drop_drop] at this
          refine this.mono ?_
          rintro e w'' ⟨rfl, h1, h2⟩
          exact ⟨rfl, h.read h2 (by rw [show 32 * (k + 1) = 32 * k + 32 from by omega]; exact h1)⟩
        have HTK : Hid (((segsAt l (hf l 44)).take (k + 1)).length = ((segsAt l (hf l 44)).take k).length + 1 ∧ ((segsAt l (hf l 44)).take (k + 1)).flatMap Sg.cells = ((segsAt l (hf l 44)).take k).flatMap Sg.cells ++ G.cells ∧ k < hf l 44) := by
          have hkk : k < hf l 44 := by rw [← HCN.out]; exact hlt
          have hkl : k < (segsAt l (hf l 44)).length := by rw [segsAt_len]; exact hkk
          refine ⟨?_, ?_, hkk⟩
          · rw [List.length_take, List.length_take, segsAt_len]; omega
          · rw [List.take_succ_eq_append_getElem hkl, List.flatMap_append, segsAt_get l _ k hkk, ← hG]; simp
        obtain ⟨i0, hi1, hi2, hi3, hi4⟩ := info39
        have HI9 : Hid (Try.prog.info? 39 = some i0 ∧ i0.zero = some (.agg #[.int .i64 0, .int .u32 0, .int .u32 0, .int .u32 0, .int .u32 0, .int .i64 0, .int .u32 0]) ∧ i0.size = 7 ∧ i0.bytes = 40) := ⟨hi1, hi2, hi3, hi4⟩
        clear es eo e32 hrl hG hsuc hso hok hI hi1 hi2 hi3 hi4
        have HST : Hid (∀ wx, HdI w R w.heap.size N2 N3 B SH EN l k k sa sc wx → wx.cell? ⟨N2, 2, none⟩ = some (.slice sa k sc)) := fun wx h => h.e.cells.2.2
        have HST1 : Hid (∀ wx, HdI w R w.heap.size N2 N3 B SH EN l k (k + 1) sa sc wx → wx.cell? ⟨N2, 2, none⟩ = some (.slice sa k sc)) := fun wx h => h.e.cells.2.2
        go_wp2
        refine wp_region_any (by kernel_rfl) ?_
        have JA : HdI w R w.heap.size N2 N3 B SH EN l k k sa sc wr.drew := HI.out.keep (Below.refl _ _).drew
        have hdr : ({ wr with drawn := wr.drawn + 1 } : World) = wr.drew := rfl
        rw [hdr]
        clear hdr
        generalize wr.drew = wA at JA
        refine wpAny_take (i := 0) (v := .pointer (some ⟨N2, 2, none⟩)) rfl (by kernel_rfl) (by kernel_rfl) (by kernel_rfl) (fun _ _ _ h => h) (Or.inl ⟨by rfl, ?_⟩) ?_
        · intro w
          go_simp
        simp only [Act.put, List.setIfInBounds_toArray, List.set_cons_zero, List.set_cons_succ]
        refine wpAny_ready (rs := [1, 2]) (by kernel_rfl) (by decide) (AllReady.cons rfl ?_ (AllReady.cons rfl ?_ AllReady.nil))
        · intro K hK
          refine if_yes (by kernel_rfl) ?_
          have c2 := HST.out _ JA
          simp [go_sem, c2]
          refine hK _ _ ?_
          refine wpAny_ready (rs := [2]) (by kernel_rfl) (by decide) (AllReady.cons rfl ?_ AllReady.nil)
          intro K hK
          refine if_yes (by kernel_rfl) ?_
          simp [go_sem]
          refine (K37.out _ JA).mono ?_
          rintro e wB ⟨rfl, JA⟩
          refine hK _ _ ?_
          refine wpAny_ready (rs := [3]) (by kernel_rfl) (by decide) (AllReady.cons rfl ?_ AllReady.nil)
          intro K hK
          refine if_yes (by kernel_rfl) ?_
          simp [go_sem]
          refine hK _ _ ?_
          have hgb : (wB.alloc (.cells #[.int .i64 G.kind, .int .u32 (G.off : Int), .int .u32 (G.at_ : Int), .int .u32 (G.size : Int), .int .u32 (G.room : Int), .int .i64 G.prot, .int .u32 (G.align : Int)] 39)).heap[wB.heap.size]? = some (.cells #[.int .i64 G.kind, .int .u32 (G.off : Int), .int .u32 (G.at_ : Int), .int .u32 (G.size : Int), .int .u32 (G.room : Int), .int .i64 G.prot, .int .u32 (G.align : Int)] 39 (0, 0)) := World.alloc_heap_new wB _
          have JA := JA.keep ((Below.refl _ _).alloc (Nat.le_refl _) (.cells #[.int .i64 G.kind, .int .u32 (G.off : Int), .int .u32 (G.at_ : Int), .int .u32 (G.size : Int), .int .u32 (G.room : Int), .int .i64 G.prot, .int .u32 (G.align : Int)] 39))
          generalize wB.alloc (.cells #[.int .i64 G.kind, .int .u32 (G.off : Int), .int .u32 (G.at_ : Int), .int .u32 (G.size : Int), .int .u32 (G.room : Int), .int .i64 G.prot, .int .u32 (G.align : Int)] 39) = wC at hgb JA ⊢
          generalize wB.heap.size = gb at hgb ⊢
          refine wpAny_ready (rs := [4]) (by kernel_rfl) (by decide) (AllReady.cons rfl ?_ AllReady.nil)
          intro K4 hK4
          refine if_yes (by kernel_rfl) ?_
          have how := JA.own
          have hszC := JA.sz
          refine wp_append_own wC (.tmp 25) (.tmp 27) 24 rfl B 39 i0 _ 7 40 Try.underlying24 HI9.out.1 HI9.out.2.1 HI9.out.2.2.1 HI9.out.2.2.2 rfl (by decide) _ _ _ rfl how ⟨gb, 0, none⟩ 1 1 G.cells rfl rfl (cells7 wC gb G hgb) (by intro u hu; simp [Sg.cells] at hu; rcases hu with rfl | rfl | rfl | rfl | rfl | rfl | rfl <;> rfl) (by rw [List.length_take]; unfold maxLen; omega) (by rw [List.length_take]; omega) hszC ?_
          intro sv w2 how2 hgr2 _
          refine hK4 _ _ ?_
          have hn := JA.next HTK.out.2.2 hgr2 (by show w2.ownsRow _ _ _ _ _ _; rw [HTK.out.1, HTK.out.2.1]; exact how2)
          obtain ⟨⟨sa2, sc2, rfl⟩, hB3, hnx⟩ := hn
          have HNX : Hid (HdI w R w.heap.size N2 N3 B SH EN l (k + 1) (k + 1) sa2 sc2 (w2.setCell ⟨N2, 2, none⟩ (.slice sa2 (k + 1) sc2))) := hnx sa2 sc2 rfl
          have c2 := hB3.cells.2.2
          have z2 := hB3.frozen 2
          clear hnx hB3 how how2 hgr2 hgb hszC JA
          simp only [Act.put, List.setIfInBounds_toArray, List.set_cons_zero, List.set_cons_succ]
          refine wpAny_ready (rs := [5]) (by kernel_rfl) (by decide) (AllReady.cons rfl ?_ AllReady.nil)
          intro K5 hK5
          refine if_yes (by kernel_rfl) ?_
          simp [go_sem]
          refine hK5 _ _ ?_
          refine wpAny_ready (rs := [6]) (by kernel_rfl) (by decide) (AllReady.cons rfl ?_ AllReady.nil)
          intro K6 hK6
          refine if_yes (by kernel_rfl) ?_
          simp [go_sem, c2, z2]
          refine hK6 _ _ ?_
          refine wpAny_done (by kernel_rfl) ?_ _
          clear c2 z2
          go_wp2
          go_roundw
          case rel => exact ⟨k + 1, sa2, sc2, by go_num, by omega, HOK.out, HNX.out⟩
          case measure => simp [intOf]; omega
        · intro K hK
          refine if_yes (by kernel_rfl) ?_
          simp [go_sem]
          refine (K37.out _ JA).mono ?_
          rintro e wB ⟨rfl, JA⟩
          refine hK _ _ ?_
          refine wpAny_ready (rs := [1, 3]) (by kernel_rfl) (by decide) (AllReady.cons rfl ?_ (AllReady.cons rfl ?_ AllReady.nil))
          · intro K hK
            refine if_yes (by kernel_rfl) ?_
            have c2 := HST1.out _ JA
            simp [go_sem, c2]
            refine hK _ _ ?_
            refine wpAny_ready (rs := [3]) (by kernel_rfl) (by decide) (AllReady.cons rfl ?_ AllReady.nil)
            intro K hK
            refine if_yes (by kernel_rfl) ?_
            simp [go_sem]
            refine hK _ _ ?_
            have hgb : (wB.alloc (.cells #[.int .i64 G.kind, .int .u32 (G.off : Int), .int .u32 (G.at_ : Int), .int .u32 (G.size : Int), .int .u32 (G.room : Int), .int .i64 G.prot, .int .u32 (G.align : Int)] 39)).heap[wB.heap.size]? = some (.cells #[.int .i64 G.kind, .int .u32 (G.off : Int), .int .u32 (G.at_ : Int), .int .u32 (G.size : Int), .int .u32 (G.room : Int), .int .i64 G.prot, .int .u32 (G.align : Int)] 39 (0, 0)) := World.alloc_heap_new wB _
            have JA := JA.keep ((Below.refl _ _).alloc (Nat.le_refl _) (.cells #[.int .i64 G.kind, .int .u32 (G.off : Int), .int .u32 (G.at_ : Int), .int .u32 (G.size : Int), .int .u32 (G.room : Int), .int .i64 G.prot, .int .u32 (G.align : Int)] 39))
            generalize wB.alloc (.cells #[.int .i64 G.kind, .int .u32 (G.off : Int), .int .u32 (G.at_ : Int), .int .u32 (G.size : Int), .int .u32 (G.room : Int), .int .i64 G.prot, .int .u32 (G.align : Int)] 39) = wC at hgb JA ⊢
            generalize wB.heap.size = gb at hgb ⊢
            refine wpAny_ready (rs := [4]) (by kernel_rfl) (by decide) (AllReady.cons rfl ?_ AllReady.nil)
            intro K4 hK4
            refine if_yes (by kernel_rfl) ?_
            have how := JA.own
            have hszC := JA.sz
            refine wp_append_own wC (.tmp 25) (.tmp 27) 24 rfl B 39 i0 _ 7 40 Try.underlying24 HI9.out.1 HI9.out.2.1 HI9.out.2.2.1 HI9.out.2.2.2 rfl (by decide) _ _ _ rfl how ⟨gb, 0, none⟩ 1 1 G.cells rfl rfl (cells7 wC gb G hgb) (by intro u hu; simp [Sg.cells] at hu; rcases hu with rfl | rfl | rfl | rfl | rfl | rfl | rfl <;> rfl) (by rw [List.length_take]; unfold maxLen; omega) (by rw [List.length_take]; omega) hszC ?_
            intro sv w2 how2 hgr2 _
            refine hK4 _ _ ?_
            have hn := JA.next HTK.out.2.2 hgr2 (by show w2.ownsRow _ _ _ _ _ _; rw [HTK.out.1, HTK.out.2.1]; exact how2)
            obtain ⟨⟨sa2, sc2, rfl⟩, hB3, hnx⟩ := hn
            have HNX : Hid (HdI w R w.heap.size N2 N3 B SH EN l (k + 1) (k + 1) sa2 sc2 (w2.setCell ⟨N2, 2, none⟩ (.slice sa2 (k + 1) sc2))) := hnx sa2 sc2 rfl
            have c2 := hB3.cells.2.2
            have z2 := hB3.frozen 2
            clear hnx hB3 how how2 hgr2 hgb hszC JA
            simp only [Act.put, List.setIfInBounds_toArray, List.set_cons_zero, List.set_cons_succ]
            refine wpAny_ready (rs := [5]) (by kernel_rfl) (by decide) (AllReady.cons rfl ?_ AllReady.nil)
            intro K5 hK5
            refine if_yes (by kernel_rfl) ?_
            simp [go_sem]
            refine hK5 _ _ ?_
            refine wpAny_ready (rs := [6]) (by kernel_rfl) (by decide) (AllReady.cons rfl ?_ AllReady.nil)
            intro K6 hK6
            refine if_yes (by kernel_rfl) ?_
            simp [go_sem, c2, z2]
            refine hK6 _ _ ?_
            refine wpAny_done (by kernel_rfl) ?_ _
            clear c2 z2
            go_wp2
            go_roundw
            case rel => exact ⟨k + 1, sa2, sc2, by go_num, by omega, HOK.out, HNX.out⟩
            case measure => simp [intOf]; omega
          · intro K hK
            refine if_yes (by kernel_rfl) ?_
            simp [go_sem]
            refine hK _ _ ?_
            have hgb : (wB.alloc (.cells #[.int .i64 G.kind, .int .u32 (G.off : Int), .int .u32 (G.at_ : Int), .int .u32 (G.size : Int), .int .u32 (G.room : Int), .int .i64 G.prot, .int .u32 (G.align : Int)] 39)).heap[wB.heap.size]? = some (.cells #[.int .i64 G.kind, .int .u32 (G.off : Int), .int .u32 (G.at_ : Int), .int .u32 (G.size : Int), .int .u32 (G.room : Int), .int .i64 G.prot, .int .u32 (G.align : Int)] 39 (0, 0)) := World.alloc_heap_new wB _
            have JA := JA.keep ((Below.refl _ _).alloc (Nat.le_refl _) (.cells #[.int .i64 G.kind, .int .u32 (G.off : Int), .int .u32 (G.at_ : Int), .int .u32 (G.size : Int), .int .u32 (G.room : Int), .int .i64 G.prot, .int .u32 (G.align : Int)] 39))
            generalize wB.alloc (.cells #[.int .i64 G.kind, .int .u32 (G.off : Int), .int .u32 (G.at_ : Int), .int .u32 (G.size : Int), .int .u32 (G.room : Int), .int .i64 G.prot, .int .u32 (G.align : Int)] 39) = wC at hgb JA ⊢
            generalize wB.heap.size = gb at hgb ⊢
            refine wpAny_ready (rs := [1]) (by kernel_rfl) (by decide) (AllReady.cons rfl ?_ AllReady.nil)
            intro K hK
            refine if_yes (by kernel_rfl) ?_
            have c2 := HST1.out _ JA
            simp [go_sem, c2]
            refine hK _ _ ?_
            refine wpAny_ready (rs := [4]) (by kernel_rfl) (by decide) (AllReady.cons rfl ?_ AllReady.nil)
            intro K4 hK4
            refine if_yes (by kernel_rfl) ?_
            have how := JA.own
            have hszC := JA.sz
            refine wp_append_own wC (.tmp 25) (.tmp 27) 24 rfl B 39 i0 _ 7 40 Try.underlying24 HI9.out.1 HI9.out.2.1 HI9.out.2.2.1 HI9.out.2.2.2 rfl (by decide) _ _ _ rfl how ⟨gb, 0, none⟩ 1 1 G.cells rfl rfl (cells7 wC gb G hgb) (by intro u hu; simp [Sg.cells] at hu; rcases hu with rfl | rfl | rfl | rfl | rfl | rfl | rfl <;> rfl) (by rw [List.length_take]; unfold maxLen; omega) (by rw [List.length_take]; omega) hszC ?_
            intro sv w2 how2 hgr2 _
            refine hK4 _ _ ?_
            have hn := JA.next HTK.out.2.2 hgr2 (by show w2.ownsRow _ _ _ _ _ _; rw [HTK.out.1, HTK.out.2.1]; exact how2)
            obtain ⟨⟨sa2, sc2, rfl⟩, hB3, hnx⟩ := hn
            have HNX : Hid (HdI w R w.heap.size N2 N3 B SH EN l (k + 1) (k + 1) sa2 sc2 (w2.setCell ⟨N2, 2, none⟩ (.slice sa2 (k + 1) sc2))) := hnx sa2 sc2 rfl
            have c2 := hB3.cells.2.2
            have z2 := hB3.frozen 2
            clear hnx hB3 how how2 hgr2 hgb hszC JA
            simp only [Act.put, List.setIfInBounds_toArray, List.set_cons_zero, List.set_cons_succ]
            refine wpAny_ready (rs := [5]) (by kernel_rfl) (by decide) (AllReady.cons rfl ?_ AllReady.nil)
            intro K5 hK5
            refine if_yes (by kernel_rfl) ?_
            simp [go_sem]
            refine hK5 _ _ ?_
            refine wpAny_ready (rs := [6]) (by kernel_rfl) (by decide) (AllReady.cons rfl ?_ AllReady.nil)
            intro K6 hK6
            refine if_yes (by kernel_rfl) ?_
            simp [go_sem, c2, z2]
            refine hK6 _ _ ?_
            refine wpAny_done (by kernel_rfl) ?_ _
            clear c2 z2
            go_wp2
            go_roundw
            case rel => exact ⟨k + 1, sa2, sc2, by go_num, by omega, HOK.out, HNX.out⟩
            case measure => simp [intOf]; omega
      | false =>
        rw [hso] at hsuc eo
        have HNO : Hid (¬ (segsOk l (hf l 44) = true ∧ fitE (efAt l) = true)) := by
          rintro ⟨h, _⟩
          unfold segsOk at h
          rw [List.all_eq_true] at h
          have := h k (List.mem_range.2 (by rw [← HCN.out]; exact hlt))
          rw [hso] at this
          cases this
        have K37 : Hid (∀ wx, HdI w R w.heap.size N2 N3 B SH EN l k k sa sc wx → Calls Try.prog 37 #[.pointer (some ⟨N3, 0, none⟩)] wx fun e w'' => e = .panicked (thrown 103) ∧ w.grownBy w'' (some R)) := fun wx h => by
          refine (segment37_no N3 ((rsL l).drop (32 * k)) e32 hrl eo wx h.rd).mono ?_
          rintro e w'' ⟨rfl, h1⟩
          exact ⟨rfl, gb_out h.gr h1 (by have := h.o1; have := h.o2; have := h.o3; omega)⟩
        clear es eo e32 hrl hG hsuc hso hok hI
        have HST : Hid (∀ wx, HdI w R w.heap.size N2 N3 B SH EN l k k sa sc wx → wx.cell? ⟨N2, 2, none⟩ = some (.slice sa k sc)) := fun wx h => h.e.cells.2.2
        go_wp2
        refine wp_region_any (by kernel_rfl) ?_
        have JA : HdI w R w.heap.size N2 N3 B SH EN l k k sa sc wr.drew := HI.out.keep (Below.refl _ _).drew
        have hdr : ({ wr with drawn := wr.drawn + 1 } : World) = wr.drew := rfl
        rw [hdr]
        clear hdr
        generalize wr.drew = wA at JA
        refine wpAny_take (i := 0) (v := .pointer (some ⟨N2, 2, none⟩)) rfl (by kernel_rfl) (by kernel_rfl) (by kernel_rfl) (fun _ _ _ h => h) (Or.inl ⟨by rfl, ?_⟩) ?_
        · intro w
          go_simp
        simp only [Act.put, List.setIfInBounds_toArray, List.set_cons_zero, List.set_cons_succ]
        refine wpAny_ready (rs := [1, 2]) (by kernel_rfl) (by decide) (AllReady.cons rfl ?_ (AllReady.cons rfl ?_ AllReady.nil))
        · intro K hK
          refine if_yes (by kernel_rfl) ?_
          have c2 := HST.out _ JA
          simp [go_sem, c2]
          refine hK _ _ ?_
          refine wpAny_ready (rs := [2]) (by kernel_rfl) (by decide) (AllReady.cons rfl ?_ AllReady.nil)
          intro K hK
          refine if_yes (by kernel_rfl) ?_
          simp [go_sem]
          refine (K37.out _ JA).mono ?_
          rintro e wB ⟨rfl, hgB⟩
          exact ⟨rfl, HN.out _ HNO.out hgB⟩
        · intro K hK
          refine if_yes (by kernel_rfl) ?_
          simp [go_sem]
          refine (K37.out _ JA).mono ?_
          rintro e wB ⟨rfl, hgB⟩
          exact ⟨rfl, HN.out _ HNO.out hgB⟩
    · have hke : k = CN := by omega
      subst hke
      have HOK : Hid (segsOk l (hf l 44) = true) := by rw [← HCN.out]; exact hok
      have hown : OwnG B wr (.slice sa k sc) (efAt l).segs := by
        have := hI.own
        rw [List.take_of_length_le (by rw [segsAt_len, ← HCN.out]; exact Nat.le_refl _)] at this
        exact this
      have KF := fit13 (efAt l) (.slice sa k sc) wr hown.sl (segsAt_bd l _) (by
        rw [HES.out.1, segsAt_len, ← HCN.out]; omega)
      unfold Ef.val at KF
      rw [HES.out.2.1, HES.out.2.2] at KF
      have HOW : Hid (OwnG B wr (.slice sa k sc) (efAt l).segs) := hown
      obtain ⟨q0, q1, q2⟩ := hI.e.cells
      clear hok hown hI
      cases hfe : fitE (efAt l) with
      | true =>
        rw [hfe] at KF
        go_wp2_with fail
        refine KF.mono ?_
        rintro e w1 ⟨rfl, hb1⟩
        clear KF
        have HJ1 : Hid (HdI w R w.heap.size N2 N3 B SH EN l k k sa sc w1 ∧ OwnG B w1 (.slice sa k sc) (efAt l).segs) := ⟨HI.out.keep hb1, HOW.out.keep hb1⟩
        obtain ⟨p0, p1, p2⟩ := HJ1.out.1.e.cells
        clear q0 q1 q2 hb1
        go_wp2_with fail
        refine (must38_ok w1).mono ?_
        rintro e w2 ⟨rfl, rfl⟩
        have J1 := HJ1.out.1
        have how1 := HJ1.out.2
        obtain ⟨z0, z1, z2⟩ := J1.z0.cells
        have f0 := J1.z0.frozen 0
        have f1 := J1.z0.frozen 1
        have f2 := J1.z0.frozen 2
        obtain ⟨W8, hW8⟩ : ∃ z, ((w2.setCell ⟨w.heap.size, 0, none⟩ (.bool SH)).setCell ⟨w.heap.size, 1, none⟩ (.int .u32 (EN : Int))).setCell ⟨w.heap.size, 2, none⟩ (.slice sa k sc) = z := ⟨_, rfl⟩
        have i8 := st3_in J1.z0 (.bool SH) (.int .u32 (EN : Int)) (.slice sa k sc)
        have g8 := st3_grown w2 w.heap.size (.bool SH) (.int .u32 (EN : Int)) (.slice sa k sc)
        rw [show st3 w2 w.heap.size (.bool SH) (.int .u32 (EN : Int)) (.slice sa k sc) = W8 from hW8] at i8 g8
        have HE : Hid (post (.returned ((efAt l).val (.slice sa k sc))) W8) := by
          have o1 := J1.o1; have o2 := J1.o2; have o3 := J1.o3; have o4 := J1.o4
          exact HY.out _ _ HOK.out hfe ((how1.row g8 (by omega)).base (by omega)) (gb_out J1.gr g8 (Nat.le_refl _))
        obtain ⟨s0, s1, s2⟩ := i8.cells
        clear g8 i8 how1 J1
        go_wp2
        refine bodyPost_ret (v := (efAt l).val (.slice sa k sc)) ?_ rfl HE.out
        rw [results_cell1 rfl]; simp [go_sem, Ef.val, HES.out.2.1, HES.out.2.2, s0, s1, s2]
      | false =>
        rw [hfe] at KF
        have HNO : Hid (¬ (segsOk l (hf l 44) = true ∧ fitE (efAt l) = true)) := by
          rintro ⟨_, h⟩
          rw [hfe] at h
          cases h
        go_wp2_with fail
        refine KF.mono ?_
        rintro e w1 ⟨rfl, hb1⟩
        clear KF
        have HJ1 : Hid (HdI w R w.heap.size N2 N3 B SH EN l k k sa sc w1) := HI.out.keep hb1
        clear hb1 q0 q1 q2
        go_wp2_with fail
        refine (must38_no w1).mono ?_
        rintro e w2 ⟨rfl, rfl⟩
        exact ⟨rfl, HN.out _ HNO.out HJ1.out.gr⟩
end Go.Proofs.Ythhallhmolgpbaa
