/- What is proved here: the layout of a library. -/
import Derived.Test.YtgdflobcbhnimaaGreatPko
import Derived.Great.Walk
import Derived.Great.Ranges
import Derived.Laws.Tables
import Derived.Deep.CutRange
import Derived.BigQuiet
namespace Go.Proofs.YtgdflobcbhnimaaGreat
open Go.RowKit 
set_option linter.unusedVariables false
set_option linter.unusedSimpArgs false
set_option maxRecDepth 100000
theorem up54 (v : Nat) (hv : v ≤ 1000000) (w : World) : Calls Tryz.prog 54 #[.int .u32 (v : Int), .int .u32 8] w fun e w' => e = .returned (.tuple #[.int .u32 (up8 v : Int), .bool true]) ∧ w' = w := by
  obtain ⟨R, hR⟩ : ∃ R, R = v % 8 := ⟨_, rfl⟩
  obtain ⟨U, hU⟩ : ∃ U, U = up8 v := ⟨_, rfl⟩
  have hU2 : U = (v + 7) / 8 * 8 := hU
  have e1 : (v : Int) % 8 = (R : Int) := by omega
  have e1t : (v : Int).tmod 8 = (R : Int) := by rw [Int.tmod_eq_emod_of_nonneg (by omega)]; exact e1
  rw [← hU]
  by_cases h : R = 0
  · obtain rfl : U = v := by omega
    have z : (R : Int) = 0 := by omega
    have zb : ((R : Int) == 0) = true := by simp; omega
    clear hU hU2 hR e1
    subst h
    go_enter Tryz.func54, Tryz.ntmps54
    go_wp2
    go_ret2
    exact ⟨rfl, rfl⟩
  · have z : ¬ (R : Int) = 0 := by omega
    have zb : ((R : Int) == 0) = false := by simp; omega
    obtain ⟨S, hS⟩ : ∃ S, S = 8 - R := ⟨_, rfl⟩
    have e2 : (8 : Int) - (R : Int) = (S : Int) := by omega
    have e3 : (S : Int) % 4294967296 = (S : Int) := by omega
    have e3' : IntKind.u32.wrap (S : Int) = (S : Int) := by rw [IntKind.wrap_u32]; exact e3
    have e4 : (v : Int) + (S : Int) = (U : Int) := by omega
    have e5 : (U : Int) % 4294967296 = (U : Int) := by omega
    have e5' : IntKind.u32.wrap (U : Int) = (U : Int) := by rw [IntKind.wrap_u32]; exact e5
    have e6 : ¬ (U : Int) < (v : Int) := by omega
    have e6d := decide_eq_false e6
    clear hU hU2 hR hS e1 h
    go_enter Tryz.func54, Tryz.ntmps54
    go_wp2
    go_ret2
    exact ⟨rfl, rfl⟩
theorem built54 (x0 x1 x2 x3 x4 x5 x6 x7 x8 x9 x10 x11 x12 x13 : Value) : Tryz.prog.built 54 [(0, .agg #[x0, x1, x2, x3, x4, x5, x6, x7, x8, x9, x10, x11, x12, x13])] = some #[x0, x1, x2, x3, x4, x5, x6, x7, x8, x9, x10, x11, x12, x13, .int .u32 0, .int .u32 0, .int .u32 0, .int .u32 0, .int .u32 0, .int .u32 0, .int .u32 0, .int .u32 0, .int .u32 0, .int .u32 0, .int .u32 0, .int .u32 0, .int .u32 0, .int .u32 0, .int .u32 0, .int .u32 0, .int .u32 0, .int .u32 0, .int .u32 0, .int .u32 0] := by kernel_rfl
theorem ten_set (f : Nat → Nat) (p v : Nat) (h : p < 10) : (ten f).set p (.int .u32 (v : Int)) = ten (fun i => if i = p then v else f i) := by
  rcases (by omega : p = 0 ∨ p = 1 ∨ p = 2 ∨ p = 3 ∨ p = 4 ∨ p = 5 ∨ p = 6 ∨ p = 7 ∨ p = 8 ∨ p = 9) with rfl | rfl | rfl | rfl | rfl | rfl | rfl | rfl | rfl | rfl <;> rfl
theorem BY.setAt {y : Ly} {q : Lv} {b : Nat} {w : World} (h : BY y q b w) (p v : Nat) (hp : p < 10) : BY ⟨y.lib, fun i => if i = p then v else y.at_ i, y.size⟩ q b (w.setCell ⟨b, 14 + p, none⟩ (.int .u32 (v : Int))) := by
  have := blk_set h (14 + p) (.int .u32 (v : Int))
  rw [List.setIfInBounds_toArray] at this
  show _ = _
  rw [this]
  congr 3
  unfold Ly.cells
  rw [List.set_append_right _ _ (by show 14 ≤ _; omega), show 14 + p - (y.lib.cells q).length = p from by show 14 + p - 14 = p; omega, List.set_append_left _ _ (by show p < 10; exact hp), ten_set _ _ _ hp]
theorem BY.setSize {y : Ly} {q : Lv} {b : Nat} {w : World} (h : BY y q b w) (p v : Nat) (hp : p < 10) : BY ⟨y.lib, y.at_, fun i => if i = p then v else y.size i⟩ q b (w.setCell ⟨b, 24 + p, none⟩ (.int .u32 (v : Int))) := by
  have := blk_set h (24 + p) (.int .u32 (v : Int))
  rw [List.setIfInBounds_toArray] at this
  show _ = _
  rw [this]
  congr 3
  unfold Ly.cells
  rw [List.set_append_right _ _ (by show 14 ≤ _; omega), show 24 + p - (y.lib.cells q).length = 10 + p from by show 24 + p - 14 = 10 + p; omega, List.set_append_right _ _ (by show 10 ≤ _; omega), show 10 + p - (ten y.at_).length = p from by show 10 + p - 10 = p; omega, ten_set _ _ _ hp]
/-- The layout behind k rounds. -/
def Lb.layk (l : Lb) (k : Nat) : Ly := ⟨l, fun p => if p < k then atN l.sz p else 0, fun p => if p < k then l.sz p else 0⟩
def endN (sz : Nat → Nat) : Nat → Nat
  | 0 => 0
  | k + 1 => atN sz k + sz k
theorem atN_end (sz : Nat → Nat) : ∀ k, atN sz k = up8 (endN sz k)
  | 0 => by simp [atN, endN, up8]
  | _ + 1 => rfl
theorem layk_next (l : Lb) (k : Nat) : (⟨l, fun i => if i = k then atN l.sz k else (l.layk k).at_ i, fun i => if i = k then l.sz k else (l.layk k).size i⟩ : Ly) = l.layk (k + 1) := by
  unfold Lb.layk
  rw [Ly.mk.injEq]
  refine ⟨rfl, ?_, ?_⟩ <;> funext i <;> simp only
  · by_cases h : i = k
    · subst h; rw [if_pos rfl, if_pos (by omega)]
    · rw [if_neg h]
      by_cases h2 : i < k
      · rw [if_pos h2, if_pos (by omega)]
      · rw [if_neg h2, if_neg (by omega)]
  · by_cases h : i = k
    · subst h; rw [if_pos rfl, if_pos (by omega)]
    · rw [if_neg h]
      by_cases h2 : i < k
      · rw [if_pos h2, if_pos (by omega)]
      · rw [if_neg h2, if_neg (by omega)]
theorem layk_zero (l : Lb) : l.layk 0 = l.zero := by
  unfold Lb.layk Lb.zero
  rw [Ly.mk.injEq]
  exact ⟨rfl, by funext i; simp, by funext i; simp⟩
theorem lay_is (l : Lb) : l.layk 10 = l.lay := rfl
theorem zero_ok {l : Lb} (h : FitP l) : l.zero.Ok := ⟨h, fun _ => Nat.zero_le _, fun _ => Nat.zero_le _, Nat.zero_le _, Nat.zero_le _⟩
/-- A part is not too long. -/
theorem sz_le {l : Lb} (h : FitP l) (p : Nat) : l.sz p ≤ 4096 := by
  have ok := zero_ok h
  unfold Lb.sz
  rw [part_len ok p]
  show l.len p ≤ 4096
  have g1 := h.g1
  match p with
  | 0 => show 52 + 32 * (if l.interp = [] then 3 else 4) ≤ 4096; split <;> omega
  | 1 => show (if l.interp = [] then 0 else l.interp.length + 1) ≤ 4096; have := h.ip.1; split <;> omega
  | 2 => show 4 * (2 * l.needed.length + (if l.soname = [] then 0 else 2) + 16 + (if l.init = 0 then 0 else 2) + 10) ≤ 4096; have := h.n0; split <;> split <;> omega
  | 3 => show 4 * (l.syms.length + 6) ≤ 4096; have := h.y0; omega
  | 4 => show 16 * (l.syms.length + 1) ≤ 4096; have := h.y0; omega
  | 5 =>
    show (strsN (strsL l.syms) l.names).length ≤ 4096
    have h1 := strsN_le (strsL l.syms) l.names (names_le l.zero ok).2
    have h2 := (names_le l.zero ok).1
    have h3 := ok.strs.2
    have h4 : l.zero.lib = l := rfl
    rw [h4] at h2 h3
    omega
  | 6 => show 8 * l.rels.length ≤ 4096; have := h.r0; omega
  | 7 => exact h.c0
  | 8 => show 4 * (2 + l.locals.length + l.global.toNat) ≤ 4096; have := h.lo; have := h.y0; omega
  | 9 => exact h.da
  | _ + 10 => exact Nat.zero_le _
theorem at_le {l : Lb} (h : FitP l) : ∀ p, atN l.sz p ≤ 4104 * p
  | 0 => Nat.le_refl _
  | p + 1 => by
    have h1 := at_le h p
    have h2 := sz_le h p
    show up8 _ ≤ _
    unfold up8
    omega
theorem at_mono (sz : Nat → Nat) (p : Nat) : atN sz p + sz p ≤ atN sz (p + 1) := by show _ ≤ up8 _; unfold up8; omega
theorem lay_ok {l : Lb} (h : FitP l) : l.lay.Ok := by
  refine ⟨h, fun p => ?_, fun p => ?_, ?_, ?_⟩
  · show (if p < 10 then atN l.sz p else 0) ≤ 65536
    split
    · have := at_le h p; omega
    · omega
  · show (if p < 10 then l.sz p else 0) ≤ 65536
    split
    · have := sz_le h p; omega
    · omega
  · exact Nat.zero_le _
  · show atN l.sz 8 ≤ atN l.sz 9 + l.sz 9
    have : atN l.sz 8 + l.sz 8 ≤ atN l.sz 9 := at_mono l.sz 8
    omega
theorem cells_one {l : Lb} {q : Lv} {w : World} (h : LvIs l q w) (y : Ly) (hy : y.lib = l) : (y.cells q).toArray.all (·.oneCell') = true := by
  obtain ⟨vn, vs, vr, vl⟩ := q
  obtain ⟨⟨a1, b1, h1, _⟩, ⟨a2, b2, h2, _⟩, ⟨a3, b3, h3, _⟩, ⟨a4, b4, h4, _⟩⟩ := h
  simp only at h1 h2 h3 h4
  subst h1 h2 h3 h4
  unfold Ly.cells Lb.cells ten
  simp [Value.oneCell']
set_option maxHeartbeats 8000000 in
theorem lay23 (l : Lb) (q : Lv) (w : World) (hf : FitP l) (hv : LvIs l q w) (hbd : l.Bd) :
    Calls Tryz.prog 23 #[l.val q] w fun e w' => e = .returned (.agg (l.lay.cells q).toArray) ∧ Below w.heap.size w w' := by
  obtain ⟨W1, hW1⟩ : ∃ z, w.alloc (.cells (l.cells q).toArray 28) = z := ⟨_, rfl⟩
  obtain ⟨W2, hW2⟩ : ∃ z, W1.alloc (.cells #[.bool false, .int .u32 0, .int .u32 0, .string ⟨#[]⟩, .string ⟨#[]⟩, .int .u32 0, .slice none 0 0, .string ⟨#[]⟩, .string ⟨#[]⟩, .slice none 0 0, .slice none 0 0, .slice none 0 0, .int .i64 0, .int .u32 0, .int .u32 0, .int .u32 0, .int .u32 0, .int .u32 0, .int .u32 0, .int .u32 0, .int .u32 0, .int .u32 0, .int .u32 0, .int .u32 0, .int .u32 0, .int .u32 0, .int .u32 0, .int .u32 0, .int .u32 0, .int .u32 0, .int .u32 0, .int .u32 0, .int .u32 0, .int .u32 0] 54) = z := ⟨_, rfl⟩
  have s1 : W1.heap.size = w.heap.size + 1 := by rw [← hW1]; simp
  have b1 : Below w.heap.size w W1 := by rw [← hW1]; exact (Below.refl _ _).alloc (Nat.le_refl _) _
  have b2 : Below W1.heap.size W1 W2 := by rw [← hW2]; exact (Below.refl _ _).alloc (Nat.le_refl _) _
  have n1 : W2.heap[w.heap.size]? = some (.cells (l.cells q).toArray 28 (0, 0)) := by
    have : W1.heap[w.heap.size]? = some (.cells (l.cells q).toArray 28 (0, 0)) := by rw [← hW1]; exact new_heap w _ _
    exact (b2.block _ (Array.getElem?_eq_some_iff.1 this).1).trans this
  have n2 : W2.heap[w.heap.size + 1]? = some (.cells #[.bool false, .int .u32 0, .int .u32 0, .string ⟨#[]⟩, .string ⟨#[]⟩, .int .u32 0, .slice none 0 0, .string ⟨#[]⟩, .string ⟨#[]⟩, .slice none 0 0, .slice none 0 0, .slice none 0 0, .int .i64 0, .int .u32 0, .int .u32 0, .int .u32 0, .int .u32 0, .int .u32 0, .int .u32 0, .int .u32 0, .int .u32 0, .int .u32 0, .int .u32 0, .int .u32 0, .int .u32 0, .int .u32 0, .int .u32 0, .int .u32 0, .int .u32 0, .int .u32 0, .int .u32 0, .int .u32 0, .int .u32 0, .int .u32 0] 54 (0, 0)) := by
    rw [← hW2, ← s1]; exact new_heap W1 _ _
  have s2 : W2.heap.size = w.heap.size + 2 := by rw [← hW2]; simp [s1]
  obtain ⟨W3, hW3⟩ : ∃ z, W2.alloc (.cells #[.bool false, .int .u32 0, .int .u32 0, .string ⟨#[]⟩, .string ⟨#[]⟩, .int .u32 0, .slice none 0 0, .string ⟨#[]⟩, .string ⟨#[]⟩, .slice none 0 0, .slice none 0 0, .slice none 0 0, .int .i64 0, .int .u32 0, .int .u32 0, .int .u32 0, .int .u32 0, .int .u32 0, .int .u32 0, .int .u32 0, .int .u32 0, .int .u32 0, .int .u32 0, .int .u32 0, .int .u32 0, .int .u32 0, .int .u32 0, .int .u32 0, .int .u32 0, .int .u32 0, .int .u32 0, .int .u32 0, .int .u32 0, .int .u32 0] 54) = z := ⟨_, rfl⟩
  have b3 : Below W2.heap.size W2 W3 := by rw [← hW3]; exact (Below.refl _ _).alloc (Nat.le_refl _) _
  have n3 : W3.heap[w.heap.size + 2]? = some (.cells #[.bool false, .int .u32 0, .int .u32 0, .string ⟨#[]⟩, .string ⟨#[]⟩, .int .u32 0, .slice none 0 0, .string ⟨#[]⟩, .string ⟨#[]⟩, .slice none 0 0, .slice none 0 0, .slice none 0 0, .int .i64 0, .int .u32 0, .int .u32 0, .int .u32 0, .int .u32 0, .int .u32 0, .int .u32 0, .int .u32 0, .int .u32 0, .int .u32 0, .int .u32 0, .int .u32 0, .int .u32 0, .int .u32 0, .int .u32 0, .int .u32 0, .int .u32 0, .int .u32 0, .int .u32 0, .int .u32 0, .int .u32 0, .int .u32 0] 54 (0, 0)) := by
    rw [← hW3, ← s2]; exact new_heap W2 _ _
  have h02 : SB w (w.heap.size + 1) 54 34 W3 := ⟨below_tr (below_tr b1 b2) b3, _, (b3.block _ (Array.getElem?_eq_some_iff.1 n2).1).trans n2, rfl⟩
  have h03 : SB w (w.heap.size + 2) 54 34 W3 := ⟨h02.1, _, n3, rfl⟩
  have HLC : Hid (BL l q w.heap.size W2) := n1
  have HF : Hid (FitP l ∧ LvIs l q w ∧ l.Bd) := ⟨hf, hv, hbd⟩
  obtain ⟨Z, hZ⟩ : ∃ z : Array Value, z = #[.bool false, .int .u32 0, .int .u32 0, .string ⟨#[]⟩, .string ⟨#[]⟩, .int .u32 0, .slice none 0 0, .string ⟨#[]⟩, .string ⟨#[]⟩, .slice none 0 0, .slice none 0 0, .slice none 0 0, .int .i64 0, .int .u32 0, .int .u32 0, .int .u32 0, .int .u32 0, .int .u32 0, .int .u32 0, .int .u32 0, .int .u32 0, .int .u32 0, .int .u32 0, .int .u32 0, .int .u32 0, .int .u32 0, .int .u32 0, .int .u32 0, .int .u32 0, .int .u32 0, .int .u32 0, .int .u32 0, .int .u32 0, .int .u32 0] := ⟨_, rfl⟩
  obtain ⟨LC, hLC⟩ : ∃ z : Array Value, z = (l.cells q).toArray := ⟨_, rfl⟩
  have hbt : Tryz.prog.built 54 [(0, .agg LC)] = some (l.zero.cells q).toArray := by rw [hLC]; exact built54 _ _ _ _ _ _ _ _ _ _ _ _ _ _
  have hls : (Tryz.prog.info? 28).map (·.size) = some LC.size := by rw [hLC]; rfl
  obtain ⟨YC, hYC⟩ : ∃ z : Array Value, z = (l.zero.cells q).toArray := ⟨_, rfl⟩
  have hys : YC.size = 34 := by rw [hYC]; rfl
  have hyi : (Tryz.prog.info? 54).map (·.size) = some YC.size := by rw [hys]; rfl
  have hyo : YC.all (·.oneCell') = true := by rw [hYC]; exact cells_one hv l.zero rfl
  rw [← hYC] at hbt
  have HYC : Hid (YC = (l.zero.cells q).toArray) := hYC
  have n1 : W2.heap[w.heap.size]? = some (.cells LC 28 (0, 0)) := by rw [hLC]; exact n1
  have s3 : W2.heap.size = w.heap.size + 2 := s2
  have hal : ∀ a : Act, (execOp a.eval { dst := some 3, op := Op.alloc 54, type := 0, pos := "layout.go:42", after := #[], guard := none }).run Tryz.prog W2 = .ok (.value (.pointer (some ⟨w.heap.size + 2, 0, none⟩))) W3 := fun a => by
    rw [← hW3, ← s2]; rfl
  obtain ⟨W4, hW4⟩ : ∃ z, W3.setRow (w.heap.size + 2) YC = z := ⟨_, rfl⟩
  have p4 := h03.set (by omega) YC hys
  rw [hW4] at p4
  have H4 : Hid (SB w (w.heap.size + 2) 54 34 W4 ∧ BY l.zero q (w.heap.size + 2) W4 ∧ SB w (w.heap.size + 1) 54 34 W4 ∧ w.heap.size + 2 < W4.heap.size) := by
    refine ⟨p4.1, by rw [HYC.out] at p4; exact p4.2, ?_, (Array.getElem?_eq_some_iff.1 p4.2).1⟩
    obtain ⟨hb, old, ho, hk⟩ := h02
    refine ⟨p4.1.1, old, ?_, hk⟩
    rw [← hW4]
    exact ((grown_setRow W3 (w.heap.size + 2) YC).block _ (Array.getElem?_eq_some_iff.1 ho).1 (by simp)).trans ho
  rw [← hLC] at hW1
  have hval : l.val q = .agg LC := by rw [hLC]; rfl
  rw [hval]
  clear hf hv hbd hLC hYC b1 b2 n2 n3 h02 p4 HLC hval
  obtain ⟨OLD3, ho3, hk3⟩ := h03.2
  go_enter Tryz.func23, Tryz.ntmps23
  go_upto_region 1 with fail
  refine wp_region_list ?_
  refine wpList_load_row rfl 28 (.tmp 1) rfl w.heap.size (by simp [Act.eval]) 28 LC (0, 0) _ n1 (by rfl) (by rfl) hls ?_
  simp only [Act.put]
  refine wpList_build rfl 54 _ rfl (by simp [Act.eval, hbt]) ?_
  simp only [Act.put]
  simp only [Act.eval, List.setIfInBounds_toArray, List.set_cons_zero, List.set_cons_succ, List.map_toArray, List.map_cons, List.map_nil, Array.getD_eq_getD_getElem?, List.getElem?_toArray, List.getElem?_cons_succ, List.getElem?_cons_zero, Option.getD_some, hbt]
  refine Go.Great.wpList_runTo rfl (some 3) rfl (.pointer (some ⟨w.heap.size + 2, 0, none⟩)) W3 (hal _) ?_
  simp only [Act.put, List.setIfInBounds_toArray, List.set_cons_zero, List.set_cons_succ]
  refine wpList_store_row rfl 54 (.tmp 3) (.tmp 8) rfl (w.heap.size + 2) YC (by simp [Act.eval]) (by simp [Act.eval]) 54 OLD3 ho3 hyi (by rw [hk3, hys]) hyo ?_
  simp only [Act.put]
  rw [hW4]
  refine wpList_nil ?_
  clear hal hbt hls hyi hyo hys n1 s3 ho3 hk3 h03 hW4 hW3 hW2 hW1 s1
  obtain ⟨Bf, hBf⟩ : ∃ f : Nat → ByteArray, f = fun p => ⟨(l.zero.part p).toArray⟩ := ⟨_, rfl⟩
  have HBf : Hid (∀ p, (Bf p).size = l.sz p) := fun p => by rw [hBf]; rfl
  have K27 := texts27 l.zero q (w.heap.size + 2) W4 H4.out.2.1 (zero_ok HF.out.1) (HF.out.2.1.keep H4.out.1.1) HF.out.2.2
  rw [show l.zero.tv = #[.string (Bf 0), .string (Bf 1), .string (Bf 2), .string (Bf 3), .string (Bf 4), .string (Bf 5), .string (Bf 6), .string (Bf 7), .string (Bf 8), .string (Bf 9)] by rw [hBf]; rfl] at K27
  clear hBf
  go_wp2_with fail
  refine K27.mono ?_
  rintro e w5 ⟨rfl, hb5⟩
  obtain ⟨W6, hW6⟩ : ∃ z, w5.alloc (.cells #[.string (Bf 0), .string (Bf 1), .string (Bf 2), .string (Bf 3), .string (Bf 4), .string (Bf 5), .string (Bf 6), .string (Bf 7), .string (Bf 8), .string (Bf 9)] 64) = z := ⟨_, rfl⟩
  have hb6 : Below w5.heap.size w5 W6 := by rw [← hW6]; exact (Below.refl _ _).alloc (Nat.le_refl _) _
  have n6 : W6.heap[w5.heap.size]? = some (.cells #[.string (Bf 0), .string (Bf 1), .string (Bf 2), .string (Bf 3), .string (Bf 4), .string (Bf 5), .string (Bf 6), .string (Bf 7), .string (Bf 8), .string (Bf 9)] 64 (0, 0)) := by rw [← hW6]; exact new_heap w5 _ _
  have HT6 : Hid (∀ k, k < 10 → W6.cell? ⟨w5.heap.size, k, none⟩ = some (.string (Bf k))) := fun k hk => by
    rcases (by omega : k = 0 ∨ k = 1 ∨ k = 2 ∨ k = 3 ∨ k = 4 ∨ k = 5 ∨ k = 6 ∨ k = 7 ∨ k = 8 ∨ k = 9) with rfl | rfl | rfl | rfl | rfl | rfl | rfl | rfl | rfl | rfl <;> exact blk_at (cs := (#[.string (Bf 0), .string (Bf 1), .string (Bf 2), .string (Bf 3), .string (Bf 4), .string (Bf 5), .string (Bf 6), .string (Bf 7), .string (Bf 8), .string (Bf 9)]).toList) n6 _ rfl
  have H6 : Hid (SB w (w.heap.size + 1) 54 34 W6 ∧ BY (l.layk 0) q (w.heap.size + 2) W6 ∧ w.heap.size + 2 < w5.heap.size) := ⟨(H4.out.2.2.1.step hb5).step hb6, by rw [layk_zero]; exact (H4.out.2.1.keep hb5).keep hb6, Nat.lt_of_lt_of_le H4.out.2.2.2 hb5.size⟩
  clear K27 hb5 hb6 n6 HYC
  go_upto_region 3 with fail
  clear hW6
  generalize w5.heap.size = g6 at *
  go_wp2
  have HG6 : Hid (g6 ≠ w.heap.size + 2) := by have := H6.out.2.2; show _ ≠ _; omega
  go_loopw [5, 10] (fun ev x wr => ∃ k : Nat, x = .int .i64 (k : Int) ∧ k ≤ 10 ∧ ev = .int .u32 (endN l.sz k : Int) ∧ SB w (w.heap.size + 1) 54 34 wr ∧ BY (l.layk k) q (w.heap.size + 2) wr ∧ (∀ j, j < 10 → wr.cell? ⟨g6, j, none⟩ = some (.string (Bf j)))) (fun _ x _ => 10 - (intOf x).toNat)
  case atStart => exact ⟨0, rfl, Nat.zero_le _, rfl, H6.out.1, H6.out.2.1, HT6.out⟩
  case round =>
    obtain ⟨k, rfl, hk, rfl, hS, hY, hT⟩ := hrel
    by_cases hlt : k < 10
    · have hki : (k : Int) < 10 := by omega
      obtain ⟨EN, hEN⟩ : ∃ z, z = endN l.sz k := ⟨_, rfl⟩
      obtain ⟨UP, hUP⟩ : ∃ z, z = atN l.sz k := ⟨_, rfl⟩
      obtain ⟨SZ, hSZ⟩ : ∃ z, z = l.sz k := ⟨_, rfl⟩
      have hup : UP = up8 EN := by rw [hUP, hEN]; exact atN_end l.sz k
      have hul := at_le HF.out.1 k
      have hzl := sz_le HF.out.1 k
      rw [← hUP] at hul
      rw [← hSZ] at hzl
      have hEb : EN ≤ UP := by rw [hup]; unfold up8; omega
      have K54 := up54 EN (by omega) wr
      rw [← hup] at K54
      obtain ⟨EM, hEM⟩ : ∃ z, z = UP + SZ := ⟨_, rfl⟩
      have hEM2 : endN l.sz (k + 1) = EM := by show atN l.sz k + l.sz k = _; rw [hEM, hUP, hSZ]
      have c0 := hY.ats k hlt
      have z0 := hY.frozen (14 + k)
      have hY7 := hY.setAt k UP hlt
      have hg7 := grown_setk wr (w.heap.size + 2) (14 + k) (.int .u32 (UP : Int))
      have hS7 : SB w (w.heap.size + 1) 54 34 (wr.setCell ⟨w.heap.size + 2, 14 + k, none⟩ (.int .u32 (UP : Int))) := hS.row hg7 (fun j e => by injection e with e; omega)
      have ct : (wr.setCell ⟨w.heap.size + 2, 14 + k, none⟩ (.int .u32 (UP : Int))).cell? ⟨g6, k, none⟩ = some (.string (Bf k)) := keep_other hg7 HG6.out (hT k hlt)
      obtain ⟨W7, hW7⟩ : ∃ z, wr.setCell ⟨w.heap.size + 2, 14 + k, none⟩ (.int .u32 (UP : Int)) = z := ⟨_, rfl⟩
      rw [hW7] at hY7 hg7 hS7 ct
      have c1 := hY7.sizes k hlt
      have z1 := hY7.frozen (24 + k)
      have hY8 := hY7.setSize k SZ hlt
      have hg8 := grown_setk W7 (w.heap.size + 2) (24 + k) (.int .u32 (SZ : Int))
      have hS8 := hS7.row hg8 (fun j e => by injection e with e; omega)
      obtain ⟨W8, hW8⟩ : ∃ z, W7.setCell ⟨w.heap.size + 2, 24 + k, none⟩ (.int .u32 (SZ : Int)) = z := ⟨_, rfl⟩
      rw [hW8] at hY8 hg8 hS8
      have hY9 : BY (l.layk (k + 1)) q (w.heap.size + 2) W8 := by
        rw [← layk_next, ← hUP, ← hSZ]
        exact hY8
      have c2 := hY8.ats k hlt
      have c3 := hY8.sizes k hlt
      simp only [if_pos rfl] at c2 c3
      have H9 : Hid (SB w (w.heap.size + 1) 54 34 W8 ∧ BY (l.layk (k + 1)) q (w.heap.size + 2) W8 ∧ (∀ j, j < 10 → W8.cell? ⟨g6, j, none⟩ = some (.string (Bf j))) ∧ endN l.sz (k + 1) = EM) := ⟨hS8, hY9, fun j hj => keep_other hg8 HG6.out (keep_other hg7 HG6.out (hT j hj)), hEM2⟩
      have hsz : (Bf k).size = SZ := by rw [hSZ]; exact HBf.out k
      obtain ⟨BK, hBK⟩ : ∃ z, z = Bf k := ⟨_, rfl⟩
      rw [← hBK] at ct hsz
      have hsi : (BK.size : Int) = (SZ : Int) := by omega
      have u1 : (SZ : Int) % 4294967296 = (SZ : Int) := by omega
      have u1' : IntKind.u32.wrap (SZ : Int) = (SZ : Int) := by rw [IntKind.wrap_u32]; exact u1
      have u2 : (UP : Int) + (SZ : Int) = (EM : Int) := by omega
      have u3 : (EM : Int) % 4294967296 = (EM : Int) := by omega
      have u3' : IntKind.u32.wrap (EM : Int) = (EM : Int) := by rw [IntKind.wrap_u32]; exact u3
      rw [← hEN]
      clear hEN hUP hSZ hup hul hzl hEb hEM hEM2 hY hY7 hg7 hS7 hY8 hg8 hS8 hY9 hS hT hsz hBK
      go_wp2_with fail
      refine K54.mono ?_
      rintro e w1 ⟨rfl, rfl⟩
      clear K54
      go_wp2
      go_quiet (fail)
      clear c0 z0 c1 z1 c2 c3 ct hsi u1 u1' u2 u3 u3' hW7 hW8
      have H10 : Hid (SB w (w.heap.size + 1) 54 34 (W8.drewN nq) ∧ BY (l.layk (k + 1)) q (w.heap.size + 2) (W8.drewN nq) ∧ (∀ j, j < 10 → (W8.drewN nq).cell? ⟨g6, j, none⟩ = some (.string (Bf j)))) := ⟨H9.out.1.step (below_dn (Below.refl _ _) nq), H9.out.2.1, H9.out.2.2.1⟩
      generalize W8.drewN nq = W9 at H10 ⊢
      go_wp2
      go_roundw
      case rel => exact ⟨k + 1, by go_num, by omega, by rw [H9.out.2.2.2], H10.out.1, H10.out.2.1, H10.out.2.2⟩
      case measure => simp [intOf]; omega
    · have hk10 : k = 10 := by omega
      subst hk10
      have hki : ¬ ((10 : Nat) : Int) < 10 := by omega
      rw [lay_is] at hY
      obtain ⟨YD, hYD⟩ : ∃ z : Array Value, z = (l.lay.cells q).toArray := ⟨_, rfl⟩
      have hys : YD.size = 34 := by rw [hYD]; rfl
      have hyi : (Tryz.prog.info? 54).map (·.size) = some YD.size := by rw [hys]; rfl
      have hyo : YD.all (·.oneCell') = true := by rw [hYD]; exact cells_one HF.out.2.1 l.lay rfl
      have hY : wr.heap[w.heap.size + 2]? = some (.cells YD 54 (0, 0)) := by rw [hYD]; exact hY
      have h9 := hS.set (by omega) YD hys
      obtain ⟨hb9, OLD, ho, hk9⟩ := id hS
      have HYD : Hid (YD = (l.lay.cells q).toArray) := hYD
      clear hYD hT hS
      go_upto_region 11 with fail
      refine wp_region_list ?_
      refine wpList_load_row rfl 54 (.tmp 3) rfl (w.heap.size + 2) (by simp [Act.eval]) 54 YD (0, 0) _ hY (by rfl) (by rfl) hyi ?_
      simp only [Act.put, List.setIfInBounds_toArray, List.set_cons_zero, List.set_cons_succ]
      refine wpList_store_row rfl 54 (.tmp 2) (.tmp 39) rfl (w.heap.size + 1) YD (by simp [Act.eval]) (by simp [Act.eval]) 54 OLD ho hyi (by rw [hk9, hys]) hyo ?_
      simp only [Act.put]
      obtain ⟨W9, hW9⟩ : ∃ z, wr.setRow (w.heap.size + 1) YD = z := ⟨_, rfl⟩
      rw [hW9] at h9 ⊢
      refine wpList_nil ?_
      go_wp2
      refine bodyPost_ret (v := .agg YD) ?_ rfl ?_
      · exact results_cell_row rfl _ _ (w.heap.size + 1) 54 _ (0, 0) _ rfl h9.2 (by rfl) (by rfl) hyi
      · exact ⟨by rw [HYD.out], h9.1.1⟩
end Go.Proofs.YtgdflobcbhnimaaGreat
