/- What is proved here: which of the guest's pages are among n; what may be done with a page; is one in a page of the host. -/
import Derived.Test.YtpaanfeleeomnaaGs
namespace Go.Proofs.Ytpaanfeleeomnaa
open Go.RowKit
set_option linter.unusedVariables false
set_option maxRecDepth 100000
theorem drop_lo {ps : List (Nat × Int)} (hs : Srt ps) (a c : Nat) (h : a < c) : (lo (ps.drop (lo ps a).length) c).length = (mid ps a (c - 1)).length ∧ Srt (ps.drop (lo ps a).length) := by
  have e := parts ps hs a (c - 1) (by omega)
  have e2 : ps.drop (lo ps a).length = mid ps a (c - 1) ++ hi ps (c - 1) := by
    conv => lhs; arg 2; rw [e]
    rw [List.append_assoc, List.drop_left]
  refine ⟨?_, List.Pairwise.sublist (List.drop_sublist _ _) hs⟩
  rw [e2, lo, List.filter_append]
  have f1 : (mid ps a (c - 1)).filter (fun x => decide (x.1 < c)) = mid ps a (c - 1) := List.filter_eq_self.2 (fun x hx => by have := (mid_mem.1 hx).2; simp; omega)
  have f2 : (hi ps (c - 1)).filter (fun x => decide (x.1 < c)) = [] := List.filter_eq_nil_iff.2 (fun x hx => by have := (hi_mem.1 hx).2; simp; omega)
  rw [f1, f2, List.append_nil]
set_option maxHeartbeats 2000000 in
theorem gspan67 (v : Value) (ps : List (Nat × Int)) (first n last : Nat) (w : World) (hp : Pg.Sl .i64 w v ps) (hs : Srt ps) (hl : ps.length ≤ 1073741824) (hn : n ≠ 0) (hf : first + n < 4294967296) (hla : last = first + n - 1) :
    Calls Try.prog 67 #[v, .int .u32 (first : Int), .int .u32 (n : Int)] w fun e w' => e = .returned (.tuple #[.int .i64 (((lo ps first).length : Nat) : Int), .int .i64 (((lo ps first).length + (mid ps first last).length : Nat) : Int)]) ∧ Below w.heap.size w w' := by
  have K1 := gsearch37 v ps first w hp hs hl
  obtain ⟨d1, d2⟩ := drop_lo hs first (first + n) (by omega)
  obtain ⟨v2, e2, s2, a2, n2, p2, rfl⟩ := hp.from22 (lo ps first).length (lo_len _ _)
  have K2 : Hid (∀ w', Below w.heap.size w w' → Calls Try.prog 37 #[.slice a2 n2 p2, .int .u32 ((first + n : Nat) : Int)] w' fun e w'' => e = .returned (.tuple #[.int .i64 (((mid ps first last).length : Nat) : Int), .bool (isIn (ps.drop (lo ps first).length) (first + n))]) ∧ Below w'.heap.size w' w'') := fun w' hb => by
    have h := gsearch37 _ _ (first + n) w' (s2.keep hb) d2 (by simp; omega)
    rw [d1, ← hla] at h
    exact h
  have hlen : (lo ps first).length + (mid ps first last).length ≤ ps.length := by
    have := parts_len ps hs first last (by omega)
    omega
  obtain ⟨av, nv, pv, rfl⟩ : ∃ a n p, v = .slice a n p := by obtain ⟨a, p, h, _⟩ := hp; exact ⟨_, _, _, h⟩
  have x1 : IntKind.u32.wrap ((first : Int) + (n : Int)) = ((first + n : Nat) : Int) := by rw [IntKind.wrap_u32]; omega
  generalize isIn (ps.drop (lo ps first).length) (first + n) = b2 at K2
  generalize isIn ps first = b1 at K1
  generalize (mid ps first last).length = m at K2 hlen ⊢
  generalize (lo ps first).length = f at K1 e2 hlen ⊢
  obtain ⟨q, hq⟩ : ∃ q, q = first + n := ⟨_, rfl⟩
  rw [← hq] at K2 x1
  clear hp hs hf hla hn s2 d1 d2 hq
  go_enter Try.func67, Try.ntmps67
  go_wp2_with fail
  refine K1.mono ?_
  rintro e w1 ⟨rfl, hb1⟩
  clear K1
  go_wp2_with fail
  refine (K2.out w1 hb1).mono ?_
  rintro e w2 ⟨rfl, hb2⟩
  go_wp2
  go_ret2
  exact ⟨by simp, below_tr hb1 hb2⟩
/-- What may be done with a page; -1: it is not mapped. -/
def protN (ps : List (Nat × Int)) (n : Nat) : Int := match ps.find? (fun x => x.1 == n) with | some x => x.2 | none => -1
theorem protN_in {ps : List (Nat × Int)} (hs : Srt ps) {x : Nat × Int} (hx : x ∈ ps) : protN ps x.1 = x.2 := by rw [protN, find_mem hs hx]
theorem protN_no {ps : List (Nat × Int)} {n : Nat} (h : isIn ps n = false) : protN ps n = -1 := by
  rw [protN, find_none]
  intro x hx e
  rw [isIn, List.any_eq_false] at h
  exact absurd e (by simpa using h x hx)
set_option maxHeartbeats 2000000 in
theorem gprot14 (vm vc vp : Value) (b n : Nat) (ps : List (Nat × Int)) (w : World) (hm : ∃ a n p, vm = .slice a n p) (hc : ∃ a n p, vc = .slice a n p) (hp : Pg.Sl .i64 w vp ps) (hs : Srt ps) (hl : ps.length ≤ 1073741824) :
    Calls Try.prog 14 #[.agg #[vm, vc, .int .u64 (b : Int), vp], .int .u32 (n : Int)] w fun e w' => e = .returned (.int .i64 (protN ps n)) ∧ Below w.heap.size w w' := by
  obtain ⟨W, hW, hbb, hsz, c0, c1, c2, c3, _⟩ := box4 w vm vc (.int .u64 (b : Int)) vp 29
  obtain ⟨_, _, _, rfl⟩ := hm
  obtain ⟨_, _, _, rfl⟩ := hc
  have hpW := hp.keep hbb
  have K := gsearch37 vp ps n W hpW hs hl
  obtain ⟨ao, cap, rfl, h1, h2, _, h4⟩ := hpW
  cases hin : isIn ps n with
  | false =>
    rw [hin] at K
    have HR : Hid (protN ps n = -1) := protN_no hin
    generalize (lo ps n).length = f at K
    clear h4 hin hp hs
    go_enter Try.func14, Try.ntmps14
    go_wp2_with fail
    refine K.mono ?_
    rintro e w1 ⟨rfl, hb1⟩
    go_wp2
    go_ret
    exact ⟨by rw [HR.out]; rfl, below_tr hbb hb1⟩
  | true =>
    rw [hin] at K
    have hlt : (lo ps n).length < ps.length := by
      apply Classical.byContradiction
      intro c
      rw [isIn_end hs n c] at hin
      cases hin
    have he0 := isIn_at hs n hlt
    rw [hin] at he0
    have he : ps[(lo ps n).length].1 = n := by simpa using he0.symm
    clear he0
    have HR : Hid (protN ps n = ps[(lo ps n).length].2) := by
      show _ = _
      have := protN_in hs (List.getElem_mem hlt)
      rw [he] at this
      exact this
    obtain ⟨bb, o, rfl, d0, d1⟩ := h4 _ hlt
    generalize ps[(lo ps n).length].2 = r at HR d1
    generalize (lo ps n).length = f at K d1 hlt
    have x1 : (f : Int) < (ps.length : Int) := by omega
    clear h4 hin hp hs he d0
    go_enter Try.func14, Try.ntmps14
    go_wp2_with fail
    refine K.mono ?_
    rintro e w1 ⟨rfl, hb1⟩
    have d1 := keep_cell hb1 d1
    have c3 := keep_cell hb1 c3
    go_wp2
    go_ret
    exact ⟨by rw [HR.out]; rfl, below_tr hbb hb1⟩
/-- Is one of the guest's pages in the k-th page of the host? -/
def usedN (ps : List (Nat × Int)) (k : Nat) : Bool := ps.any (fun x => x.1 / 4 == k)
theorem used_mid {ps : List (Nat × Int)} (k : Nat) : usedN ps k = decide ((mid ps (k * 4) (k * 4 + 4 - 1)).length ≠ 0) := by
  rw [Bool.eq_iff_iff]
  simp only [usedN, List.any_eq_true, beq_iff_eq, decide_eq_true_eq]
  constructor
  · rintro ⟨x, hx, e⟩ c
    have := mid_mem.2 ⟨hx, (show k * 4 ≤ x.1 by omega), (show x.1 ≤ k * 4 + 4 - 1 by omega)⟩
    rw [List.eq_nil_of_length_eq_zero c] at this
    simp at this
  · intro c
    obtain ⟨x, hx⟩ := List.exists_mem_of_ne_nil (mid ps (k * 4) (k * 4 + 4 - 1)) (fun e => c (by rw [e]; rfl))
    have := mid_mem.1 hx
    exact ⟨x, this.1, by omega⟩
set_option maxHeartbeats 2000000 in
theorem gisUsed79 (wb k : Nat) (vp : Value) (ps : List (Nat × Int)) (w : World) (c3 : w.cell? ⟨wb, 3, none⟩ = some vp) (hp : Pg.Sl .i64 w vp ps) (hs : Srt ps) (hl : ps.length ≤ 1073741824) (hk : k < 1073741823) :
    Calls Try.prog 79 #[.pointer (some ⟨wb, 0, none⟩), .int .u32 (k : Int)] w fun e w' => e = .returned (.bool (usedN ps k)) ∧ Below w.heap.size w w' := by
  have K := gspan67 vp ps (k * 4) 4 (k * 4 + 4 - 1) w hp hs hl (by omega) (by omega) rfl
  obtain ⟨av, nv, pv, rfl⟩ : ∃ a n p, vp = .slice a n p := by obtain ⟨a, p, h, _⟩ := hp; exact ⟨_, _, _, h⟩
  have x1 : IntKind.u32.wrap ((k : Int) * 4) = ((k * 4 : Nat) : Int) := by rw [IntKind.wrap_u32]; omega
  have HU := used_mid (ps := ps) k
  have HR : Hid (usedN ps k = (((lo ps (k * 4)).length : Int) != (((lo ps (k * 4)).length + (mid ps (k * 4) (k * 4 + 4 - 1)).length : Nat) : Int))) := by
    show _ = _
    rw [HU, Bool.eq_iff_iff]
    simp only [decide_eq_true_eq, bne_iff_ne, ne_eq]
    omega
  obtain ⟨q, hq⟩ : ∃ q, q = k * 4 := ⟨_, rfl⟩
  rw [← hq] at K x1 HR
  generalize (lo ps q).length = f at K HR
  generalize f + (mid ps q (q + 4 - 1)).length = t at K HR
  obtain ⟨bb, hbb⟩ : ∃ bb, bb = usedN ps k := ⟨_, rfl⟩
  rw [← hbb]
  have hx : ((f : Int) != (t : Int)) = bb := by rw [hbb, HR.out]
  clear hp hs HU HR hbb hq
  go_enter Try.func79, Try.ntmps79
  go_wp2_with fail
  refine K.mono ?_
  rintro e w1 ⟨rfl, hb1⟩
  go_wp2
  go_ret
  exact ⟨rfl, hb1⟩
end Go.Proofs.Ytpaanfeleeomnaa
