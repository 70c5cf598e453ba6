/- What is proved here: a copy of the symbols, with their addresses. -/
import Derived.Test.YtgdflobcbhnimaaGreatPkd
import Derived.Test.YtgdflobcbhnimaaGreatNd
import Derived.Test.YtgdflobcbhnimaaGreatNg
import Derived.Test.YtgdflobcbhnimaaGreatEach
import Derived.Test.YtgdflobcbhnimaaGreatEHr
import Derived.Laws.OwnMore
namespace Go.Proofs.YtgdflobcbhnimaaGreat
open Go.RowKit 
set_option linter.unusedVariables false
set_option linter.unusedSimpArgs false
set_option maxRecDepth 100000
open E (own_keep)
/-- A row of symbols of one's own. -/
def OwnY (B : Nat) (w : World) (v : Value) (gs : List Sy) : Prop := w.ownsRow B 46 5 v gs.length (gs.flatMap Sy.cells)
theorem cells_len (gs : List Sy) : (gs.flatMap Sy.cells).length = gs.length * 5 := by
  induction gs with
  | nil => rfl
  | cons g t ih => rw [List.flatMap_cons, List.length_append, ih, List.length_cons]; show 5 + _ = _; omega
theorem cells_at (gs : List Sy) : ∀ i (h : i < gs.length) j (hj : j < 5), (gs.flatMap Sy.cells)[i * 5 + j]? = (gs[i].cells)[j]? := by
  induction gs with
  | nil => intro i h; simp at h
  | cons g t ih =>
    intro i h j hj
    rw [List.flatMap_cons]
    match i, h with
    | 0, _ => rw [Nat.zero_mul, Nat.zero_add, List.getElem?_append_left (by show j < 5; exact hj)]; rfl
    | i + 1, h =>
      rw [List.getElem?_append_right (by show 5 ≤ _; omega), show (i + 1) * 5 + j - g.cells.length = i * 5 + j from by show (i + 1) * 5 + j - 5 = _; omega]
      exact ih i (by simpa using h) j hj
theorem OwnY.sl {B : Nat} {w : World} {v : Value} {gs : List Sy} (h : OwnY B w v gs) : SlY w v gs := by
  obtain ⟨h0, h | ⟨g, cap, cur, h1, h2, h3, h4, h5, h6, h7⟩⟩ := h
  · obtain ⟨rfl, h⟩ := h
    have : gs = [] := List.eq_nil_of_length_eq_zero h
    subst this
    exact SlY.nil w
  · refine ⟨some ⟨g, 0, none⟩, cap, h1, h4, by unfold maxLen at h5; omega, (by simp), fun i hi => ⟨g, 0, rfl, ?_⟩⟩
    have key : ∀ j v, j < 5 → (gs[i].cells)[j]? = some v → w.cell? ⟨g, 0 + i * 5 + j, none⟩ = some v := by
      intro j v hj hv
      have e := cells_at gs i hi j hj
      rw [hv, ← h7] at e
      have hlt : i * 5 + j < gs.length * 5 := by omega
      rw [List.getElem?_take_of_lt hlt] at e
      simp only [World.cell?, h3, Nat.zero_add]
      simpa using e
    exact ⟨key 0 _ (by decide) rfl, key 1 _ (by decide) rfl, key 2 _ (by decide) rfl, key 3 _ (by decide) rfl, key 4 _ (by decide) rfl⟩
theorem OwnY.keep {B : Nat} {w w' : World} {v : Value} {gs : List Sy} (h : OwnY B w v gs) (hb : Below w.heap.size w w') : OwnY B w' v gs := own_keep h hb
theorem OwnY.row {B n : Nat} {w w' : World} {v : Value} {gs : List Sy} (h : OwnY B w v gs) (hg : w.grownBy w' (some n)) (hn : n < B) : OwnY B w' v gs := by
  obtain ⟨h0, h | ⟨g, cap, cur, h1, h2, h3, h4⟩⟩ := h
  · exact ⟨h0, Or.inl h⟩
  · refine ⟨h0, Or.inr ⟨g, cap, cur, h1, h2, ?_, h4⟩⟩
    rw [hg.block g (Array.getElem?_eq_some_iff.1 h3).1 (by intro e; injection e with e; omega)]; exact h3
theorem OwnY.base {B B' : Nat} {w : World} {v : Value} {gs : List Sy} (h : OwnY B w v gs) (hb : B' ≤ B) : OwnY B' w v gs := by
  obtain ⟨h0, h | ⟨g, cap, cur, h1, h2, h3, h4⟩⟩ := h
  · exact ⟨h0, Or.inl h⟩
  · exact ⟨h0, Or.inr ⟨g, cap, cur, h1, Nat.le_trans hb h2, h3, h4⟩⟩
theorem OwnY.shape {B : Nat} {w : World} {v : Value} {gs : List Sy} (h : OwnY B w v gs) : ∃ a c, v = .slice a gs.length c := by
  obtain ⟨_, h | ⟨g, cap, cur, h1, _⟩⟩ := h
  · exact ⟨none, 0, by rw [h.1, h.2]⟩
  · exact ⟨_, _, h1⟩
theorem OwnY.ge {B : Nat} {w : World} {v : Value} {gs : List Sy} (h : OwnY B w v gs) : ∀ r, v.ownBlock = some r → B ≤ r := by
  intro r hr
  obtain ⟨_, h | ⟨g, cap, cur, h1, h2, _⟩⟩ := h
  · rw [h.1] at hr; cases hr
  · rw [h1] at hr
    injection hr with hr
    subst hr
    exact h2
theorem infoY : ∃ i, Tryz.prog.info? 46 = some i ∧ i.zero = some (.agg #[.string ⟨#[]⟩, .int .u32 0, .int .u32 0, .int .i64 0, .int .i64 0]) ∧ i.size = 5 ∧ i.bytes = 40 := info_parts (P := Tryz.prog) (e := 46) (by kernel_rfl)
theorem one5 (l : List Sy) : ∀ u ∈ l.flatMap Sy.cells, u.oneCell' = true := by
  intro u hu
  obtain ⟨g, _, hg⟩ := List.mem_flatMap.1 hu
  simp [Sy.cells] at hg
  rcases hg with rfl | rfl | rfl | rfl | rfl <;> rfl
theorem SlY.news {w : World} {b o : Nat} {l : List Sy} (h : ∀ i (h : i < l.length), At5 w b (o + i * 5) l[i]) : ∀ j u, (l.flatMap Sy.cells)[j]? = some u → w.cell? ((⟨b, o, none⟩ : Addr).add j) = some u := by
  intro j u hj
  have hlt : j < l.length * 5 := by rw [← cells_len]; exact (List.getElem?_eq_some_iff.1 hj).1
  have hi : j / 5 < l.length := by omega
  have hr : j % 5 < 5 := Nat.mod_lt _ (by decide)
  have e : j = j / 5 * 5 + j % 5 := by omega
  rw [e, cells_at l _ hi _ hr] at hj
  obtain ⟨h0, h1, h2, h3, h4⟩ := h (j / 5) hi
  generalize l[j / 5] = g at hj h0 h1 h2 h3 h4
  have ea : (⟨b, o, none⟩ : Addr).add j = ⟨b, o + j / 5 * 5 + j % 5, none⟩ := by
    have e2 : o + j = o + j / 5 * 5 + j % 5 := by omega
    rw [← e2]; simp [Addr.add]
  rw [ea]
  generalize j % 5 = r at hj hr ⊢
  have hc : r = 0 ∨ r = 1 ∨ r = 2 ∨ r = 3 ∨ r = 4 := by omega
  rcases hc with rfl | rfl | rfl | rfl | rfl <;> (simp [Sy.cells] at hj; subst hj; assumption)
set_option maxHeartbeats 1000000 in
theorem clone86 (l : List Sy) (v : Value) (w : World) (hs : SlY w v l) (hl : l.length ≤ 1000) :
    Calls Tryz.prog 86 #[v] w fun e w' => (∃ v', e = .returned v' ∧ OwnY w.heap.size w' v' l) ∧ Below w.heap.size w w' := by
  obtain ⟨ao, cap, rfl, s1, s2, s3, s4⟩ := hs
  cases ao with
  | none =>
    have hn : l = [] := by
      cases l with
      | nil => rfl
      | cons a r => obtain ⟨_, _, e, _⟩ := s4 0 (by simp); cases e
    subst hn
    obtain rfl := s3 rfl
    have heq : ∀ wx, (binOp .eql 24 (.slice none 0 0) (.slice none 0 0)).run Tryz.prog wx = .ok (.bool true) wx := fun wx => by rfl
    simp only [List.length_nil]
    go_enter Tryz.func86, Tryz.ntmps86
    go_wp2
    go_ret
    exact ⟨⟨_, rfl, ⟨rfl, Or.inl ⟨rfl, rfl⟩⟩⟩, Below.refl _ _⟩
  | some ad =>
    have HN : Hid (∀ j u, (l.flatMap Sy.cells)[j]? = some u → w.cell? (ad.add j) = some u) := by
      cases l with
      | nil => intro j u h; simp at h
      | cons a r =>
        obtain ⟨b, o, e, _⟩ := s4 0 (by simp)
        injection e with e
        subst e
        exact SlY.news (fun i hi => by obtain ⟨b', o', e', h'⟩ := s4 i hi; injection e' with e'; injection e' with e1 e2 _; subst e1 e2; exact h')
    obtain ⟨i0, hi1, hi2, hi3, hi4⟩ := infoY
    have heq : ∀ wx, (binOp .eql 24 (.slice (some ad) l.length cap) (.slice none 0 0)).run Tryz.prog wx = .ok (.bool false) wx := fun wx => by rfl
    clear s4 s3
    go_enter Tryz.func86, Tryz.ntmps86
    go_wp2_with (at_builtin; refine wpList_append_own _ rfl _ _ 24 rfl w.heap.size 46 i0 _ 5 40 Tryz.underlying24 hi1 hi2 hi3 hi4 rfl (by decide) _ 0 [] rfl ?_ ad l.length cap (l.flatMap Sy.cells) rfl (cells_len l) ?_ (one5 l) ?_ ?_ ?_ ?_)
    · exact ⟨rfl, Or.inr ⟨w.heap.size, 0, #[], rfl, Nat.le_refl _, new_heap w _ _, Nat.le_refl _, by decide, rfl, rfl⟩⟩
    · exact fun j u h => keep_cell ((Below.refl _ _).alloc (Nat.le_refl _) _) (HN.out j u h)
    · unfold maxLen; omega
    · omega
    · simp
    intro v' w' ho hg _
    have hb' : Below w.heap.size w w' := ((Below.refl _ _).alloc (Nat.le_refl _) _).grown hg (by simp) (fun k e => by simp [Act.eval, Value.ownBlock] at e; omega)
    have ho2 : Hid (OwnY w.heap.size w' v' l) := by
      simpa [OwnY, Hid] using ho
    clear ho hg heq hi1 hi2 hi3 hi4
    go_wp2
    go_ret
    exact ⟨⟨v', rfl, ho2.out⟩, hb'⟩
theorem cells_set : ∀ (gs : List Sy) (i : Nat) (h : i < gs.length) (v : Nat), (gs.flatMap Sy.cells).set (i * 5 + 1) (.int .u32 (v : Int)) = (gs.set i ⟨gs[i].name, v, gs[i].size, gs[i].bind, gs[i].part⟩).flatMap Sy.cells
  | g :: t, 0, _, v => by simp [Sy.cells]
  | g :: t, i + 1, h, v => by
    rw [List.flatMap_cons, List.set_append_right _ _ (by show 5 ≤ _; omega), show (i + 1) * 5 + 1 - g.cells.length = i * 5 + 1 from by show (i + 1) * 5 + 1 - 5 = _; omega, cells_set t i (by simpa using h) v]
    simp
/-- The first k symbols have their addresses. -/
def Ly.upto (y : Ly) (k : Nat) : List Sy := (y.lib.syms.take k).map y.puts ++ y.lib.syms.drop k
theorem upto_len (y : Ly) (k : Nat) (h : k ≤ y.lib.syms.length) : (y.upto k).length = y.lib.syms.length := by unfold Ly.upto; simp; omega
theorem upto_at (y : Ly) (k : Nat) (h : k < y.lib.syms.length) : (y.upto k)[k]'(by rw [upto_len y k (by omega)]; exact h) = y.lib.syms[k] := by
  unfold Ly.upto
  rw [List.getElem_append_right (by simp; omega)]
  simp
  congr 1
  omega
theorem upto_next (y : Ly) (k : Nat) (h : k < y.lib.syms.length) : (y.upto k).set k (y.puts y.lib.syms[k]) = y.upto (k + 1) := by
  unfold Ly.upto
  have hl : ((y.lib.syms.take k).map y.puts).length = k := by simp; omega
  rw [List.set_append_right _ _ (by omega), hl, Nat.sub_self, List.take_succ_eq_append_getElem h, List.map_append, List.append_assoc]
  congr 1
  rw [List.drop_eq_getElem_cons h]
  rfl
theorem upto_all (y : Ly) : y.upto y.lib.syms.length = y.placed := by unfold Ly.upto Ly.placed; simp
set_option maxHeartbeats 2000000 in
theorem placed59 (y : Ly) (q : Lv) (b : Nat) (w : World) (h : BY y q b w) (ok : y.Ok) (hs : SlY w q.vs y.lib.syms) (hb : ∀ s ∈ y.lib.syms, s.Bd) :
    Calls Tryz.prog 59 #[.pointer (some ⟨b, 0, none⟩)] w fun e w' => (∃ v', e = .returned v' ∧ OwnY w.heap.size w' v' y.placed) ∧ Below w.heap.size w w' := by
  have HY : Hid (BY y q b w ∧ y.Ok) := ⟨h, ok⟩
  have d9 : w.cell? ⟨b, 9, none⟩ = some q.vs := h.lib 9 rfl
  have K86 := clone86 y.lib.syms q.vs w hs (by have := ok.fit.y0; omega)
  have K87 : Hid (∀ (s : Sy) w', s.Bd → Below w.heap.size w w' → Calls Tryz.prog 87 #[.pointer (some ⟨b, 0, none⟩), s.val] w' fun e w'' => e = .returned (.int .u32 (y.symV s : Int)) ∧ Below w'.heap.size w' w'') := fun s w' hs hw => symbol87 y q b s w' (HY.out.1.keep hw) HY.out.2 hs
  have HB : Hid ((∀ s ∈ y.lib.syms, s.Bd) ∧ y.lib.syms.length ≤ 60) := ⟨hb, ok.fit.y0⟩
  obtain ⟨N, hN⟩ : ∃ N, N = y.lib.syms.length := ⟨_, rfl⟩
  have HN : Hid (N = y.lib.syms.length) := hN
  obtain ⟨ao, cap, hv, _⟩ := id hs
  rw [hv] at d9 K86
  rw [← hN] at d9 K86
  clear h ok hs hb hv hN
  go_enter Tryz.func59, Tryz.ntmps59
  go_wp2_with fail
  refine K86.mono ?_
  rintro e w1 ⟨⟨v, rfl, hO⟩, hb1⟩
  have HO : Hid (OwnY w.heap.size w1 v y.lib.syms ∧ Below w.heap.size w w1) := ⟨hO, hb1⟩
  obtain ⟨a1, c1, rfl⟩ := hO.shape
  rw [← HN.out]
  rw [← HN.out] at HO
  clear K86 hO hb1 d9
  go_wp2
  go_loopw [14] (fun x wr => ∃ k : Nat, x = .int .i64 (k : Int) ∧ k ≤ N ∧ OwnY w.heap.size wr (.slice a1 N c1) (y.upto k) ∧ Below w.heap.size w wr) (fun x _ => N - (intOf x).toNat)
  case atStart => exact ⟨0, rfl, Nat.zero_le _, by unfold Ly.upto; simpa using HO.out.1, HO.out.2⟩
  case round =>
    obtain ⟨k, rfl, hk, hI, hbr⟩ := hrel
    by_cases hlt : k < N
    · have hks : k < y.lib.syms.length := by rw [← HN.out]; exact hlt
      have hul := upto_len y k (by omega)
      have hua := upto_at y k hks
      have hun := upto_next y k hks
      obtain ⟨g, rfl⟩ : ∃ g, a1 = some ⟨g, 0, none⟩ := by
        obtain ⟨_, h | ⟨g, cap, cur, h1, _⟩⟩ := hI
        · obtain ⟨h, _⟩ := h; injection h with _ h _; omega
        · injection h1 with h1 _ _; exact ⟨g, h1⟩
      have hge : w.heap.size ≤ g := hI.ge g rfl
      have hsl := hI.sl
      obtain ⟨ao', cap', he, _, _, _, h4⟩ := hsl
      obtain ⟨bb, oo, hbo, h5⟩ := h4 k (by omega)
      injection he with he1 he2 he3
      clear he2 he3
      rw [← he1] at hbo
      injection hbo with hbo
      injection hbo with hb1 hb2 _
      subst hb1 hb2
      obtain ⟨s, hss⟩ : ∃ s, s = y.lib.syms[k] := ⟨_, rfl⟩
      rw [hua, ← hss] at h5
      rw [← hss] at hun
      have hsb := HB.out.1 s (by rw [hss]; exact List.getElem_mem hks)
      obtain ⟨r0, r1, r2, r3, r4⟩ := h5
      simp only [Nat.zero_add] at r0 r1 r2 r3 r4
      obtain ⟨W7, hW7, hb8, hz7, q0, q1, q2, q3, q4⟩ := box5 wr s
      have hI' : (OwnY w.heap.size wr (.slice (some ⟨g, 0, none⟩) (y.upto k).length c1) (y.upto k)) := by rw [hul, ← HN.out]; exact hI
      have hki : (k : Int) < (N : Int) := by omega
      have hNb := HB.out.2
      rw [← HN.out] at hNb
      have K87s := fun w' hw => K87.out s w' hsb hw
      have HX : Hid (OwnY w.heap.size W7 (.slice (some ⟨g, 0, none⟩) (y.upto k).length c1) (y.upto k) ∧ Below w.heap.size w W7 ∧ (y.upto k).length = N ∧ k < N ∧ w.heap.size ≤ g ∧ (y.upto k).set k (y.puts s) = y.upto (k + 1) ∧ (∀ h, (y.upto k)[k]'h = s)) := ⟨hI'.keep hb8, below_tr hbr hb8, by rw [hul, HN.out], hlt, hge, hun, fun h => by rw [hua, hss]⟩
      have K87t : Hid (∀ w', Below w.heap.size w w' → Calls Tryz.prog 87 #[.pointer (some ⟨b, 0, none⟩), .agg #[.string ⟨s.name.toArray⟩, .int .u32 (s.value : Int), .int .u32 (s.size : Int), .int .i64 s.bind, .int .i64 s.part]] w' fun e w'' => e = .returned (.int .u32 (y.symV s : Int)) ∧ Below w'.heap.size w' w'') := K87s
      clear hI hI' hbr hb8 hz7 hss hsb hul hua hun h4 he1 hks hk hlt hge K87s
      go_wp2_with fail
      refine (K87t.out W7 HX.out.2.1).mono ?_
      rintro e w8 ⟨rfl, hb8⟩
      have hO8 := HX.out.1.keep hb8
      have H8 : Hid (Below w.heap.size w w8) := below_tr HX.out.2.1 hb8
      have z1 := World.ownsRow.frozenAt hO8 (k * 5 + 1)
      have t1 := World.ownsRow.cellAt hO8 (k * 5 + 1) (by have := HX.out.2.2.2.1; have := HX.out.2.2.1; omega)
      have e1 : ((y.upto k).flatMap Sy.cells)[k * 5 + 1]? = some (.int .u32 (s.value : Int)) := by
        have hkl : k < (y.upto k).length := by rw [HX.out.2.2.1]; exact HX.out.2.2.2.1
        rw [cells_at _ k hkl 1 (by decide), HX.out.2.2.2.2.2.2 hkl]
        rfl
      rw [e1] at t1
      have hst := World.ownsRow.stored hO8 (k * 5 + 1) (.int .u32 (y.symV s : Int))
      have HS9 : Hid (OwnY w.heap.size (w8.setCell ⟨g, k * 5 + 1, none⟩ (.int .u32 (y.symV s : Int))) (.slice (some ⟨g, 0, none⟩) N c1) (y.upto (k + 1)) ∧ Below w.heap.size w (w8.setCell ⟨g, k * 5 + 1, none⟩ (.int .u32 (y.symV s : Int)))) := by
        have hkl : k < (y.upto k).length := by rw [HX.out.2.2.1]; exact HX.out.2.2.2.1
        refine ⟨?_, H8.out.grown hst.2 H8.out.size (fun j e => by injection e with e; have := HX.out.2.2.2.2.1; omega)⟩
        have h1 := hst.1
        rw [cells_set _ k hkl, HX.out.2.2.2.2.2.2 hkl, show (y.upto k).set k ⟨s.name, y.symV s, s.size, s.bind, s.part⟩ = y.upto (k + 1) from HX.out.2.2.2.2.2.1] at h1
        have hl : (y.upto k).length = (y.upto (k + 1)).length := by rw [← HX.out.2.2.2.2.2.1]; simp
        show World.ownsRow _ _ _ _ _ _ _
        rw [← hl, ← HX.out.2.2.1]
        exact h1
      have hkN := HX.out.2.2.2.1
      clear hO8 hst e1 hb8 q0 q1 q2 q3 q4 r0 r1 r2 r3 r4 hW7 K87t
      go_wp2
      go_roundw
      case rel => exact ⟨k + 1, by go_num, hkN, HS9.out.1, HS9.out.2⟩
      case measure => simp [intOf]; omega
    · have hkN : k = N := by omega
      have hki : ¬ (k : Int) < (N : Int) := by omega
      subst hkN
      have HF : Hid (OwnY w.heap.size wr (.slice a1 k c1) y.placed ∧ Below w.heap.size w wr) := ⟨by rw [← upto_all, ← HN.out]; exact hI, hbr⟩
      clear hI hbr
      go_wp2
      go_ret
      exact ⟨⟨_, rfl, HF.out.1⟩, HF.out.2⟩
end Go.Proofs.YtgdflobcbhnimaaGreat
