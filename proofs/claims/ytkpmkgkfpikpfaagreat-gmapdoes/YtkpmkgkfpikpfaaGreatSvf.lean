/- What is proved here: room for pages in plain words, and how the document looks for it. -/
import Derived.Test.YtkpmkgkfpikpfaaGreatSb
import Derived.Test.YtkpmkgkfpikpfaaGreatSv
namespace Go.Proofs.YtkpmkgkfpikpfaaGreat
open Go.RowKit
set_option linter.unusedVariables false
set_option linter.unusedSimpArgs false
set_option maxRecDepth 100000
def FreeAt (ps : List (Nat × Int)) (st en n f : Nat) : Prop := 0 < f ∧ f + n ≤ 458752 ∧ (∀ x ∈ ps, x.1 < f ∨ f + n ≤ x.1) ∧ (st / 4096 < pgN en → pgN en ≤ f ∨ f + n ≤ st / 4096)
def IsRoom (ps : List (Nat × Int)) (st en n z : Nat) : Prop := (z = 0 ∧ ∀ f, ¬ FreeAt ps st en n f) ∨ (FreeAt ps st en n z ∧ ∀ f, FreeAt ps st en n f → f ≤ z)
theorem room_one {ps : List (Nat × Int)} {st en n z z' : Nat} (h : IsRoom ps st en n z) (h' : IsRoom ps st en n z') : z = z' := by
 rcases h with ⟨rfl, h⟩ | ⟨h1, h2⟩
 ·rcases h' with ⟨rfl, _⟩ | ⟨h1', _⟩
  ·rfl
  ·exact absurd h1' (h _)
 ·rcases h' with ⟨rfl, h'⟩ | ⟨h1', h2'⟩
  ·exact absurd h1 (h' _)
  ·exact Nat.le_antisymm (h2' _ h1) (h2 _ h1')
def topF (first n : Nat) : List (Nat × Int) → Nat → Nat
 | [], t => t
 | x :: r, t => topF first n r (if first ≤ x.1 ∧ x.1 - first < n ∧ x.1 < t then x.1 else t)
theorem topF_snoc (first n : Nat) (y : Nat × Int) : ∀ (l : List (Nat × Int)) (t : Nat), topF first n (l ++ [y]) t = (if first ≤ y.1 ∧ y.1 - first < n ∧ y.1 < topF first n l t then y.1 else topF first n l t)
 | [], t => rfl
 | x :: r, t => topF_snoc first n y r _
theorem topF_le (first n : Nat) : ∀ (l : List (Nat × Int)) (t : Nat), topF first n l t ≤ t
 | [], t => Nat.le_refl _
 | x :: r, t => by
  unfold topF
  refine Nat.le_trans (topF_le first n r _) ?_
  split <;> omega
theorem topF_is (first n : Nat) : ∀ (l : List (Nat × Int)) (t : Nat), topF first n l t = t ∨ ∃ x ∈ l, x.1 = topF first n l t ∧ first ≤ x.1 ∧ x.1 - first < n
 | [], t => .inl rfl
 | x :: r, t => by
  unfold topF
  rcases topF_is first n r (if first ≤ x.1 ∧ x.1 - first < n ∧ x.1 < t then x.1 else t) with h | ⟨y, hy, h⟩
  ·by_cases hc : first ≤ x.1 ∧ x.1 - first < n ∧ x.1 < t
   ·rw [if_pos hc] at h ⊢
    exact .inr ⟨x, List.mem_cons_self .., h.symm, hc.1, hc.2.1⟩
   ·rw [if_neg hc] at h ⊢
    exact .inl h
  ·exact .inr ⟨y, List.mem_cons_of_mem _ hy, h⟩
theorem topF_low (first n : Nat) : ∀ (l : List (Nat × Int)) (t : Nat), ∀ x ∈ l, first ≤ x.1 → x.1 - first < n → topF first n l t ≤ x.1
 | [], t, x, hx, _, _ => by simp at hx
 | y :: r, t, x, hx, h1, h2 => by
  unfold topF
  rcases List.mem_cons.1 hx with rfl | hx
  ·refine Nat.le_trans (topF_le first n r _) ?_
   split <;> omega
  ·exact topF_low first n r _ x hx h1 h2
def cntG (L : List Nat) (t : Nat) : Nat := L.countP (fun x => decide (t ≤ x))
theorem cntG_mono (v t : Nat) (h : v ≤ t) : ∀ L : List Nat, cntG L t ≤ cntG L v
 | [] => Nat.le_refl _
 | x :: r => by
  have ih := cntG_mono v t h r
  unfold cntG at *
  rw [List.countP_cons, List.countP_cons]
  by_cases h1 : t ≤ x
  ·simp only [decide_eq_true h1, decide_eq_true (show v ≤ x by omega)]; omega
  ·simp only [decide_eq_false h1]; simp; omega
theorem cntG_more (v t : Nat) (h : v < t) : ∀ L : List Nat, v ∈ L → cntG L t + 1 ≤ cntG L v
 | [], hv => by simp at hv
 | x :: r, hv => by
  rcases List.mem_cons.1 hv with rfl | hv
  ·have ih := cntG_mono v t (by omega) r
   unfold cntG at *
   rw [List.countP_cons, List.countP_cons]
   simp only [decide_eq_false (show ¬ t ≤ v by omega), decide_eq_true (Nat.le_refl v)]; simp; omega
  ·have ih := cntG_more v t h r hv
   unfold cntG at *
   rw [List.countP_cons, List.countP_cons]
   by_cases h1 : t ≤ x
   ·simp only [decide_eq_true h1, decide_eq_true (show v ≤ x by omega)]; omega
   ·simp only [decide_eq_false h1]; simp; omega
theorem cntG_le (L : List Nat) (t : Nat) : cntG L t ≤ L.length := List.countP_le_length
structure FdI (ps : List (Nat × Int)) (st en n : Nat) (step top : Nat) : Prop where
 le : top ≤ 458752
 none : ∀ f, FreeAt ps st en n f → f + n ≤ top
 few : step ≤ cntG (st / 4096 :: ps.map (·.1)) top
theorem FdI.start (ps : List (Nat × Int)) (st en n : Nat) : FdI ps st en n 0 458752 := ⟨Nat.le_refl _, fun f h => h.2.1, Nat.zero_le _⟩
theorem FdI.steps {ps : List (Nat × Int)} {st en n step top : Nat} (h : FdI ps st en n step top) (hl : ps.length ≤ 256) : step < 600 := by
 have := Nat.le_trans h.few (cntG_le _ _)
 simp at this
 omega
theorem FdI.end_ {ps : List (Nat × Int)} {st en n step top : Nat} (h : FdI ps st en n step top) (hn : ¬ n < top) : IsRoom ps st en n 0 := .inl ⟨rfl, fun f hf => by have := h.none f hf; have := hf.1; omega⟩
theorem FdI.heap {ps : List (Nat × Int)} {st en n step top : Nat} (h : FdI ps st en n step top) (hn : n < top) (h1 : st / 4096 < pgN en) (h2 : top - n < pgN en) (h3 : st / 4096 < top - n + n) : FdI ps st en n (step + 1) (st / 4096) := by
 refine ⟨by have := h.le; omega, fun f hf => ?_, ?_⟩
 ·have := h.none f hf
  have := hf.2.2.2 h1
  omega
 ·have := cntG_more (st / 4096) top (by omega) (st / 4096 :: ps.map (·.1)) (List.mem_cons_self ..)
  have := h.few
  omega
theorem FdI.pages {ps : List (Nat × Int)} {st en n step top : Nat} (h : FdI ps st en n step top) (hn : n < top) (hc : topF (top - n) n ps top ≠ top) : FdI ps st en n (step + 1) (topF (top - n) n ps top) := by
 have hle := topF_le (top - n) n ps top
 rcases topF_is (top - n) n ps top with e | ⟨x, hx, e, h1, h2⟩
 ·exact absurd e hc
 ·refine ⟨by have := h.le; omega, fun f hf => ?_, ?_⟩
  ·have := h.none f hf
   have := hf.2.2.1 x hx
   omega
  ·have hm : topF (top - n) n ps top ∈ (st / 4096 :: ps.map (·.1)) := List.mem_cons_of_mem _ (List.mem_map.2 ⟨x, hx, e⟩)
   have := cntG_more _ top (by omega) _ hm
   have := h.few
   omega
theorem FdI.found {ps : List (Nat × Int)} {st en n step top : Nat} (h : FdI ps st en n step top) (hn : n < top) (h0 : ¬ (st / 4096 < pgN en ∧ top - n < pgN en ∧ st / 4096 < top - n + n)) (hc : topF (top - n) n ps top = top) : IsRoom ps st en n (top - n) := by
 refine .inr ⟨⟨by omega, by have := h.le; omega, fun x hx => ?_, fun hl => by omega⟩, fun f hf => by have := h.none f hf; omega⟩
 by_cases hw : top - n ≤ x.1 ∧ x.1 - (top - n) < n
 ·have := topF_low (top - n) n ps top x hx hw.1 hw.2
  omega
 ·omega
theorem ret_u32' {a b : Int} (h : a = b) : Ending.returned (.int .u32 a) = .returned (.int .u32 b) := by rw [h]
set_option maxHeartbeats 4000000 in
theorem rfree31 (vm vc vp : Value) (bs st en n : Nat) (ms cs ps : List (Nat × Int)) (w : World) (hsl : SlG w vm vc vp ms cs ps) (hps : ∀ x ∈ ps, x.1 < 1048576) (hl : ps.length ≤ 256) (hst : st < 4294967296) (hen : en < 4294967296) (hn : 0 < n) (hn2 : n ≤ 256) :
  Calls Tryz.prog 31 #[.agg #[vm, vc, .int .u64 (bs : Int), vp, .int .u32 (st : Int), .int .u32 (en : Int)], .int .u32 (n : Int)] w fun e w' => ∃ z : Nat, IsRoom ps st en n z ∧ e = .returned (.int .u32 ((z * 4096 : Nat) : Int)) ∧ Below w.heap.size w w' := by
 obtain ⟨am, pm, rfl, _⟩ := id hsl.1
 obtain ⟨ac, pc, rfl, _⟩ := id hsl.2.1
 obtain ⟨ap, pp, rfl, _⟩ := id hsl.2.2
 obtain ⟨nm, hnm⟩ : ∃ z, z = ms.length := ⟨_, rfl⟩
 obtain ⟨nc, hnc⟩ : ∃ z, z = cs.length := ⟨_, rfl⟩
 rw [← hnm, ← hnc] at hsl ⊢
 clear hnm hnc
 obtain ⟨X, hX⟩ : ∃ z, w.alloc (.cells #[.slice am nm pm, .slice ac nc pc, .int .u64 (bs : Int), .slice ap ps.length pp, .int .u32 (st : Int), .int .u32 (en : Int)] 32) = z := ⟨_, rfl⟩
 have BG : B6 X w.heap.size 32 (.slice am nm pm) (.slice ac nc pc) (.int .u64 (bs : Int)) (.slice ap ps.length pp) (.int .u32 (st : Int)) (.int .u32 (en : Int)) := by rw [← hX]; exact B6.new w 32 _ _ _ _ _ _
 have hb : Below w.heap.size w X := by rw [← hX]; exact (Below.refl _ _).alloc (Nat.le_refl _) _
 obtain ⟨c0, c1, c2, c3, c4, c5⟩ := BG.cells
 obtain ⟨ap', cp, e1, l1, l2, _, hx⟩ := (hsl.keep hb).2.2
 obtain ⟨rfl, rfl⟩ : ap = ap' ∧ pp = cp := by simpa using e1
 have HX : Hid (∀ i (h : i < ps.length), ∃ b o, ap = some ⟨b, o, none⟩ ∧ X.cell? ⟨b, o + i * 2, none⟩ = some (.int .u32 (ps[i].1 : Int)) ∧ X.cell? ⟨b, o + i * 2 + 1, none⟩ = some (.int .i64 ps[i].2)) := hx
 have HPS : Hid (∀ x ∈ ps, x.1 < 1048576) := hps
 have HL : Hid (ps.length ≤ 256) := hl
 obtain ⟨lw, hlw⟩ : ∃ z, z = st / 4096 := ⟨_, rfl⟩
 obtain ⟨hg, hhg⟩ : ∃ z, z = pgN en := ⟨_, rfl⟩
 have lhg : hg ≤ 1048576 := by rw [hhg, pgN]; omega
 have llw : lw ≤ 1048576 := by omega
 have x1 : (st : Int) / 4096 = (lw : Int) := by omega
 have x2 : (st : Int).tdiv 4096 = (lw : Int) := by rw [Int.tdiv_eq_ediv_of_nonneg (by omega)]; omega
 have K20 : Hid (∀ w', Calls Tryz.prog 20 #[.int .u32 (en : Int)] w' fun e w'' => e = .returned (.int .u32 (hg : Int)) ∧ w'' = w') := fun w' => by rw [hhg]; exact count20 en w' hen
 have HLH : Hid (lw = st / 4096 ∧ hg = pgN en) := ⟨hlw, hhg⟩
 have HB : Hid (Below w.heap.size w X) := hb
 clear hx hps hsl e1 BG hlw hhg hl hb hst hen
 go_enter Tryz.func31, Tryz.ntmps31
 go_wp2_with fail
 refine (K20.out _).mono ?_
 rintro e w9 ⟨rfl, rfl⟩
 go_wp2
 go_loopw [7, 8] (fun t i wr => ∃ top k : Nat, t = .int .u32 (top : Int) ∧ i = .int .i64 (k : Int) ∧ FdI ps st en n k top ∧ w9 = wr) (fun _ i _ => 1000 - (intOf i).toNat)
 case atStart => exact ⟨458752, 0, rfl, rfl, FdI.start .., rfl⟩
 case round =>
  obtain ⟨top, k, rfl, rfl, hI, rfl⟩ := hrel
  have hk6 := hI.steps HL.out
  have htl := hI.le
  have HI : Hid (FdI ps st en n k top) := hI
  clear hI
  by_cases hnt : n < top
  case neg =>
   have HE : Hid (IsRoom ps st en n 0) := HI.out.end_ hnt
   have z1 : decide ((n : Int) < (top : Int)) = false := decide_eq_false (by omega)
   go_wp2
   go_ret
   exact ⟨0, HE.out, rfl, HB.out⟩
  obtain ⟨fi, hfi⟩ : ∃ z, z = top - n := ⟨_, rfl⟩
  have y1 : IntKind.u32.wrap ((top : Int) - (n : Int)) = (fi : Int) := by rw [IntKind.wrap_u32]; omega
  have y2 : ((top : Int) - (n : Int)) % 4294967296 = (fi : Int) := by omega
  have y3 : (top : Int) - (n : Int) = (fi : Int) := by omega
  have hfl : fi < 458752 := by omega
  have y4 : (fi : Int) + (n : Int) = (top : Int) := by omega
  have y5 : IntKind.u32.wrap ((fi : Int) + (n : Int)) = (top : Int) := by rw [IntKind.wrap_u32]; omega
  have y6 : ((fi : Int) + (n : Int)) % 4294967296 = (top : Int) := by omega
  obtain ⟨HL1, HL2⟩ := HLH.out
  by_cases hh : lw < hg ∧ fi < hg ∧ lw < top
  ·have HN : Hid (FdI ps st en n (k + 1) lw) := by
    show FdI _ _ _ _ _ _
    rw [HL1]
    exact HI.out.heap hnt (by omega) (by omega) (by omega)
   obtain ⟨q1, q2, q3⟩ := hh
   clear hfi HL1 HL2 HI
   go_wp2
   go_roundw
   case rel => exact ⟨lw, k + 1, rfl, by go_num, HN.out, by trivial⟩
   case measure => simp [intOf]; omega
  ·have HN0 : Hid (¬ (st / 4096 < pgN en ∧ top - n < pgN en ∧ st / 4096 < top - n + n)) := by show ¬ _; omega
   have HF : Hid (fi = top - n) := hfi
   clear hfi HL1 HL2
   have hh3 : lw < hg → fi < hg → ¬ lw < top := fun a b c => hh ⟨a, b, c⟩
   clear hh
   by_cases q1 : lw < hg
   ·have q1' : (lw : Int) < (hg : Int) := by omega
    by_cases q2 : fi < hg
    ·have q3 := hh3 q1 q2
     have q2' : (fi : Int) < (hg : Int) := by omega
     have q3' : decide ((lw : Int) < (top : Int)) = false := decide_eq_false (by omega)
     have q3'' : (lw < top) = False := eq_false q3
     clear hh3 q3
     go_wp2
     go_loopw [7, 11] (fun t i wr => ∃ T j : Nat, t = .int .u32 (T : Int) ∧ i = .int .i64 (j : Int) ∧ j ≤ ps.length ∧ T = topF fi n (ps.take j) top ∧ w9 = wr) (fun _ i _ => ps.length - (intOf i).toNat)
     case atStart => exact ⟨top, 0, rfl, rfl, Nat.zero_le _, rfl, rfl⟩
     case round =>
      obtain ⟨T, j, rfl, rfl, hj, hT0, rfl⟩ := hrel
      have HT : Hid (T = topF fi n (ps.take j) top) := hT0
      have hTl : T ≤ top := by rw [hT0]; exact topF_le ..
      clear hT0
      by_cases hjl : j < ps.length
      ·obtain ⟨b, o, rfl, d0, d1⟩ := HX.out j hjl
       have hpk := HPS.out _ (List.getElem_mem hjl)
       have HS : Hid (topF fi n (ps.take (j + 1)) top = (if fi ≤ ps[j].1 ∧ ps[j].1 - fi < n ∧ ps[j].1 < T then ps[j].1 else T)) := by
        show _ = _
        rw [List.take_succ_eq_append_getElem hjl, topF_snoc, ← HT.out]
       generalize ps[j].1 = p at d0 hpk HS
       generalize ps[j].2 = r at d1
       by_cases hge : fi ≤ p
       ·obtain ⟨d, hd⟩ : ∃ z, z = p - fi := ⟨_, rfl⟩
        have v1 : IntKind.u32.wrap ((p : Int) - (fi : Int)) = (d : Int) := by rw [IntKind.wrap_u32]; omega
        have v2 : ((p : Int) - (fi : Int)) % 4294967296 = (d : Int) := by omega
        have v3 : (p : Int) - (fi : Int) = (d : Int) := by omega
        have hge2 : (fi : Int) ≤ (p : Int) := by omega
        by_cases hdn : d < n
        ·have hdn2 : (d : Int) < (n : Int) := by omega
         by_cases hpt : p < T
         ·have HG : Hid (p = topF fi n (ps.take (j + 1)) top) := by show _ = _; rw [HS.out, if_pos ⟨hge, by omega, hpt⟩]
          have hpt2 : (p : Int) < (T : Int) := by omega
          clear HS hd hge hdn
          go_wp2
          go_roundw
          case rel => exact ⟨p, j + 1, rfl, by go_num, by omega, HG.out, by trivial⟩
          case measure => simp [intOf]; omega
         ·have HG : Hid (T = topF fi n (ps.take (j + 1)) top) := by show _ = _; rw [HS.out, if_neg (fun h => hpt h.2.2)]
          have hpt2 : decide ((p : Int) < (T : Int)) = false := decide_eq_false (by omega)
          have hpt3 : (p < T) = False := eq_false hpt
          clear HS hd hge hdn hpt
          go_wp2
          go_roundw
          case rel => exact ⟨T, j + 1, rfl, by go_num, by omega, HG.out, by trivial⟩
          case measure => simp [intOf]; omega
        ·have HG : Hid (T = topF fi n (ps.take (j + 1)) top) := by show _ = _; rw [HS.out, if_neg (fun h => by have := h.2.1; omega)]
         have hdn2 : decide ((d : Int) < (n : Int)) = false := decide_eq_false (by omega)
         have hdn3 : (d < n) = False := eq_false hdn
         clear HS hd hge hdn
         go_wp2
         go_roundw
         case rel => exact ⟨T, j + 1, rfl, by go_num, by omega, HG.out, by trivial⟩
         case measure => simp [intOf]; omega
       ·have HG : Hid (T = topF fi n (ps.take (j + 1)) top) := by show _ = _; rw [HS.out, if_neg (fun h => hge h.1)]
        have hge2 : decide ((fi : Int) ≤ (p : Int)) = false := decide_eq_false (by omega)
        have hge3 : (fi ≤ p) = False := eq_false hge
        clear HS hge
        go_wp2
        go_roundw
        case rel => exact ⟨T, j + 1, rfl, by go_num, by omega, HG.out, by trivial⟩
        case measure => simp [intOf]; omega
      ·have hjn : j = ps.length := by omega
       have HTT : Hid (T = topF fi n ps top) := by
        have h := HT.out
        rw [hjn, List.take_length] at h
        exact h
       have hj2 : decide ((j : Int) < (ps.length : Int)) = false := decide_eq_false (by omega)
       clear hjn HT
       by_cases he : T = top
       ·have HR : Hid (IsRoom ps st en n fi) := by
         have e1 := HTT.out
         have e2 := HF.out
         rw [he] at e1
         rw [e2] at e1 ⊢
         exact HI.out.found hnt HN0.out e1.symm
        clear HTT HN0 HI
        subst he
        go_wp2
        go_ret
        exact ⟨fi, HR.out, ret_u32' (by omega), HB.out⟩
       ·have HN : Hid (FdI ps st en n (k + 1) T) := by
         have e1 := HTT.out
         have e2 := HF.out
         show FdI _ _ _ _ _ _
         rw [e1, e2]
         exact HI.out.pages hnt (by rw [← e2, ← e1]; exact he)
        have he2 : ((T : Int) == (top : Int)) = false := by rw [beq_eq_false_iff_ne]; omega
        have he3 : (T = top) = False := eq_false he
        clear HTT HN0 HI he
        go_wp2
        go_roundw
        case rel => exact ⟨T, k + 1, rfl, by go_num, HN.out, by trivial⟩
        case measure => simp [intOf]; omega
    ·have q2' : decide ((fi : Int) < (hg : Int)) = false := decide_eq_false (by omega)
     have q2'' : (fi < hg) = False := eq_false q2
     clear hh3 q2
     go_wp2
     go_loopw [7, 11] (fun t i wr => ∃ T j : Nat, t = .int .u32 (T : Int) ∧ i = .int .i64 (j : Int) ∧ j ≤ ps.length ∧ T = topF fi n (ps.take j) top ∧ w9 = wr) (fun _ i _ => ps.length - (intOf i).toNat)
     case atStart => exact ⟨top, 0, rfl, rfl, Nat.zero_le _, rfl, rfl⟩
     case round =>
      obtain ⟨T, j, rfl, rfl, hj, hT0, rfl⟩ := hrel
      have HT : Hid (T = topF fi n (ps.take j) top) := hT0
      have hTl : T ≤ top := by rw [hT0]; exact topF_le ..
      clear hT0
      by_cases hjl : j < ps.length
      ·obtain ⟨b, o, rfl, d0, d1⟩ := HX.out j hjl
       have hpk := HPS.out _ (List.getElem_mem hjl)
       have HS : Hid (topF fi n (ps.take (j + 1)) top = (if fi ≤ ps[j].1 ∧ ps[j].1 - fi < n ∧ ps[j].1 < T then ps[j].1 else T)) := by
        show _ = _
        rw [List.take_succ_eq_append_getElem hjl, topF_snoc, ← HT.out]
       generalize ps[j].1 = p at d0 hpk HS
       generalize ps[j].2 = r at d1
       by_cases hge : fi ≤ p
       ·obtain ⟨d, hd⟩ : ∃ z, z = p - fi := ⟨_, rfl⟩
        have v1 : IntKind.u32.wrap ((p : Int) - (fi : Int)) = (d : Int) := by rw [IntKind.wrap_u32]; omega
        have v2 : ((p : Int) - (fi : Int)) % 4294967296 = (d : Int) := by omega
        have v3 : (p : Int) - (fi : Int) = (d : Int) := by omega
        have hge2 : (fi : Int) ≤ (p : Int) := by omega
        by_cases hdn : d < n
        ·have hdn2 : (d : Int) < (n : Int) := by omega
         by_cases hpt : p < T
         ·have HG : Hid (p = topF fi n (ps.take (j + 1)) top) := by show _ = _; rw [HS.out, if_pos ⟨hge, by omega, hpt⟩]
          have hpt2 : (p : Int) < (T : Int) := by omega
          clear HS hd hge hdn
          go_wp2
          go_roundw
          case rel => exact ⟨p, j + 1, rfl, by go_num, by omega, HG.out, by trivial⟩
          case measure => simp [intOf]; omega
         ·have HG : Hid (T = topF fi n (ps.take (j + 1)) top) := by show _ = _; rw [HS.out, if_neg (fun h => hpt h.2.2)]
          have hpt2 : decide ((p : Int) < (T : Int)) = false := decide_eq_false (by omega)
          have hpt3 : (p < T) = False := eq_false hpt
          clear HS hd hge hdn hpt
          go_wp2
          go_roundw
          case rel => exact ⟨T, j + 1, rfl, by go_num, by omega, HG.out, by trivial⟩
          case measure => simp [intOf]; omega
        ·have HG : Hid (T = topF fi n (ps.take (j + 1)) top) := by show _ = _; rw [HS.out, if_neg (fun h => by have := h.2.1; omega)]
         have hdn2 : decide ((d : Int) < (n : Int)) = false := decide_eq_false (by omega)
         have hdn3 : (d < n) = False := eq_false hdn
         clear HS hd hge hdn
         go_wp2
         go_roundw
         case rel => exact ⟨T, j + 1, rfl, by go_num, by omega, HG.out, by trivial⟩
         case measure => simp [intOf]; omega
       ·have HG : Hid (T = topF fi n (ps.take (j + 1)) top) := by show _ = _; rw [HS.out, if_neg (fun h => hge h.1)]
        have hge2 : decide ((fi : Int) ≤ (p : Int)) = false := decide_eq_false (by omega)
        have hge3 : (fi ≤ p) = False := eq_false hge
        clear HS hge
        go_wp2
        go_roundw
        case rel => exact ⟨T, j + 1, rfl, by go_num, by omega, HG.out, by trivial⟩
        case measure => simp [intOf]; omega
      ·have hjn : j = ps.length := by omega
       have HTT : Hid (T = topF fi n ps top) := by
        have h := HT.out
        rw [hjn, List.take_length] at h
        exact h
       have hj2 : decide ((j : Int) < (ps.length : Int)) = false := decide_eq_false (by omega)
       clear hjn HT
       by_cases he : T = top
       ·have HR : Hid (IsRoom ps st en n fi) := by
         have e1 := HTT.out
         have e2 := HF.out
         rw [he] at e1
         rw [e2] at e1 ⊢
         exact HI.out.found hnt HN0.out e1.symm
        clear HTT HN0 HI
        subst he
        go_wp2
        go_ret
        exact ⟨fi, HR.out, ret_u32' (by omega), HB.out⟩
       ·have HN : Hid (FdI ps st en n (k + 1) T) := by
         have e1 := HTT.out
         have e2 := HF.out
         show FdI _ _ _ _ _ _
         rw [e1, e2]
         exact HI.out.pages hnt (by rw [← e2, ← e1]; exact he)
        have he2 : ((T : Int) == (top : Int)) = false := by rw [beq_eq_false_iff_ne]; omega
        have he3 : (T = top) = False := eq_false he
        clear HTT HN0 HI he
        go_wp2
        go_roundw
        case rel => exact ⟨T, k + 1, rfl, by go_num, HN.out, by trivial⟩
        case measure => simp [intOf]; omega
   ·have q1' : decide ((lw : Int) < (hg : Int)) = false := decide_eq_false (by omega)
    have q1'' : (lw < hg) = False := eq_false q1
    clear hh3 q1
    go_wp2
    go_loopw [7, 11] (fun t i wr => ∃ T j : Nat, t = .int .u32 (T : Int) ∧ i = .int .i64 (j : Int) ∧ j ≤ ps.length ∧ T = topF fi n (ps.take j) top ∧ w9 = wr) (fun _ i _ => ps.length - (intOf i).toNat)
    case atStart => exact ⟨top, 0, rfl, rfl, Nat.zero_le _, rfl, rfl⟩
    case round =>
     obtain ⟨T, j, rfl, rfl, hj, hT0, rfl⟩ := hrel
     have HT : Hid (T = topF fi n (ps.take j) top) := hT0
     have hTl : T ≤ top := by rw [hT0]; exact topF_le ..
     clear hT0
     by_cases hjl : j < ps.length
     ·obtain ⟨b, o, rfl, d0, d1⟩ := HX.out j hjl
      have hpk := HPS.out _ (List.getElem_mem hjl)
      have HS : Hid (topF fi n (ps.take (j + 1)) top = (if fi ≤ ps[j].1 ∧ ps[j].1 - fi < n ∧ ps[j].1 < T then ps[j].1 else T)) := by
       show _ = _
       rw [List.take_succ_eq_append_getElem hjl, topF_snoc, ← HT.out]
      generalize ps[j].1 = p at d0 hpk HS
      generalize ps[j].2 = r at d1
      by_cases hge : fi ≤ p
      ·obtain ⟨d, hd⟩ : ∃ z, z = p - fi := ⟨_, rfl⟩
       have v1 : IntKind.u32.wrap ((p : Int) - (fi : Int)) = (d : Int) := by rw [IntKind.wrap_u32]; omega
       have v2 : ((p : Int) - (fi : Int)) % 4294967296 = (d : Int) := by omega
       have v3 : (p : Int) - (fi : Int) = (d : Int) := by omega
       have hge2 : (fi : Int) ≤ (p : Int) := by omega
       by_cases hdn : d < n
       ·have hdn2 : (d : Int) < (n : Int) := by omega
        by_cases hpt : p < T
        ·have HG : Hid (p = topF fi n (ps.take (j + 1)) top) := by show _ = _; rw [HS.out, if_pos ⟨hge, by omega, hpt⟩]
         have hpt2 : (p : Int) < (T : Int) := by omega
         clear HS hd hge hdn
         go_wp2
         go_roundw
         case rel => exact ⟨p, j + 1, rfl, by go_num, by omega, HG.out, by trivial⟩
         case measure => simp [intOf]; omega
        ·have HG : Hid (T = topF fi n (ps.take (j + 1)) top) := by show _ = _; rw [HS.out, if_neg (fun h => hpt h.2.2)]
         have hpt2 : decide ((p : Int) < (T : Int)) = false := decide_eq_false (by omega)
         have hpt3 : (p < T) = False := eq_false hpt
         clear HS hd hge hdn hpt
         go_wp2
         go_roundw
         case rel => exact ⟨T, j + 1, rfl, by go_num, by omega, HG.out, by trivial⟩
         case measure => simp [intOf]; omega
       ·have HG : Hid (T = topF fi n (ps.take (j + 1)) top) := by show _ = _; rw [HS.out, if_neg (fun h => by have := h.2.1; omega)]
        have hdn2 : decide ((d : Int) < (n : Int)) = false := decide_eq_false (by omega)
        have hdn3 : (d < n) = False := eq_false hdn
        clear HS hd hge hdn
        go_wp2
        go_roundw
        case rel => exact ⟨T, j + 1, rfl, by go_num, by omega, HG.out, by trivial⟩
        case measure => simp [intOf]; omega
      ·have HG : Hid (T = topF fi n (ps.take (j + 1)) top) := by show _ = _; rw [HS.out, if_neg (fun h => hge h.1)]
       have hge2 : decide ((fi : Int) ≤ (p : Int)) = false := decide_eq_false (by omega)
       have hge3 : (fi ≤ p) = False := eq_false hge
       clear HS hge
       go_wp2
       go_roundw
       case rel => exact ⟨T, j + 1, rfl, by go_num, by omega, HG.out, by trivial⟩
       case measure => simp [intOf]; omega
     ·have hjn : j = ps.length := by omega
      have HTT : Hid (T = topF fi n ps top) := by
       have h := HT.out
       rw [hjn, List.take_length] at h
       exact h
      have hj2 : decide ((j : Int) < (ps.length : Int)) = false := decide_eq_false (by omega)
      clear hjn HT
      by_cases he : T = top
      ·have HR : Hid (IsRoom ps st en n fi) := by
        have e1 := HTT.out
        have e2 := HF.out
        rw [he] at e1
        rw [e2] at e1 ⊢
        exact HI.out.found hnt HN0.out e1.symm
       clear HTT HN0 HI
       subst he
       go_wp2
       go_ret
       exact ⟨fi, HR.out, ret_u32' (by omega), HB.out⟩
      ·have HN : Hid (FdI ps st en n (k + 1) T) := by
        have e1 := HTT.out
        have e2 := HF.out
        show FdI _ _ _ _ _ _
        rw [e1, e2]
        exact HI.out.pages hnt (by rw [← e2, ← e1]; exact he)
       have he2 : ((T : Int) == (top : Int)) = false := by rw [beq_eq_false_iff_ne]; omega
       have he3 : (T = top) = False := eq_false he
       clear HTT HN0 HI he
       go_wp2
       go_roundw
       case rel => exact ⟨T, k + 1, rfl, by go_num, HN.out, by trivial⟩
       case measure => simp [intOf]; omega
end Go.Proofs.YtkpmkgkfpikpfaaGreat
