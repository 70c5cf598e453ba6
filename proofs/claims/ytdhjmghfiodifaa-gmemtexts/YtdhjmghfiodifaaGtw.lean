/- What is proved here: GmemTexts: plain words, and its walk. -/
import Derived.Test.YtdhjmghfiodifaaGtx
import Derived.Test.YtdhjmghfiodifaaGpt
import Derived.Test.YtdhjmghfiodifaaGby
import Derived.Test.YtdhjmghfiodifaaGdoc
import Derived.Lib.Bytealg
import Derived.Lib.IndexLaws
namespace Go.Proofs.Ytdhjmghfiodifaa
open Go.RowKit
set_option linter.unusedVariables false
set_option linter.unusedSimpArgs false
set_option maxRecDepth 100000
theorem idx_no (c : UInt8) : ∀ l : List UInt8, c ∉ l → Lib.indexByte l c = -1
  | [], _ => rfl
  | b :: t, h => by
    simp only [List.mem_cons, not_or] at h
    have h0 : (b == c) = false := by simpa using fun e => h.1 e.symm
    rw [Lib.indexByte, h0, idx_no c t h.2]
    rfl
theorem idx_end (c : UInt8) : ∀ l : List UInt8, c ∉ l → Lib.indexByte (l ++ [c]) c = (l.length : Int)
  | [], _ => by simp [Lib.indexByte]
  | b :: t, h => by
    simp only [List.mem_cons, not_or] at h
    have h0 : (b == c) = false := by simpa using fun e => h.1 e.symm
    have h1 := idx_end c t h.2
    rw [List.cons_append, Lib.indexByte, h0, h1]
    have h2 : (((t.length : Nat) : Int) == -1) = false := by simp only [beq_eq_false_iff_ne, ne_eq]; omega
    rw [h2]
    simp
theorem idx_in (c : UInt8) (l : List UInt8) (h : c ∈ l) : 0 ≤ Lib.indexByte l c := by
  have h1 := Lib.indexByte_ge l c
  rcases Int.lt_or_le (Lib.indexByte l c) 0 with h2 | h2
  · have h3 : Lib.indexByte l c = -1 := by omega
    obtain ⟨k, hk, e⟩ := List.getElem_of_mem h
    have q : l[k]? = some c := List.getElem?_eq_some_iff.2 ⟨hk, e⟩
    exact absurd q (Lib.indexByte_none h3 k)
  · exact h2
/-- The bytes behind a put, from its place on. -/
theorem put_by {ms cs ps : List (Nat × Int)} {bs a : Nat} {s : ByteArray} {asked : Int} (hf : FitG ms cs ps bs) (hw : Words cs) (hrc : ∀ y ∈ cs, y.1 < 18446744073709551616) (hfew : cs.length + 2 * s.size ≤ 65534) (ha : a < 4294967296) (h : (ffN ps a s.size asked).1 = 0) (m : Nat) (hm : m ≤ s.size) :
    byL (chL cs ps bs a s asked) (bs + a) m = s.data.toList.take m := by
  have hp := put_put hf hw hrc hfew ha h
  have hsl : s.data.toList.length = s.size := Array.length_toList
  refine List.ext_getElem (by rw [byL_length, List.length_take, hsl]; omega) (fun i h1 h2 => ?_)
  rw [byL_length] at h1
  simp only [byL, List.getElem_map, List.getElem_range]
  rw [hp.pk, offP_full, if_pos (by omega), show bs + a + i - (bs + a) = i by omega]
  rw [List.getD_eq_getElem?_getD, List.getElem?_eq_getElem (by omega), List.getElem_take]
  simp
theorem txS_put {ms cs ps : List (Nat × Int)} {bs a : Nat} {s : ByteArray} (hf : FitG ms cs ps bs) (hw : Words cs) (hrc : ∀ y ∈ cs, y.1 < 18446744073709551616) (hfew : cs.length + 2 * s.size ≤ 65534) (ha : a < 4294967296) (h : (ffN ps a s.size 2).1 = 0) (n : Nat) (hn : n ≤ s.size) :
    (txS ms (chL cs ps bs a s 2) ps bs a n).data.toList = s.data.toList.take (txM ps a n) := by
  have hs := ((ffN_bytes ps a s.size 2).1 h)
  have hm := txM_le (ps := ps) (a := a) (n := n) (by omega)
  obtain ⟨f1, f2, f3, f4⟩ := put_fit (asked := 2) hf hw hrc hfew ha
  have h2 : (ffN ps a (txM ps a n) 2).1 = 0 := (ffN_bytes ps a _ 2).2 ⟨by omega, fun i hi => hs.2 i (by omega)⟩
  have e : rdL ms (chL cs ps bs a s 2) (pcM a (bs + a) (txM ps a n) (txM ps a n)) = byL (chL cs ps bs a s 2) (bs + a) (txM ps a n) := by
    rw [rdL_by ms _ f2 bs a _ (fit_host f1 ha (Or.inl rfl) h2) _ (Nat.le_refl _), offP_full]
  unfold txS
  rw [e, put_by hf hw hrc hfew ha h _ (by omega)]
theorem ffL_gk (ps : List (Nat × Int)) (asked : Int) : ∀ xs : List P3, (ffL ps asked xs).1 ≠ 0 → gk ps asked (ffL ps asked xs).2 = (ffL ps asked xs).1
  | [], h => by simp [ffL] at h
  | x :: t, h => by
    rw [ffL] at h ⊢
    split
    · rename_i c
      rw [if_pos c] at h
      exact ffL_gk ps asked t h
    · rfl
theorem ffN_gk {ps : List (Nat × Int)} {asked : Int} {a n : Nat} (hn : n ≤ 65536) (h : (ffN ps a n asked).1 ≠ 0) : gk ps asked (ffN ps a n asked).2 ≠ 0 := by
  have e : ffN ps a n asked = ffL ps asked (pcM a 0 n n) := by unfold ffN; rw [if_neg (by omega)]
  rw [e] at h ⊢
  rw [ffL_gk _ _ _ h]
  exact h
theorem and_one {x : Int} (h0 : 0 ≤ x) (h7 : x ≤ 7) (h : ¬ bits .and .i64 x 1 = 1) : bits .and .i64 x 1 = 0 := by
  have h8 : x = 0 ∨ x = 1 ∨ x = 2 ∨ x = 3 ∨ x = 4 ∨ x = 5 ∨ x = 6 ∨ x = 7 := by omega
  rcases h8 with rfl | rfl | rfl | rfl | rfl | rfl | rfl | rfl <;> first | rfl | exact absurd (by kernel_rfl) h
theorem protN_range {ms cs ps : List (Nat × Int)} {bs n : Nat} (hf : FitG ms cs ps bs) (h : 0 ≤ protN ps n) : protN ps n ≤ 7 := by
  unfold protN at h ⊢
  split at h
  · rename_i x hx
    exact (hf.pg x (List.mem_of_find?_eq_some hx)).2.2.1
  · simp at h
structure TxI (ms cs ps : List (Nat × Int)) (bs a : Nat) (s : ByteArray) (cs' : List (Nat × Int)) : Prop where
  hi : a + s.size < 4294967296
  no : (ffN ps a (s.size + 1) 1).1 ≠ 0 → txR ms cs' ps bs a (s.size + 1) = (⟨#[]⟩, ffN ps a (s.size + 1) 1, 0) ∧ (bits .and .i64 (protN ps (a / 4096)) 1 = 0 ∨ bits .and .i64 (protN ps ((a + s.size) / 4096)) 1 = 0)
  ok : (ffN ps a (s.size + 1) 1).1 = 0 → txR ms cs' ps bs a (s.size + 1) = (s, (0, 0), 0) ∧ (s.size ≠ 0 → txR ms cs' ps bs a s.size = (⟨#[]⟩, (0, 0), 36))
theorem text_back {ms cs ps : List (Nat × Int)} {bs a : Nat} {s s0 : ByteArray} (hf : FitG ms cs ps bs) (hw : Words cs) (hrc : ∀ y ∈ cs, y.1 < 18446744073709551616) (hfew : cs.length ≤ 100) (hs : s.size ≤ 200) (hs0 : s0.data.toList = s.data.toList ++ [0]) (ha : a < 4294967296) (h : (ffN ps a s0.size 2).1 = 0) (hno : (0 : UInt8) ∉ s.data.toList) :
    TxI ms cs ps bs a s (chL cs ps bs a s0 2) := by
  have hsl : s.data.toList.length = s.size := Array.length_toList
  have hsz : s0.size = s.size + 1 := by
    have : s0.data.toList.length = s0.size := Array.length_toList
    rw [← this, hs0, List.length_append, hsl]
    rfl
  have hfew2 : cs.length + 2 * s0.size ≤ 65534 := by omega
  have hb := (ffN_bytes ps a s0.size 2).1 h
  have hps : ∀ x ∈ ps, x.1 < 1048576 := fun x hx => (hf.pg x hx).1
  have hhi : a + s.size < 4294967296 := by
    obtain ⟨x, hx, e⟩ := gk_page (hb.2 s.size (by omega))
    have := hps x hx
    omega
  refine ⟨hhi, fun h1 => ⟨?_, ?_⟩, fun h1 => ⟨?_, fun h0 => ?_⟩⟩
  · have hin := ffN_in (by omega) h1
    have hm : txM ps a (s.size + 1) ≤ s.size := by unfold txM; rw [if_neg h1]; omega
    have e := txS_put hf hw hrc hfew2 ha h (s.size + 1) (by omega)
    have e2 : firstIdx (txS ms (chL cs ps bs a s0 2) ps bs a (s.size + 1)) 0 = -1 := by
      rw [Lib.firstIdx_eq, e, hs0, List.take_append_of_le_length (by omega)]
      exact idx_no 0 _ (fun hc => hno (List.mem_of_mem_take hc))
    unfold txR
    rw [e2, if_neg (by decide), if_neg h1]
  · have hin := ffN_in (by omega) h1
    have hg := ffN_gk (by omega) h1
    have h2 := hb.2 ((ffN ps a (s.size + 1) 1).2 - a) (by omega)
    rw [show a + ((ffN ps a (s.size + 1) 1).2 - a) = (ffN ps a (s.size + 1) 1).2 by omega] at h2
    unfold gk at hg h2
    split at h2
    · simp at h2
    · rename_i c
      rw [if_neg c] at hg
      have hp : bits .and .i64 (protN ps ((ffN ps a (s.size + 1) 1).2 / 4096)) 1 = 0 := and_one (by omega) (protN_range hf (by omega)) (fun e => hg (by rw [if_pos e]))
      have hpg : (ffN ps a (s.size + 1) 1).2 / 4096 = a / 4096 ∨ (ffN ps a (s.size + 1) 1).2 / 4096 = (a + s.size) / 4096 := by omega
      rcases hpg with e | e
      · exact Or.inl (by rw [← e]; exact hp)
      · exact Or.inr (by rw [← e]; exact hp)
  · have hm : txM ps a (s.size + 1) = s.size + 1 := by unfold txM; rw [if_pos h1]
    have e := txS_put hf hw hrc hfew2 ha h (s.size + 1) (by omega)
    rw [hm, hs0, List.take_of_length_le (by rw [List.length_append, hsl]; simp)] at e
    have e2 : firstIdx (txS ms (chL cs ps bs a s0 2) ps bs a (s.size + 1)) 0 = (s.size : Int) := by
      rw [Lib.firstIdx_eq, e, idx_end 0 _ hno, hsl]
    unfold txR
    rw [e2, if_pos (by omega), Int.toNat_natCast]
    have e3 : (txS ms (chL cs ps bs a s0 2) ps bs a (s.size + 1)).extract 0 s.size = s := by
      apply ByteArray.ext
      apply Array.toList_inj.1
      rw [ByteArray.data_extract, Array.toList_extract, e]
      simp [List.extract, hsl]
    rw [e3]
  · have hb1 := (ffN_bytes ps a (s.size + 1) 1).1 h1
    have h3 : (ffN ps a s.size 1).1 = 0 := (ffN_bytes ps a s.size 1).2 ⟨by omega, fun i hi => hb1.2 i (by omega)⟩
    have hm : txM ps a s.size = s.size := by unfold txM; rw [if_pos h3]
    have e := txS_put hf hw hrc hfew2 ha h s.size (by omega)
    rw [hm, hs0, List.take_append_of_le_length (by omega), List.take_of_length_le (by omega)] at e
    have e2 : firstIdx (txS ms (chL cs ps bs a s0 2) ps bs a s.size) 0 = -1 := by
      rw [Lib.firstIdx_eq, e]
      exact idx_no 0 _ hno
    unfold txR
    rw [e2, if_neg (by decide), if_pos h3]
theorem str_ne {a b : ByteArray} (h : ¬ a = b) : (a.data.toList == b.toList) = false := by
  rw [ByteArray.toList_eq]
  simp only [beq_eq_false_iff_ne, ne_eq]
  intro e
  exact h (ByteArray.ext (Array.toList_inj.1 e))
/-- strings.Contains of one byte 0. -/
theorem index74 (s : ByteArray) (w : World) : Calls Try.prog 74 #[.string s, .string ⟨#[0]⟩] w fun e w' => e = .returned (.int .i64 (firstIdx s 0)) ∧ w' = w := by
  by_cases he : (⟨#[0]⟩ : ByteArray) = s
  · subst he
    go_enter Try.func74, Try.ntmps74
    go_wp2
    go_ret
    exact ⟨by kernel_rfl, rfl⟩
  · have he2 : ([0] == s.toList) = false := str_ne he
    have K := index66 s w
    go_enter Try.func74, Try.ntmps74
    go_wp2_with fail
    refine K.mono ?_
    rintro e wz ⟨rfl, rfl⟩
    go_wp2
    go_ret
    exact ⟨rfl, rfl⟩
theorem index53 (s : ByteArray) (w : World) : Calls Try.prog 53 #[.string s, .string ⟨#[0]⟩] w fun e w' => e = .returned (.int .i64 (firstIdx s 0)) ∧ w' = w := by
  have K := index74 s w
  go_enter Try.func53, Try.ntmps53
  go_wp2_with fail
  refine K.mono ?_
  rintro e wz ⟨rfl, rfl⟩
  go_wp2
  go_ret
  exact ⟨rfl, rfl⟩
theorem contains28 (s : ByteArray) (w : World) : Calls Try.prog 28 #[.string s, .string ⟨#[0]⟩] w fun e w' => e = .returned (.bool (decide (0 ≤ firstIdx s 0))) ∧ w' = w := by
  have K := index53 s w
  go_enter Try.func28, Try.ntmps28
  go_wp2_with fail
  refine K.mono ?_
  rintro e wz ⟨rfl, rfl⟩
  go_wp2
  go_ret
  exact ⟨rfl, rfl⟩
set_option maxHeartbeats 2000000 in
theorem texts_walk (vm vc vp : Value) (ms cs ps : List (Nat × Int)) (bs a : Nat) (s : ByteArray) (w : World) (hsl : SlG w vm vc vp ms cs ps) (hrc : ∀ y ∈ cs, y.1 < 18446744073709551616) (hw : Words cs) (hbs : bs < 18446744073709551616) (ha : a < 4294967296) (hss : s.size < 9223372036854775808) :
    Calls Try.prog 7 #[.agg #[vm, vc, .int .u64 (bs : Int), vp], .int .u32 (a : Int), .string s] w fun e w' => e = .returned (.bool true) ∧ Below w.heap.size w w' := by
  obtain ⟨am, pm, rfl, _⟩ := id hsl.1
  obtain ⟨ac, pc, rfl, _⟩ := id hsl.2.1
  obtain ⟨ap, pp, rfl, _⟩ := id hsl.2.2
  obtain ⟨nm, hnm⟩ : ∃ z, z = ms.length := ⟨_, rfl⟩
  obtain ⟨nc, hnc⟩ : ∃ z, z = cs.length := ⟨_, rfl⟩
  obtain ⟨np, hnp⟩ : ∃ z, z = ps.length := ⟨_, rfl⟩
  rw [← hnm, ← hnc, ← hnp] at hsl ⊢
  have HNP : Hid (np = ps.length) := hnp
  clear hnm hnc hnp
  obtain ⟨nG, hnG⟩ : ∃ z, w.heap.size = z := ⟨_, rfl⟩
  obtain ⟨W, hW⟩ : ∃ z, w.alloc (.cells #[.slice am nm pm, .slice ac nc pc, .int .u64 (bs : Int), .slice ap np pp] 29) = z := ⟨_, rfl⟩
  have D0 : B4 W nG 29 (.slice am nm pm) (.slice ac nc pc) (.int .u64 (bs : Int)) (.slice ap np pp) := by rw [← hW, ← hnG]; exact B4.new w 29 _ _ _ _
  have hb : Below w.heap.size w W := by rw [← hW]; exact (Below.refl _ _).alloc (Nat.le_refl _) _
  have K8 := gfew8 _ _ _ ms cs ps bs W (hsl.keep hb) hrc hbs
  obtain ⟨c0, c1, c2, c3⟩ := D0.cells
  cases hfw : fewB ms cs ps bs with
  | false =>
    rw [hfw] at K8
    have HB : Hid (Below w.heap.size w W) := hb
    clear hsl hb hfw
    go_enter Try.func7, Try.ntmps7
    go_wp2_with fail
    refine K8.mono ?_
    rintro e w1 ⟨rfl, hb1⟩
    go_wp2_with fail
    refine (awake9 w1).mono ?_
    rintro e wz ⟨rfl, hbz⟩
    go_wp2
    go_ret
    exact ⟨rfl, below_tr HB.out (below_tr hb1 hbz)⟩
  | true =>
  rw [hfw] at K8
  by_cases hlen : 200 < s.size
  · have HB : Hid (Below w.heap.size w W) := hb
    have hl3 : (200 : Int) < (s.size : Int) := by omega
    clear hsl hb hfw
    go_enter Try.func7, Try.ntmps7
    go_wp2_with fail
    refine K8.mono ?_
    rintro e w1 ⟨rfl, hb1⟩
    go_wp2_with fail
    refine (awake9 w1).mono ?_
    rintro e wz ⟨rfl, hbz⟩
    go_wp2
    go_ret
    exact ⟨rfl, below_tr HB.out (below_tr hb1 hbz)⟩
  have hl3 : (s.size : Int) ≤ 200 := by omega
  have K28 : Hid (∀ w', Calls Try.prog 28 #[.string s, .string ⟨#[0]⟩] w' fun e w'' => e = .returned (.bool (decide (0 ≤ firstIdx s 0))) ∧ w'' = w') := fun w' => contains28 s w'
  by_cases hzero : (0 : UInt8) ∈ s.data.toList
  · rw [show decide (0 ≤ firstIdx s 0) = true from decide_eq_true (by rw [Lib.firstIdx_eq]; exact idx_in 0 _ hzero)] at K28
    have HB : Hid (Below w.heap.size w W) := hb
    clear hsl hb hfw
    go_enter Try.func7, Try.ntmps7
    go_wp2_with fail
    refine K8.mono ?_
    rintro e w1 ⟨rfl, hb1⟩
    go_wp2_with fail
    refine (K28.out w1).mono ?_
    rintro e w1' ⟨rfl, rfl⟩
    go_wp2_with fail
    refine (awake9 _).mono ?_
    rintro e wz ⟨rfl, hbz⟩
    go_wp2
    go_ret
    exact ⟨rfl, below_tr HB.out (below_tr hb1 hbz)⟩
  rw [show decide (0 ≤ firstIdx s 0) = false from decide_eq_false (by rw [Lib.firstIdx_eq, idx_no 0 _ hzero]; decide)] at K28
  have hfq : FitG ms cs ps bs := by
    unfold fewB at hfw
    rw [Bool.and_eq_true] at hfw
    exact of_fitGB hfw.2
  have hnc1 : cs.length ≤ 100 := by
    unfold fewB at hfw
    rw [Bool.and_eq_true] at hfw
    have := hfw.1
    simp at this
    omega
  obtain ⟨s0, hs0⟩ : ∃ z : ByteArray, z = s ++ ⟨#[0]⟩ := ⟨_, rfl⟩
  have hs0l : s0.data.toList = s.data.toList ++ [0] := by rw [hs0]; simp
  have hsz : s0.size = s.size + 1 := by
    have h1 : s0.data.toList.length = s0.size := Array.length_toList
    have h2 : s.data.toList.length = s.size := Array.length_toList
    rw [← h1, hs0l, List.length_append, h2]
    rfl
  have hcat : ∀ w' : World, (Op.stringOp .add s ⟨#[0]⟩).run Try.prog w' = .ok (.string s0) w' := fun w' => by
    rw [hs0]
    refine run_string_add_sum w' _ _ ?_
    show s.size + 1 ≤ _
    omega
  have hfew2 : cs.length + 2 * s0.size ≤ 65534 := by omega
  obtain ⟨F1, F2, F3, F4⟩ := put_fit (asked := 2) (s := s0) hfq hw hrc hfew2 ha
  obtain ⟨cs', hcs'⟩ : ∃ z, z = chL cs ps bs a s0 2 := ⟨_, rfl⟩
  obtain ⟨k1, hk1⟩ : ∃ z, z = (ffN ps a s0.size 2).1 := ⟨_, rfl⟩
  obtain ⟨x1, hx1⟩ : ∃ z, z = (ffN ps a s0.size 2).2 := ⟨_, rfl⟩
  rw [← hcs'] at F1 F2 F3 F4
  have HG : Hid (∀ w', Below W.heap.size W w' → GdM w' (.slice am nm pm) (.slice ac nc pc) (.slice ap np pp) ms cs ps bs) := fun w' hb' => by
    have h := hsl.keep (below_tr hb hb')
    have l1 := hfq.fq.1
    have l2 := hfq.fq.2.1
    have l3 := hfq.lp
    exact ⟨h.1, h.2.1, h.2.2, hfq.fq.2.2.1, hfq.fq.2.2.2.1, hfq.sp, by omega, by omega, by omega, hw, hfq.le⟩
  have K18 : Hid (∀ w', Below W.heap.size W w' → Calls Try.prog 18 #[.agg #[.slice am nm pm, .slice ac nc pc, .int .u64 (bs : Int), .slice ap np pp], .int .u32 (a : Int), .string s0] w' fun e w'' => ∃ am' nm' pm' ac' nc' pc' ap' pp', e = .returned (.tuple #[.agg #[.slice am' nm' pm', .slice ac' nc' pc', .int .u64 (bs : Int), .slice ap' np pp'], .agg #[.int .i64 k1, .int .u64 (x1 : Int)]]) ∧ SlG w'' (.slice am' nm' pm') (.slice ac' nc' pc') (.slice ap' np pp') ms cs' ps ∧ Below w'.heap.size w' w'') := fun w' hb' => by
    refine (gput18 _ _ _ bs a s0 ms cs ps w' (HG.out w' hb') ha (by omega) (by have := hfq.al; omega) (fun y hy => (hfq.fq.2.2.2.2.2 y hy).1) (by omega) (fun h => fit_host hfq ha (Or.inr rfl) h)).mono ?_
    rintro e w'' ⟨vm', vc', vp', rfl, ho, hbb⟩
    have hs2 := ho.sl
    obtain ⟨am', pm', rfl, _⟩ := id hs2.1
    obtain ⟨ac', pc', rfl, _⟩ := id hs2.2.1
    obtain ⟨ap', pp', rfl, _⟩ := id hs2.2.2
    refine ⟨am', ms.length, pm', ac', (chL cs ps bs a s0 2).length, pc', ap', pp', ?_, ?_, hbb⟩
    · rw [hk1, hx1, HNP.out]
    · rw [HNP.out, hcs']; exact hs2
  have HT : Hid (k1 = 0 → TxI ms cs ps bs a s cs') := fun h0 => by
    rw [hk1] at h0
    rw [hcs']
    exact text_back hfq hw hrc hnc1 (by omega) hs0l ha h0 hzero
  have HB : Hid (Below w.heap.size w W) := hb
  have HK16 : Hid (∀ (most : Int) w' am' nm' pm' ac' nc' pc' ap' pp', SlG w' (.slice am' nm' pm') (.slice ac' nc' pc') (.slice ap' np pp') ms cs' ps → Calls Try.prog 16 #[.agg #[.slice am' nm' pm', .slice ac' nc' pc', .int .u64 (bs : Int), .slice ap' np pp'], .int .u32 (a : Int), .int .i64 most] w' fun e w'' => e = .returned (.tuple #[.string (txR ms cs' ps bs a (txN most)).1, .agg #[.int .i64 (txR ms cs' ps bs a (txN most)).2.1.1, .int .u64 ((txR ms cs' ps bs a (txN most)).2.1.2 : Int)], .int .i64 (txR ms cs' ps bs a (txN most)).2.2]) ∧ Below w'.heap.size w' w'') := fun most w' am' nm' pm' ac' nc' pc' ap' pp' hs => by
    have l1 := F1.fq.1
    have l2 := F1.fq.2.1
    have l3 := F1.lp
    exact gtext16 _ _ _ bs a most ms cs' ps w' ⟨hs.1, hs.2.1, hs.2.2, F1.fq.2.2.1, F1.fq.2.2.2.1, F1.sp, by omega, by omega, by omega, F2, F1.le⟩ ha
  clear hk1 hx1 hcs' F1 F2 F3 F4 hfew2 hnc1 hfq hfw hlen hsl hb hrc hw HG hs0 hs0l hsz hzero
  go_enter Try.func7, Try.ntmps7
  go_wp2_with fail
  refine K8.mono ?_
  rintro e w1 ⟨rfl, hb1⟩
  clear K8
  go_wp2_with fail
  refine (K28.out w1).mono ?_
  rintro e w1' ⟨rfl, rfl⟩
  clear K28
  have D0 := D0.keep hb1
  obtain ⟨c0, c1, c2, c3⟩ := D0.cells
  have R1 := K18.out w1' hb1
  go_wp2_with fail
  refine R1.mono ?_
  rintro e w2 ⟨am', nm', pm', ac', nc', pc', ap', pp', rfl, hs2, hb2⟩
  clear R1 K18
  obtain ⟨Wa, Wb, Wc, W3, nF, hWa, hWb, hnF, hWc, hW3, ⟨qa1, qa2, qa3, qa4, qf1, qf2, qf3, qf4⟩, ⟨qb1, qb2, qb3, qb4⟩, D1, G1, bb2⟩ := newGF w2 (.slice am' nm' pm') (.slice ac' nc' pc') (.int .u64 (bs : Int)) (.slice ap' np pp') (.int .i64 k1) (.int .u64 (x1 : Int))
  have hs3 := hs2.keep bb2
  have t3 := below_tr hb1 (below_tr hb2 bb2)
  obtain ⟨u0, u1, u2, u3⟩ := D1.cells
  have g1 := G1.c0
  clear hb1 hb2 bb2 hs2 D0 c0 c1 c2 c3
  by_cases hz : k1 = 0
  case neg =>
    have hz1 : (k1 != 0) = true := by simp [hz]
    clear HT HK16
    go_wp2_with fail
    refine (awake9 _).mono ?_
    rintro e wz ⟨rfl, hbz⟩
    go_wp2
    go_ret
    exact ⟨rfl, below_tr HB.out (below_tr t3 hbz)⟩
  subst hz
  have HTX : Hid _ := HT.out rfl
  clear HT
  have hn1 : txN (s.size : Int) = s.size + 1 := by unfold txN; omega
  have R16 := HK16.out (s.size : Int) W3 _ _ _ _ _ _ _ _ hs3
  rw [hn1] at R16
  by_cases hj : (ffN ps a (s.size + 1) 1).1 = 0
  · obtain ⟨e1, e2⟩ := HTX.out.ok hj
    rw [e1] at R16
    simp only at R16
    clear hj e1
    go_wp2_with fail
    refine R16.mono ?_
    rintro e w4 ⟨rfl, hb4⟩
    clear R16
    obtain ⟨Wa5, W5, hWa5, hW5, ⟨qa5, qb5, qc5, qd5⟩, G5, bb5⟩ := newF w4 (.int .i64 0) (.int .u64 0)
    have D1 := (D1.keep hb4).keep bb5
    have hs5 := (hs3.keep hb4).keep bb5
    have g5 := G5.c0
    have t5 := below_tr t3 (below_tr hb4 bb5)
    clear hb4 bb5 hs3
    obtain ⟨u0, u1, u2, u3⟩ := D1.cells
    have hw1 : wrap64 ((s.size : Int) - 1) = (s.size : Int) - 1 := by unfold wrap64; omega
    have R17 := HK16.out ((s.size : Int) - 1) W5 _ _ _ _ _ _ _ _ hs5
    by_cases hs0 : s.size = 0
    · obtain rfl : s = ⟨#[]⟩ := by
        apply ByteArray.ext
        apply Array.toList_inj.1
        have h2 : s.data.toList.length = s.size := Array.length_toList
        rw [hs0] at h2
        simpa using List.length_eq_zero_iff.1 h2
      obtain ⟨R, hR⟩ : ∃ R, R = txR ms cs' ps bs a (txN (((⟨#[]⟩ : ByteArray).size : Int) - 1)) := ⟨_, rfl⟩
      rw [← hR] at R17
      obtain ⟨T, ⟨fk, fa⟩, fe⟩ := R
      simp only at R17
      clear HK16 e2 hR
      go_wp2_with fail
      refine R17.mono ?_
      rintro e w6 ⟨rfl, hb6⟩
      clear R17
      obtain ⟨Wa7, W7, hWa7, hW7, ⟨qa7, qb7, qc7, qd7⟩, G7, bb7⟩ := newF w6 (.int .i64 fk) (.int .u64 (fa : Int))
      have t7 := below_tr t5 (below_tr hb6 bb7)
      go_wp2_with fail
      refine (awake9 _).mono ?_
      rintro e wz ⟨rfl, hbz⟩
      go_wp2
      go_ret
      exact ⟨rfl, below_tr HB.out (below_tr t7 hbz)⟩
    · have hn2 : txN ((s.size : Int) - 1) = s.size := by unfold txN; omega
      rw [hn2, e2 hs0] at R17
      try simp only at R17
      have hne : ¬ s.toList = [] := by
        rw [ByteArray.toList_eq]
        intro e
        have h2 : s.data.toList.length = s.size := Array.length_toList
        rw [e] at h2
        exact hs0 h2.symm
      have hse : (s.toList == []) = false := by simpa using hne
      have hse2 : (s.toList = []) = False := by simpa using hne
      have hse3 : s.toList.isEmpty = false := by simpa using hne
      clear HK16 e2
      go_wp2_with fail
      refine R17.mono ?_
      rintro e w6 ⟨rfl, hb6⟩
      clear R17
      obtain ⟨Wa7, W7, hWa7, hW7, ⟨qa7, qb7, qc7, qd7⟩, G7, bb7⟩ := newF w6 (.int .i64 0) (.int .u64 0)
      have g7 := G7.c0
      have t7 := below_tr t5 (below_tr hb6 bb7)
      go_wp2_with fail
      refine (awake9 _).mono ?_
      rintro e wz ⟨rfl, hbz⟩
      go_wp2
      go_ret
      exact ⟨rfl, below_tr HB.out (below_tr t7 hbz)⟩
  · obtain ⟨e1, e2⟩ := HTX.out.no hj
    have hhi := HTX.out.hi
    rw [e1] at R16
    obtain ⟨fk, hfk⟩ : ∃ z, z = (ffN ps a (s.size + 1) 1).1 := ⟨_, rfl⟩
    obtain ⟨fa, hfa⟩ : ∃ z, z = (ffN ps a (s.size + 1) 1).2 := ⟨_, rfl⟩
    simp only [← hfk, ← hfa] at R16 hj
    have hj1 : (fk != 0) = true := by simp [hj]
    obtain ⟨q0, hq0⟩ : ∃ z, z = a / 4096 := ⟨_, rfl⟩
    obtain ⟨q1, hq1⟩ : ∃ z, z = (a + s.size) / 4096 := ⟨_, rfl⟩
    obtain ⟨p0, hp0⟩ : ∃ z, z = protN ps q0 := ⟨_, rfl⟩
    obtain ⟨p1, hp1⟩ : ∃ z, z = protN ps q1 := ⟨_, rfl⟩
    have wq0 : (a : Int) / 4096 = (q0 : Int) := by omega
    have wq0' : (a : Int).tdiv 4096 = (q0 : Int) := by rw [Int.tdiv_eq_ediv_of_nonneg (by omega)]; omega
    have wcv : IntKind.u32.wrap (s.size : Int) = (s.size : Int) := by rw [IntKind.wrap_u32]; omega
    have wsm : IntKind.u32.wrap ((a : Int) + (s.size : Int)) = ((a + s.size : Nat) : Int) := by rw [IntKind.wrap_u32]; omega
    have wq1 : ((a + s.size : Nat) : Int) / 4096 = (q1 : Int) := by omega
    have wq1' : ((a : Int) + (s.size : Int)) / 4096 = (q1 : Int) := by omega
    have wq1'' : ((a : Int) + (s.size : Int)).tdiv 4096 = (q1 : Int) := by rw [Int.tdiv_eq_ediv_of_nonneg (by omega)]; omega
    rw [← hq0, ← hq1, ← hp0, ← hp1] at e2
    have KP : Hid (∀ w', SlG w' (.slice am' nm' pm') (.slice ac' nc' pc') (.slice ap' np pp') ms cs' ps → (Calls Try.prog 29 #[.agg #[.slice am' nm' pm', .slice ac' nc' pc', .int .u64 (bs : Int), .slice ap' np pp'], .int .u32 (q0 : Int)] w' fun e w'' => e = .returned (.int .i64 p0) ∧ Below w'.heap.size w' w'') ∧ (Calls Try.prog 29 #[.agg #[.slice am' nm' pm', .slice ac' nc' pc', .int .u64 (bs : Int), .slice ap' np pp'], .int .u32 (q1 : Int)] w' fun e w'' => e = .returned (.int .i64 p1) ∧ Below w'.heap.size w' w'')) := fun w' hs => by
      rw [hp0, hp1]
      exact ⟨rprot15 _ _ _ bs q0 ps w' ⟨_, _, _, rfl⟩ ⟨_, _, _, rfl⟩ hs.2.2, rprot15 _ _ _ bs q1 ps w' ⟨_, _, _, rfl⟩ ⟨_, _, _, rfl⟩ hs.2.2⟩
    clear HK16 HTX hfk hfa hq0 hq1 hp0 hp1 e1 hj
    go_wp2_with fail
    refine R16.mono ?_
    rintro e w4 ⟨rfl, hb4⟩
    clear R16
    obtain ⟨Wa5, W5, hWa5, hW5, ⟨qa5, qb5, qc5, qd5⟩, G5, bb5⟩ := newF w4 (.int .i64 fk) (.int .u64 (fa : Int))
    have D1 := (D1.keep hb4).keep bb5
    have hs5 := (hs3.keep hb4).keep bb5
    have g5 := G5.c0
    have t5 := below_tr t3 (below_tr hb4 bb5)
    clear hb4 bb5 hs3
    obtain ⟨u0, u1, u2, u3⟩ := D1.cells
    have K0 := (KP.out W5 hs5).1
    go_wp2_with fail
    refine K0.mono ?_
    rintro e w6 ⟨rfl, hb6⟩
    clear K0
    by_cases hz0 : bits .and .i64 p0 1 = 0
    · go_wp2
      go_ret
      exact ⟨rfl, below_tr HB.out (below_tr t5 hb6)⟩
    · have hz1 := e2.resolve_left hz0
      have hz2 : (bits .and .i64 p0 1 == 0) = false := by simpa using hz0
      have hz3 : (bits .and .i64 p0 1 = 0) = False := by simpa using hz0
      have D1 := D1.keep hb6
      obtain ⟨u0, u1, u2, u3⟩ := D1.cells
      have K1 := (KP.out w6 (hs5.keep hb6)).2
      clear hz0 e2 KP
      go_wp2_with fail
      refine K1.mono ?_
      rintro e w7 ⟨rfl, hb7⟩
      go_wp2
      go_ret
      exact ⟨rfl, below_tr HB.out (below_tr t5 (below_tr hb6 hb7))⟩
end Go.Proofs.Ytdhjmghfiodifaa
