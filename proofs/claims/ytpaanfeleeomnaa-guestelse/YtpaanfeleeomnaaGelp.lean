/- What is proved here: what is out of a guest's reach stays, in plain words. -/
import Derived.Test.YtpaanfeleeomnaaGfar
import Derived.Test.YtpaanfeleeomnaaGagp
import Derived.Test.YtpaanfeleeomnaaGmap2
namespace Go.Proofs.Ytpaanfeleeomnaa
open Go.RowKit
set_option linter.unusedVariables false
set_option linter.unusedSimpArgs false
set_option maxRecDepth 100000
theorem cut_sub {xs : List (Nat × Int)} (hs : Srt xs) {a b : Nat} (hab : a ≤ b) : (lo xs a ++ hi xs b).Sublist xs := by
  conv => rhs; rw [parts xs hs a b hab]
  exact List.Sublist.append (List.sublist_append_left _ _) (List.Sublist.refl _)
theorem rF_sub {ps : List (Nat × Int)} {bs : Nat} : ∀ (ks : List K4) (h : List (Nat × Int) × List (Nat × Int)), Srt h.1 → Srt h.2 → (rF ps bs h ks).1.Sublist h.1 ∧ (rF ps bs h ks).2.Sublist h.2
  | [], h, _, _ => ⟨List.Sublist.refl _, List.Sublist.refl _⟩
  | k :: ks, h, h1, h2 => by
    have ih := rF_sub (ps := ps) (bs := bs) ks (stepR ps bs h k) (stepR_srt k h1 h2).1 (stepR_srt k h1 h2).2
    have st : (stepR ps bs h k).1.Sublist h.1 ∧ (stepR ps bs h k).2.Sublist h.2 := by
      unfold stepR
      split
      · exact ⟨List.Sublist.refl _, List.Sublist.refl _⟩
      · exact ⟨cut_sub h1 (by omega), cut_sub h2 (by omega)⟩
    exact ⟨ih.1.trans st.1, ih.2.trans st.2⟩
theorem far_hp {bs : Nat} (h : bs % 16384 = 0) (k : K4) : farP bs (hp bs k.val) = false := by
  have := k.isLt
  show (!decide (bs ≤ (bs / 16384 + k.val) * 16384 ∧ (bs / 16384 + k.val) * 16384 - bs < 4294967296)) = false
  rw [decide_eq_true (by omega)]; rfl
theorem far_cell {bs : Nat} (h : bs % 16384 = 0) (k : K4) (p : Nat) (e : p / 16384 = hp bs k.val) : farC bs p = false := by
  have := k.isLt
  unfold hp at e
  simp [farC, inB]
  omega
theorem clearN_key {cs : List (Nat × Int)} {a n : Nat} {y : Nat × Int} (h : y ∈ clearN cs a n) : ∃ x ∈ cs, y.1 = x.1 := by
  unfold clearN at h
  split at h
  · exact ⟨y, h, rfl⟩
  · rcases List.mem_append.1 h with g | g
    · rcases List.mem_append.1 g with g | g
      · exact ⟨y, (lo_mem.1 g).1, rfl⟩
      · obtain ⟨x, hx, e, _⟩ := clears_mem g
        exact ⟨x, (mid_mem.1 hx).1, by rw [e]⟩
    · exact ⟨y, (hi_mem.1 g).1, rfl⟩
theorem far_clear {cs : List (Nat × Int)} {bs first n : Nat} (hs : Srt cs) (hal : bs % 16384 = 0) (hle : bs ≤ 4611686018427387904) (hn : n ≠ 0) (hb : first + n ≤ 1048576) : by_ (farC bs) (clearN cs (bs + first * 4096) (n * 4096)) = by_ (farC bs) cs := by
  have e1 : cellOf (bs + first * 4096) = bs + first * 4096 := by unfold cellOf; omega
  have e2 : lastOf (bs + first * 4096) (n * 4096) = bs + first * 4096 + (n * 4096 - 1) := by unfold lastOf; omega
  unfold clearN
  rw [if_neg (by omega), e1, e2]
  refine by_mid hs (by omega) (fun p h1 h2 => by simp [farC, inB]; omega) (fun y hy => ?_)
  obtain ⟨x, hx, e, _⟩ := clears_mem hy
  obtain ⟨_, h1, h2⟩ := mid_mem.1 hx
  rw [e]
  simp [farC, inB]
  omega
/-- Two memories of the host that are the same out of a guest's reach; the second is small enough to be read. -/
def ElF (bs : Nat) (ms cs ms' cs' : List (Nat × Int)) : Prop := ms'.length ≤ 64 ∧ cs'.length ≤ 65536 ∧ (∀ x ∈ ms', x.1 < 1125899906842624) ∧ (∀ y ∈ cs', y.1 < 18446744073709551616) ∧ by_ (farP bs) ms' = by_ (farP bs) ms ∧ by_ (farC bs) cs' = by_ (farC bs) cs
theorem elF_same {ms cs ps : List (Nat × Int)} {bs : Nat} (h : FitG ms cs ps bs) (hrc : ∀ y ∈ cs, y.1 < 18446744073709551616) : ElF bs ms cs ms cs := ⟨h.fq.1, h.fq.2.1, fun x hx => (h.fq.2.2.2.2.1 x hx).1, hrc, rfl, rfl⟩
theorem elF_map {ms cs ps : List (Nat × Int)} {bs first n : Nat} {prot : Int} (h : FitG ms cs ps bs) (hw : Words cs) (hrc : ∀ y ∈ cs, y.1 < 18446744073709551616) (hn : n ≠ 0) (hb : first + n ≤ 1048576) (hl : (msF ps bs ms (ksM (added first prot n) n)).length ≤ 64) :
    ElF bs ms cs (msF ps bs ms (ksM (added first prot n) n)) (clearN cs (bs + first * 4096) (n * 4096)) := by
  have hF := fit_maps (prot := prot) h.reach h.le h.fq hb hl
  have hC := fit_clear h.fq hw hrc (bs + first * 4096) (n * 4096) (by have := h.le; omega)
  refine ⟨hl, hC.1.2.1, fun x hx => (hF.2.2.2.2.1 x hx).1, fun y hy => ?_, msF_by _ _ h.fq.2.2.1 (fun k _ _ => far_hp h.al k), far_clear h.fq.2.2.2.1 h.al h.le hn hb⟩
  obtain ⟨x, hx, e⟩ := clearN_key hy
  rw [e]; exact hrc x hx
theorem elF_unmap {ms cs ps qs : List (Nat × Int)} {bs first n : Nat} (h : FitG ms cs ps bs) (hw : Words cs) (hrc : ∀ y ∈ cs, y.1 < 18446744073709551616) (hn : n ≠ 0) (hb : first + n ≤ 1048576) (ks : List K4) :
    ElF bs ms cs (rF qs bs (ms, clearN cs (bs + first * 4096) (n * 4096)) ks).1 (rF qs bs (ms, clearN cs (bs + first * 4096) (n * 4096)) ks).2 := by
  have hC := fit_clear h.fq hw hrc (bs + first * 4096) (n * 4096) (by have := h.le; omega)
  obtain ⟨s1, s2⟩ := rF_sub (ps := qs) (bs := bs) ks (ms, clearN cs (bs + first * 4096) (n * 4096)) h.fq.2.2.1 hC.1.2.2.2.1
  obtain ⟨r1, r2⟩ := rF_by (ps := qs) (bs := bs) (Q := farP bs) (Q' := farC bs) ks (ms, clearN cs (bs + first * 4096) (n * 4096)) h.fq.2.2.1 hC.1.2.2.2.1 (fun k _ _ => far_hp h.al k) (fun k _ _ p e => far_cell h.al k p e)
  refine ⟨Nat.le_trans s1.length_le h.fq.1, Nat.le_trans s2.length_le hC.1.2.1, fun x hx => (h.fq.2.2.2.2.1 x (s1.subset hx)).1, fun y hy => ?_, r1, r2.trans (far_clear h.fq.2.2.2.1 h.al h.le hn hb)⟩
  obtain ⟨x, hx, e⟩ := clearN_key (s2.subset hy)
  rw [e]; exact hrc x hx
/-- What Map, Unmap and Protect tell, as far as it is asked here. -/
def ElR (ms cs : List (Nat × Int)) (bs : Nat) (w : World) (e : Ending) (w' : World) : Prop := ∃ am nm pm ac nc pc ap np pp code ms' cs' ps', e = .returned (.tuple #[.agg #[.slice am nm pm, .slice ac nc pc, .int .u64 (bs : Int), .slice ap np pp], .int .i64 code]) ∧ OwnG w.heap.size w' (.slice am nm pm) (.slice ac nc pc) (.slice ap np pp) ms' cs' ps' ∧ Below w.heap.size w w' ∧ ElF bs ms cs ms' cs'
theorem elR_of {ms cs ms' cs' ps' : List (Nat × Int)} {bs : Nat} {w : World} {F : Nat} {args : Array Value} {c : Int} (he : ElF bs ms cs ms' cs') (k : Calls Try.prog F args w fun e w' => ∃ vm' vc' vp', e = .returned (.tuple #[.agg #[vm', vc', .int .u64 (bs : Int), vp'], .int .i64 c]) ∧ OwnG w.heap.size w' vm' vc' vp' ms' cs' ps' ∧ Below w.heap.size w w') : Calls Try.prog F args w (ElR ms cs bs w) :=
  k.mono (fun e w' ⟨vm', vc', vp', he', ho, hb⟩ => by
    obtain ⟨am, nm, pm, ac, nc, pc, rfl, rfl⟩ := ho.1.shape
    obtain ⟨ap, np, pp, rfl⟩ := own_shape ho.2
    exact ⟨_, _, _, _, _, _, _, _, _, c, _, _, _, he', ho, hb, he⟩)
theorem else18 (vm vc vp : Value) (ms cs ps : List (Nat × Int)) (bs first n : Nat) (prot : Int) (w : World) (hsl : SlG w vm vc vp ms cs ps) (hrc : ∀ y ∈ cs, y.1 < 18446744073709551616) (hw : Words cs) (h1 : first < 4294967296) (h2 : n < 4294967296) (hf : FitG ms cs ps bs) : Calls Try.prog 18 #[.agg #[vm, vc, .int .u64 (bs : Int), vp], .int .u32 (first : Int), .int .u32 (n : Int), .int .i64 prot] w (ElR ms cs bs w) := by
  have lm := hf.fq.1
  have lc := hf.fq.2.1
  have lp := hf.lp
  cases hp : (gpagesOk first n && protOk prot) with
  | false => exact elR_of (elF_same hf hrc) (gmap18_inval vm vc vp ms cs ps bs first n prot w hsl lm lc lp h1 h2 hp)
  | true =>
  have hp1 : gpagesOk first n = true ∧ protOk prot = true := by simpa using hp
  have hp2 : n ≠ 0 ∧ first + n ≤ 1048576 := by simpa [gpagesOk] using hp1.1
  by_cases hroom : ps.length - (mid ps first (first + n - 1)).length + n ≤ 256
  case neg => exact elR_of (elF_same hf hrc) (gmap18_mem vm vc vp ms cs ps bs first n prot w hsl lm lc lp h1 h2 hf.sp hf.fq hw hrc hf.le _ rfl hp (by omega) hf.reach)
  refine (gmap18 vm vc vp ms cs ps bs first n prot w hsl lm lc lp h1 h2 hf.sp hf.fq hw hrc hf.le _ rfl hp hroom hf.reach).mono (fun e w' k => ?_)
  rcases k with ⟨hl, vm', vc', vp', he, ho, hb⟩ | ⟨hl, vm', vc', vp', he, ho, hb⟩
  · obtain ⟨am, nm, pm, ac, nc, pc, rfl, rfl⟩ := ho.1.shape
    obtain ⟨ap, np, pp, rfl⟩ := own_shape ho.2
    exact ⟨_, _, _, _, _, _, _, _, _, 0, _, _, _, he, ho, hb, elF_map hf hw hrc hp2.1 hp2.2 hl⟩
  · obtain ⟨am, nm, pm, ac, nc, pc, rfl, rfl⟩ := ho.1.shape
    obtain ⟨ap, np, pp, rfl⟩ := own_shape ho.2
    exact ⟨_, _, _, _, _, _, _, _, _, 105, _, _, _, he, ho, hb, elF_same hf hrc⟩
theorem else20 (vm vc vp : Value) (ms cs ps : List (Nat × Int)) (bs first n : Nat) (prot : Int) (w : World) (hsl : SlG w vm vc vp ms cs ps) (hrc : ∀ y ∈ cs, y.1 < 18446744073709551616) (hw : Words cs) (h1 : first < 4294967296) (h2 : n < 4294967296) (hf : FitG ms cs ps bs) : Calls Try.prog 20 #[.agg #[vm, vc, .int .u64 (bs : Int), vp], .int .u32 (first : Int), .int .u32 (n : Int)] w (ElR ms cs bs w) := by
  have lm := hf.fq.1
  have lc := hf.fq.2.1
  have lp := hf.lp
  cases hp : gpagesOk first n with
  | false => exact elR_of (elF_same hf hrc) (gunmap20_inval vm vc vp ms cs ps bs first n w hsl lm lc lp h1 h2 hp)
  | true =>
  have hp2 : n ≠ 0 ∧ first + n ≤ 1048576 := by simpa [gpagesOk] using hp
  have hC := fit_clear hf.fq hw hrc (bs + first * 4096) (n * 4096) (by have := hf.le; omega)
  exact elR_of (elF_unmap hf hw hrc hp2.1 hp2.2 _) (gunmap20 vm vc vp ms cs ps bs first n w hsl lm lc lp h1 h2 hf.sp hf.fq hw hrc hf.le _ rfl (fun x hx => (hf.pg x hx).1) hC.1 hp)
theorem else22 (vm vc vp : Value) (ms cs ps : List (Nat × Int)) (bs first n : Nat) (prot : Int) (w : World) (hsl : SlG w vm vc vp ms cs ps) (hrc : ∀ y ∈ cs, y.1 < 18446744073709551616) (hw : Words cs) (h1 : first < 4294967296) (h2 : n < 4294967296) (hf : FitG ms cs ps bs) : Calls Try.prog 22 #[.agg #[vm, vc, .int .u64 (bs : Int), vp], .int .u32 (first : Int), .int .u32 (n : Int), .int .i64 prot] w (ElR ms cs bs w) := by
  have lm := hf.fq.1
  have lc := hf.fq.2.1
  have lp := hf.lp
  cases hp : (gpagesOk first n && protOk prot) with
  | false => exact elR_of (elF_same hf hrc) (gprotect22_inval vm vc vp ms cs ps bs first n prot w hsl lm lc lp h1 h2 hp)
  | true =>
  by_cases hno : (mid ps first (first + n - 1)).length = n
  · exact elR_of (elF_same hf hrc) (gprotect22_ok vm vc vp ms cs ps bs first n prot w hsl lm lc lp h1 h2 hf.sp _ rfl hno hp)
  · exact elR_of (elF_same hf hrc) (gprotect22_none vm vc vp ms cs ps bs first n prot w hsl lm lc lp h1 h2 hf.sp _ rfl hno hp)
end Go.Proofs.Ytpaanfeleeomnaa
