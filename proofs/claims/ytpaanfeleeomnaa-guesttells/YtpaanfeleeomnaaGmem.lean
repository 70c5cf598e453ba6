/- What is proved here: the worker adds no pages where they are too many. -/
import Derived.Test.YtpaanfeleeomnaaGadd
namespace Go.Proofs.Ytpaanfeleeomnaa
open Go.RowKit Go.Shelf
set_option linter.unusedVariables false
set_option linter.unusedSimpArgs false
set_option maxRecDepth 100000
attribute [local go_sem] Oper.semAt_some
set_option maxHeartbeats 4000000 in
theorem gadd41_mem (B wb first n bs a m last : Nat) (prot : Int) (ms cs ps : List (Nat × Int)) (w : World) (hW : Wk B w wb ms cs ps bs) (hs : Srt ps) (hpl : ps.length ≤ 256) (hfit : FitQ ms cs) (hw : Words cs) (hrc : ∀ y ∈ cs, y.1 < 18446744073709551616) (hbs : bs ≤ 4611686018427387904) (hg : gpagesOk first n = true) (hla : last = first + n - 1) (hroom : ps.length - (mid ps first last).length + n > 256) (hreach : Reach ps bs ms) (ha : a = bs + first * 4096) (hm : m = n * 4096) :
    Calls Try.prog 41 #[.pointer (some ⟨wb, 0, none⟩), .int .u32 (first : Int), .int .u32 (n : Int), .int .i64 prot] w fun e w' => e = .returned (.int .i64 12) ∧ w.grownBy w' (some wb) := by
  have hgg : n ≠ 0 ∧ first + n ≤ 1048576 := by simpa [gpagesOk] using hg
  have HWK : Hid (Wk B w wb ms cs ps bs) := hW
  obtain ⟨vm, vc, vp, hb, ho, hB⟩ := hW
  obtain ⟨W, hWW, hbW, hsz, c4, c8, g4, g8, bx8⟩ := box11 w (.pointer (some ⟨wb, 0, none⟩)) (.int .i64 0) 97 37
  have K67 := gspan67 vp ps first n last W (ho.p.keep hbW) hs (by omega) hgg.1 (by omega) hla
  have hlen : (lo ps first).length + (mid ps first last).length ≤ ps.length := by
    have := parts_len ps hs first last (by omega)
    omega
  obtain ⟨ap, pp, hvp, lp1, lp2⟩ : ∃ a p, vp = .slice a ps.length p ∧ ps.length ≤ p ∧ p ≤ 9223372036854775807 := by obtain ⟨a, p, h, h1, h2, _⟩ := ho.p; exact ⟨_, _, h, h1, h2⟩
  subst hvp
  have hbk := hb.keep hbW
  have C3 := hbk.c3
  obtain ⟨f, hf⟩ : ∃ f, f = (lo ps first).length := ⟨_, rfl⟩
  obtain ⟨md, hmd⟩ : ∃ f, f = (mid ps first last).length := ⟨_, rfl⟩
  rw [← hf, ← hmd] at K67 hlen
  rw [← hmd] at hroom
  obtain ⟨t, ht⟩ : ∃ t, t = f + md := ⟨_, rfl⟩
  rw [← ht] at K67 hlen
  obtain ⟨r, hr⟩ : ∃ r, r = ps.length - md := ⟨_, rfl⟩
  obtain ⟨z, hz⟩ : ∃ z, z = r + n := ⟨_, rfl⟩
  have y1 : (t : Int) - (f : Int) = (md : Int) := by omega
  have y2 : (ps.length : Int) - (md : Int) = (r : Int) := by omega
  have y3 : (r : Int) + (n : Int) = (z : Int) := by omega
  have y4 : (256 : Int) < (z : Int) := by omega
  have y7 : (z : Int) ≤ 2000000 := by omega
  have y5 : IntKind.i64.wrap (n : Int) = (n : Int) := by rw [IntKind.wrap_i64]; omega
  have HLF : Hid (f = (lo ps first).length ∧ md = (mid ps first last).length ∧ t = f + md ∧ t ≤ ps.length) := ⟨hf, hmd, ht, hlen⟩
  have HGG : Hid (n ≠ 0 ∧ first + n ≤ 1048576 ∧ last = first + n - 1) := ⟨hgg.1, hgg.2, hla⟩
  have HARG : Hid (Srt ps ∧ ps.length ≤ 256 ∧ FitQ ms cs ∧ Words cs ∧ (∀ y ∈ cs, y.1 < 18446744073709551616) ∧ bs ≤ 4611686018427387904 ∧ Reach ps bs ms ∧ a = bs + first * 4096 ∧ m = n * 4096) := ⟨hs, hpl, hfit, hw, hrc, hbs, hreach, ha, hm⟩
  have HOG : Hid (OwnG B w vm vc (.slice ap ps.length pp) ms cs ps ∧ B ≤ w.heap.size ∧ Wb w wb vm vc (.int .u64 (bs : Int)) (.slice ap ps.length pp)) := ⟨ho, hB, hb⟩
  have HSZ : Hid (W.heap.size = w.heap.size + 2) := by show _ = _; omega
  clear ho hB hb hs hpl hfit hw hrc hbs hreach ha hm hg hgg hla hroom hlen hf hmd ht hr hz hbk hsz
  have y6 : wrap64 (z : Int) = (z : Int) := by unfold wrap64; omega
  refine callsIn_wide.1 (callsIn_of_wp_marks (F := Fence.wide) (n := 3) Try.func41 rfl trivial ?_ rfl)
  simp only [Try.ntmps41, List.size_toArray, List.length_cons, List.length_nil, Nat.reduceAdd, Nat.reduceSub, Array.replicate_succ, Array.replicate_zero, List.push_toArray, List.append_toArray, List.nil_append, List.cons_append]
  refine wpIn_wide.2 ?_
  go_wp2_with fail
  refine K67.mono ?_
  rintro e w1 ⟨rfl, hb1⟩
  clear K67
  have c4' := keep_cell hb1 c4
  have C3' := keep_cell hb1 C3
  have f8 := g8.keep hb1
  have q1 := f8.cell
  have q2 := f8.frozen
  have HB1 : Hid (Below w.heap.size w w1) := below_tr hbW hb1
  have HRB : Hid (w.heap.size ≤ w.heap.size + 1) := Nat.le_succ _
  go_wp2
  (try simp only [Exit.inBlock, Exit.then])
  obtain ⟨u, hu⟩ : ∃ u, u = w1.setCell ⟨w.heap.size + 1, 0, none⟩ (.int .i64 12) := ⟨_, rfl⟩
  have HU : Hid (u.cell? ⟨w.heap.size + 1, 0, none⟩ = some (.int .i64 12) ∧ w.grownBy u (some wb)) := ⟨by rw [hu]; exact World.cell?_setCell_same _ _ _ f8.cell, by rw [hu]; exact grown_row (Go.Lib.grownBy_below (World.grownBy.refl w (some wb)) HB1.out) (Go.Lib.grownBy_setCell _ (w.heap.size + 1) 0 _) (fun r e => by cases e; exact HRB.out)⟩
  rw [← hu]
  refine ⟨.int .i64 12, ?_, rfl, HU.out.2⟩
  rw [results_cell1 rfl]; simp [go_sem, HU.out.1]
end Go.Proofs.Ytpaanfeleeomnaa
