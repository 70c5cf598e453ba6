/- What is proved here: the document's ErrInval of pages. -/
import Derived.Test.YtolmcbnammhjjaaHeld
import Derived.Test.YtolmcbnammhjjaaSmall
namespace Go.Proofs.Ytolmcbnammhjjaa
open Go.RowKit
set_option linter.unusedVariables false
set_option maxHeartbeats 2000000 in
theorem runmap17_no (vm vc : Value) (page n : Nat) (w : World) (hm : ∃ a n p, vm = .slice a n p) (hc : ∃ a n p, vc = .slice a n p) (h1 : page < 18446744073709551616) (h2 : n < 18446744073709551616) (hp : (pagesOk page n && protOk 0) = false) :
    Calls Try.prog 17 #[.agg #[vm, vc], .int .u64 (page : Int), .int .u64 (n : Int)] w fun e w' => e = .returned (.tuple #[.agg #[vm, vc], .int .i64 22]) ∧ Below w.heap.size w w' := by
  obtain ⟨W, hW, hb, hsz, c0, c1, _, _, g0, g1⟩ := box2b w vm vc (.slice none 0 0) (.slice none 0 0) 25 25
  have K41 := wrong41 page n 0 h1 h2 W
  rw [hp] at K41
  obtain ⟨am, nm, pm, rfl⟩ := hm
  obtain ⟨ac, nc, pc, rfl⟩ := hc
  have q0 := g0.cell
  have q1 := g1.cell
  have q2 := g0.frozen
  have q3 := g1.frozen
  clear hp h1 h2 hsz
  go_enter Try.func17, Try.ntmps17
  go_wp2_with fail
  refine K41.mono ?_
  rintro e w0 ⟨rfl, h00⟩
  subst h00
  clear K41
  go_wp2
  (try simp only [Exit.inBlock, Exit.then])
  obtain ⟨r0, r1⟩ := res2 w0 (w.heap.size + 1) (.slice am nm pm) (.slice ac nc pc) g0 g1
  refine bodyPost_ret (v := .tuple #[.agg #[.slice am nm pm, .slice ac nc pc], .int .i64 22]) ?_ rfl ⟨rfl, below_set (below_set hb (by simp) _) (by simp) _⟩
  rw [results_cell_tmp rfl]; simp [go_sem, r0, r1]
set_option maxHeartbeats 2000000 in
theorem rprotect19_no (vm vc : Value) (page n : Nat) (prot : Int) (w : World) (hm : ∃ a n p, vm = .slice a n p) (hc : ∃ a n p, vc = .slice a n p) (h1 : page < 18446744073709551616) (h2 : n < 18446744073709551616) (hp : (pagesOk page n && protOk prot) = false) :
    Calls Try.prog 19 #[.agg #[vm, vc], .int .u64 (page : Int), .int .u64 (n : Int), .int .i64 prot] w fun e w' => e = .returned (.tuple #[.agg #[vm, vc], .int .i64 22]) ∧ Below w.heap.size w w' := by
  obtain ⟨W, hW, hb, hsz, c0, c1, _, _, g0, g1⟩ := box2b w vm vc (.slice none 0 0) (.slice none 0 0) 25 25
  have K41 := wrong41 page n prot h1 h2 W
  rw [hp] at K41
  obtain ⟨am, nm, pm, rfl⟩ := hm
  obtain ⟨ac, nc, pc, rfl⟩ := hc
  have q0 := g0.cell
  have q1 := g1.cell
  have q2 := g0.frozen
  have q3 := g1.frozen
  clear hp h1 h2 hsz
  go_enter Try.func19, Try.ntmps19
  go_wp2_with fail
  refine K41.mono ?_
  rintro e w0 ⟨rfl, h00⟩
  subst h00
  clear K41
  go_wp2
  (try simp only [Exit.inBlock, Exit.then])
  obtain ⟨r0, r1⟩ := res2 w0 (w.heap.size + 1) (.slice am nm pm) (.slice ac nc pc) g0 g1
  refine bodyPost_ret (v := .tuple #[.agg #[.slice am nm pm, .slice ac nc pc], .int .i64 22]) ?_ rfl ⟨rfl, below_set (below_set hb (by simp) _) (by simp) _⟩
  rw [results_cell_tmp rfl]; simp [go_sem, r0, r1]
set_option maxHeartbeats 2000000 in
theorem rmap15_no (vm vc : Value) (page n : Nat) (prot : Int) (w : World) (hm : ∃ a n p, vm = .slice a n p) (hc : ∃ a n p, vc = .slice a n p) (h1 : page < 18446744073709551616) (h2 : n < 18446744073709551616) (hp : (pagesOk page n && protOk prot) = false) :
    Calls Try.prog 15 #[.agg #[vm, vc], .int .u64 (page : Int), .int .u64 (n : Int), .int .i64 prot] w fun e w' => e = .returned (.tuple #[.agg #[vm, vc], .int .i64 22]) ∧ Below w.heap.size w w' := by
  obtain ⟨W, hW, hb, hsz, c0, c1, _, _, g0, g1⟩ := box2b w vm vc (.slice none 0 0) (.slice none 0 0) 25 25
  have K41 := wrong41 page n prot h1 h2 W
  rw [hp] at K41
  obtain ⟨am, nm, pm, rfl⟩ := hm
  obtain ⟨ac, nc, pc, rfl⟩ := hc
  have q0 := g0.cell
  have q1 := g1.cell
  have q2 := g0.frozen
  have q3 := g1.frozen
  clear hp h1 h2 hsz
  go_enter Try.func15, Try.ntmps15
  go_wp2_with fail
  refine K41.mono ?_
  rintro e w0 ⟨rfl, h00⟩
  subst h00
  clear K41
  go_wp2
  (try simp only [Exit.inBlock, Exit.then])
  obtain ⟨r0, r1⟩ := res2 w0 (w.heap.size + 1) (.slice am nm pm) (.slice ac nc pc) g0 g1
  refine bodyPost_ret (v := .tuple #[.agg #[.slice am nm pm, .slice ac nc pc], .int .i64 22]) ?_ rfl ⟨rfl, below_set (below_set hb (by simp) _) (by simp) _⟩
  rw [results_cell_tmp rfl]; simp [go_sem, r0, r1]
end Go.Proofs.Ytolmcbnammhjjaa
