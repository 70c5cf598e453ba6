/- What is proved here: alu's caught: the number that a work makes, or nothing where it threw one. -/
import Derived.Test.YtogokbefpgaciaaDoorAg
import Derived.Defers
import Derived.Recover
import Derived.Laws.Pointers
namespace Go.Proofs.YtogokbefpgaciaaDoor
open Go.RowKit
set_option linter.unusedVariables false
set_option linter.unusedSimpArgs false
set_option maxRecDepth 100000
theorem enter_of {f : FuncId} {fn : Func} (hf : Tryd.prog.funcs[f]? = some fn) (hname : (fn.name == "runtime.NumGoroutine") = false) (hb : fn.body.isSome = true) (args : Array Value) (w : World) :
    (callFunc f args).run Tryd.prog w = .ok (.enter f args) w := by
  have h1 : fn.name ≠ "runtime.NumGoroutine" := by simpa using hname
  obtain ⟨c, hb⟩ := Option.isSome_iff_exists.1 hb
  simp [callFunc, hf, h1, hb]
theorem assert_is (x : Int) (w : World) : (Instr.typeAssert (.iface 68 (.int .i64 x)) 20 68 true).run Tryd.prog w = .ok (.tuple #[.int .i64 x, .bool true]) w := by
  kernel_rfl
theorem assert_nil (w : World) : (Instr.typeAssert .nilIface 20 68 true).run Tryd.prog w = .ok (.tuple #[.int .i64 0, .bool false]) w := by
  kernel_rfl
theorem catch35 (p q : Addr) (x : Int) (w : World) (hpq : q.block ≠ p.block) (hp : (w.cell? p).isSome = true) (hq : (w.cell? q).isSome = true) (hy : w.frozen? p = false) (hz : w.frozen? q = false) :
    CallsD Tryd.prog 35 #[.pointer (some p), .pointer (some q)] (.panicking (thrown x)) w fun e u' w' =>
      e = .returned (.tuple #[]) ∧ u' = .panicking [{ v := .iface 68 (.int .i64 x), recovered := true }] ∧ w' = (w.setCell p (.int .u32 0)).setCell q (.bool false) := by
  obtain ⟨o, hq⟩ := Option.isSome_iff_exists.1 hq
  obtain ⟨o', hp⟩ := Option.isSome_iff_exists.1 hp
  have hq2 : (w.setCell p (.int .u32 0)).cell? q = some o := by rw [World.cell?_setCell_other _ _ _ _ (by intro h; exact hpq (by rw [h]))]; exact hq
  have hz2 : (w.setCell p (.int .u32 0)).frozen? q = false := by simp [hz]
  have ha := assert_is x
  refine callsD_of_wpS Tryd.func35 rfl fun c₀ cs hu => ?_
  apply wpS_seq
  apply wpS_region
  simp [wpOpsS, go_sem, recoverD, hu, ha, Tryd.ntmps35, Exit.thenS]
  apply wpS_seq
  apply wpS_region
  simp [wpOpsS, go_sem, Exit.thenS]
  refine wpS_cond (t := true) (by simp [Act.eval, Array.replicate]) ?_
  simp only [if_true]
  apply wpS_region
  simp [wpOpsS, go_sem, hp, hq, hy, hz, hq2, hz2, bodyPostS, results, Tryd.results35]
theorem idle35 (p q : Addr) (w : World) :
    CallsD Tryd.prog 35 #[.pointer (some p), .pointer (some q)] .returning w fun e u' w' => e = .returned (.tuple #[]) ∧ u' = .returning ∧ w' = w := by
  have ha := assert_nil
  refine callsD_of_wpS Tryd.func35 rfl fun c₀ cs hu => ?_
  apply wpS_seq
  apply wpS_region
  simp [wpOpsS, go_sem, recoverD, hu, ha, Tryd.ntmps35, Exit.thenS]
  apply wpS_seq
  apply wpS_region
  simp [wpOpsS, go_sem, Exit.thenS]
  refine wpS_cond (t := false) (by simp [Act.eval, Array.replicate]) ?_
  simp only [Bool.false_eq_true, if_false]
  refine wpS_of_wp (wp_skip ?_)
  cases c₀
  simp_all [bodyPostS, results, Tryd.results35]
/-- What caught lays: its argument's box, and the two results. -/
theorem box611 (w : World) (a b c d e f x y : Value) (t u v : Nat) : ∃ W, ((w.alloc (.cells #[a, b, c, d, e, f] t)).alloc (.cells #[x] u)).alloc (.cells #[y] v) = W ∧ Below w.heap.size w W ∧ W.heap.size = w.heap.size + 3 ∧
    (W.cell? ⟨w.heap.size, 0, none⟩ = some a ∧ W.cell? ⟨w.heap.size, 1, none⟩ = some b ∧ W.cell? ⟨w.heap.size, 2, none⟩ = some c ∧ W.cell? ⟨w.heap.size, 3, none⟩ = some d ∧ W.cell? ⟨w.heap.size, 4, none⟩ = some e ∧ W.cell? ⟨w.heap.size, 5, none⟩ = some f) ∧
    Free W ⟨w.heap.size + 1, 0, none⟩ ∧ Free W ⟨w.heap.size + 2, 0, none⟩ := by
  have hz : w.heap.size + 1 = (w.alloc (.cells #[a, b, c, d, e, f] t)).heap.size := by simp
  have hz2 : w.heap.size + 2 = ((w.alloc (.cells #[a, b, c, d, e, f] t)).alloc (.cells #[x] u)).heap.size := by simp
  refine ⟨_, rfl, (((Below.refl _ _).alloc (Nat.le_refl _) _).alloc (by simp) _).alloc (by simp only [World.size_alloc]; omega) _, by simp, ⟨?_, ?_, ?_, ?_, ?_, ?_⟩, ⟨⟨x, ?_⟩, ?_⟩, ⟨⟨y, ?_⟩, ?_⟩⟩
  all_goals first | exact cell_old (cell_old (cell_newA w _ _ _ _ _ rfl rfl) _) _ | exact cell_old (cell_newA _ _ _ _ _ _ hz rfl) _ | exact cell_newA _ _ _ _ _ _ hz2 rfl | (rw [World.frozen?_alloc_at _ _ _ _ hz2]) | (rw [World.frozen?_alloc _ _ _ (by simp), World.frozen?_alloc_at _ _ _ _ hz]) | simp [go_sem]
set_option maxHeartbeats 1000000 in
theorem caught18_ok (fn : Nat) (x : Tk) (v : Nat) (w : World)
    (hc : ∀ w1, (callFunc fn #[x.val]).run Tryd.prog w1 = .ok (.enter fn #[x.val]) w1)
    (h : ∀ w1, Calls Tryd.prog fn #[x.val] w1 fun e w2 => e = .returned (.int .u32 (v : Int)) ∧ Below w1.heap.size w1 w2) :
    Calls Tryd.prog 18 #[.func (.func fn) #[] #[], x.val] w fun e w' => e = .returned (.tuple #[.int .u32 (v : Int), .bool true]) ∧ Below w.heap.size w w' := by
  have hmf : ∀ (fn : Fn) (first cap : Array Value) (w : World), (Instr.makeFunc fn first cap).run Tryd.prog w = .ok (.func fn first cap) w := fun _ _ _ _ => rfl
  have h' : Hid (∀ w1, Calls Tryd.prog fn #[x.val] w1 fun e w2 => e = .returned (.int .u32 (v : Int)) ∧ Below w1.heap.size w1 w2) := h
  clear h
  obtain ⟨xs, xt, xi, xm, sa, rd⟩ := x
  simp only [Tk.val] at hc h' ⊢
  obtain ⟨W, hW, hb, hz, ⟨c0, c1, c2, c3, c4, c5⟩, f1, f2⟩ := box611 w (.int .u32 (xs : Int)) (.int .u32 (xt : Int)) (.int .u32 (xi : Int)) (.int .u32 (xm : Int)) (.int .i64 sa) (.int .i64 rd) (.int .u32 0) (.bool false) 44 22 4
  have HF : Hid (∀ w', Below W.heap.size W w' → Free w' ⟨w.heap.size + 1, 0, none⟩ ∧ Free w' ⟨w.heap.size + 2, 0, none⟩ ∧ Below w.heap.size w w') := fun w' h => ⟨f1.keep h, f2.keep h, below_tr hb h⟩
  have K := h'.out W
  clear hb hz f1 f2 h'
  go_enter_defers Tryd.func18, Tryd.ntmps18
  go_wp2_with fail
  refine K.mono ?_
  rintro e w2 ⟨rfl, hb2⟩
  obtain ⟨g1, g2, hbw⟩ := HF.out w2 hb2
  have g2' := g2.set ⟨w.heap.size + 1, 0, none⟩ (.int .u32 (v : Int))
  have q1 := g1.cell
  have q2 := g2'.cell
  have z1 := g1.frozen
  have z2 := g2'.frozen
  have y1 : ((w2.setCell ⟨w.heap.size + 1, 0, none⟩ (.int .u32 (v : Int))).setCell ⟨w.heap.size + 2, 0, none⟩ (.bool true)).cell? ⟨w.heap.size + 1, 0, none⟩ = some (.int .u32 (v : Int)) := by
    rw [World.cell?_setCell_other _ _ _ _ (by simp)]; exact World.cell?_setCell_same _ _ _ g1.cell
  have y2 : ((w2.setCell ⟨w.heap.size + 1, 0, none⟩ (.int .u32 (v : Int))).setCell ⟨w.heap.size + 2, 0, none⟩ (.bool true)).cell? ⟨w.heap.size + 2, 0, none⟩ = some (.bool true) := World.cell?_setCell_same _ _ _ g2'.cell
  have HBE : Below w.heap.size w ((w2.setCell ⟨w.heap.size + 1, 0, none⟩ (.int .u32 (v : Int))).setCell ⟨w.heap.size + 2, 0, none⟩ (.bool true)) := (hbw.setCell (Nat.le_succ _) _).setCell (by show w.heap.size ≤ w.heap.size + 2; omega) _
  obtain ⟨W9, hW9⟩ : ∃ z, (w2.setCell ⟨w.heap.size + 1, 0, none⟩ (.int .u32 (v : Int))).setCell ⟨w.heap.size + 2, 0, none⟩ (.bool true) = z := ⟨_, rfl⟩
  rw [hW9] at y1 y2 HBE
  have HBE : Hid _ := HBE
  clear g1 g2 g2' hbw hb2 K
  go_wp2
  refine leaves_cons (f := 35) (args := #[.pointer (some ⟨w.heap.size + 1, 0, none⟩), .pointer (some ⟨w.heap.size + 2, 0, none⟩)]) (by simp) (by simp [go_sem]) ?_
  refine (idle35 ⟨w.heap.size + 1, 0, none⟩ ⟨w.heap.size + 2, 0, none⟩ _).mono ?_
  rintro e u' w'' ⟨rfl, rfl, rfl⟩
  have HBE := HBE.out
  simp [Leaves, settle, results, Tryd.results18, go_sem, y1, y2, HBE]
set_option maxHeartbeats 1000000 in
theorem caught18_no (fn : Nat) (x : Tk) (w : World)
    (hc : ∀ w1, (callFunc fn #[x.val]).run Tryd.prog w1 = .ok (.enter fn #[x.val]) w1)
    (h : ∀ w1, Calls Tryd.prog fn #[x.val] w1 fun e w2 => (∃ m : Int, e = .panicked (thrown m)) ∧ Below w1.heap.size w1 w2) :
    Calls Tryd.prog 18 #[.func (.func fn) #[] #[], x.val] w fun e w' => e = .returned (.tuple #[.int .u32 0, .bool false]) ∧ Below w.heap.size w w' := by
  have hmf : ∀ (fn : Fn) (first cap : Array Value) (w : World), (Instr.makeFunc fn first cap).run Tryd.prog w = .ok (.func fn first cap) w := fun _ _ _ _ => rfl
  have h' : Hid (∀ w1, Calls Tryd.prog fn #[x.val] w1 fun e w2 => (∃ m : Int, e = .panicked (thrown m)) ∧ Below w1.heap.size w1 w2) := h
  clear h
  obtain ⟨xs, xt, xi, xm, sa, rd⟩ := x
  simp only [Tk.val] at hc h' ⊢
  obtain ⟨W, hW, hb, hz, ⟨c0, c1, c2, c3, c4, c5⟩, f1, f2⟩ := box611 w (.int .u32 (xs : Int)) (.int .u32 (xt : Int)) (.int .u32 (xi : Int)) (.int .u32 (xm : Int)) (.int .i64 sa) (.int .i64 rd) (.int .u32 0) (.bool false) 44 22 4
  have HF : Hid (∀ w', Below W.heap.size W w' → Free w' ⟨w.heap.size + 1, 0, none⟩ ∧ Free w' ⟨w.heap.size + 2, 0, none⟩ ∧ Below w.heap.size w w') := fun w' h => ⟨f1.keep h, f2.keep h, below_tr hb h⟩
  have K := h'.out W
  clear hb hz f1 f2 h'
  go_enter_defers Tryd.func18, Tryd.ntmps18
  go_wp2_with fail
  refine K.mono ?_
  rintro e w2 ⟨⟨m, rfl⟩, hb2⟩
  obtain ⟨g1, g2, hbw⟩ := HF.out w2 hb2
  have g2' := g2.set ⟨w.heap.size + 1, 0, none⟩ (.int .u32 0)
  have y1 : ((w2.setCell ⟨w.heap.size + 1, 0, none⟩ (.int .u32 0)).setCell ⟨w.heap.size + 2, 0, none⟩ (.bool false)).cell? ⟨w.heap.size + 1, 0, none⟩ = some (.int .u32 0) := by
    rw [World.cell?_setCell_other _ _ _ _ (by simp)]; exact World.cell?_setCell_same _ _ _ g1.cell
  have y2 : ((w2.setCell ⟨w.heap.size + 1, 0, none⟩ (.int .u32 0)).setCell ⟨w.heap.size + 2, 0, none⟩ (.bool false)).cell? ⟨w.heap.size + 2, 0, none⟩ = some (.bool false) := World.cell?_setCell_same _ _ _ g2'.cell
  have HBE : Hid (Below w.heap.size w ((w2.setCell ⟨w.heap.size + 1, 0, none⟩ (.int .u32 0)).setCell ⟨w.heap.size + 2, 0, none⟩ (.bool false))) := (hbw.setCell (Nat.le_succ _) _).setCell (by show w.heap.size ≤ w.heap.size + 2; omega) _
  have HG : Hid (Free w2 ⟨w.heap.size + 1, 0, none⟩ ∧ Free w2 ⟨w.heap.size + 2, 0, none⟩) := ⟨g1, g2⟩
  clear g1 g2 g2' hbw hb2 K
  go_wp2
  refine leaves_cons (f := 35) (args := #[.pointer (some ⟨w.heap.size + 1, 0, none⟩), .pointer (some ⟨w.heap.size + 2, 0, none⟩)]) (by simp) (by simp [go_sem]) ?_
  refine (catch35 ⟨w.heap.size + 1, 0, none⟩ ⟨w.heap.size + 2, 0, none⟩ m w2 (by simp) (by rw [HG.out.1.cell]; rfl) (by rw [HG.out.2.cell]; rfl) HG.out.1.frozen HG.out.2.frozen).mono ?_
  rintro e u' w'' ⟨rfl, rfl, rfl⟩
  have HBE := HBE.out
  simp [Leaves, settle, results, Tryd.results18, go_sem, y1, y2, HBE]
theorem caught18 (fn : Nat) (x : Tk) (r : Option Nat) (w : World)
    (hc : ∀ w1, (callFunc fn #[x.val]).run Tryd.prog w1 = .ok (.enter fn #[x.val]) w1)
    (h : ∀ w1, Calls Tryd.prog fn #[x.val] w1 fun e w2 => Told r e ∧ Below w1.heap.size w1 w2) :
    Calls Tryd.prog 18 #[.func (.func fn) #[] #[], x.val] w fun e w' => e = .returned (.tuple #[.int .u32 (r.getD 0 : Int), .bool r.isSome]) ∧ Below w.heap.size w w' := by
  cases r with
  | none => exact caught18_no fn x w hc h
  | some v => exact caught18_ok fn x v w hc h
end Go.Proofs.YtogokbefpgaciaaDoor
