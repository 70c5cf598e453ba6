/- What is proved here: caught, at each of its three types: what its work answers, or what stands instead where it throws a number. -/
import Derived.WalkKit
import Derived.WalkSpells
import Derived.WalkLawsBesides
import Derived.Defers
import Derived.Recover
import Derived.Laws.Pointers
import Derived.Below
import Derived.Test.YtlchjfdnkplmmaaProg
namespace Go.Proofs.Ytlchjfdnkplmmaa
open Go.RowKit

theorem run_store_float (P : Program) (w : World) (a : Addr) (k : FloatKind) (b : Nat) (m : Mode) : (store a (.float k b) m).run P w = stored P w a (.float k b) m := run_store P w a _ m rfl
theorem enter_of {f : FuncId} {fn : Func} (hf : Try.prog.funcs[f]? = some fn) (hname : (fn.name == "runtime.NumGoroutine") = false) (hb : fn.body.isSome = true) (args : Array Value) (w : World) :
    (callFunc f args).run Try.prog w = .ok (.enter f args) w := by
  have h1 : fn.name ≠ "runtime.NumGoroutine" := by simpa using hname
  obtain ⟨c, hb⟩ := Option.isSome_iff_exists.1 hb
  simp [callFunc, hf, h1, hb]
abbrev thrown (x : Int) : List PanicEntry := [{ v := .iface 52 (.int .u64 x), recovered := false }]
theorem assert_is (x : Int) (w : World) : (Instr.typeAssert (.iface 52 (.int .u64 x)) 20 52 true).run Try.prog w = .ok (.tuple #[.int .u64 x, .bool true]) w := by
  kernel_rfl
theorem assert_nil (w : World) : (Instr.typeAssert .nilIface 20 52 true).run Try.prog w = .ok (.tuple #[.int .u64 0, .bool false]) w := by
  kernel_rfl

theorem catch_int (p q : Addr) (x : Int) (v : Int) (w : World) (hp : w.cell? p = some (.int .i64 v)) (hq : (w.cell? q).isSome = true) (hz : w.frozen? q = false) :
    CallsD Try.prog 50 #[.pointer (some p), .pointer (some q)] (.panicking (thrown x)) w fun e u' w' =>
      e = .returned (.tuple #[]) ∧ u' = .panicking [{ v := .iface 52 (.int .u64 x), recovered := true }] ∧ w' = w.setCell q (.int .i64 v) := by
  obtain ⟨o, hq⟩ := Option.isSome_iff_exists.1 hq
  have ha := assert_is x
  refine callsD_of_wpS Try.func50 rfl fun c₀ cs hu => ?_
  apply wpS_seq
  apply wpS_region
  simp [wpOpsS, go_sem, recoverD, hu, ha, Try.ntmps50, Exit.thenS]
  apply wpS_seq
  apply wpS_region
  simp [wpOpsS, go_sem, Exit.thenS]
  refine wpS_cond (t := true) (by simp [Act.eval, Array.replicate]) ?_
  simp only [if_true]
  apply wpS_region
  simp [wpOpsS, go_sem, hp, hq, hz, bodyPostS, results, Try.results50]
theorem idle_int (p q : Addr) (w : World) :
    CallsD Try.prog 50 #[.pointer (some p), .pointer (some q)] .returning w fun e u' w' => e = .returned (.tuple #[]) ∧ u' = .returning ∧ w' = w := by
  have ha := assert_nil
  refine callsD_of_wpS Try.func50 rfl fun c₀ cs hu => ?_
  apply wpS_seq
  apply wpS_region
  simp [wpOpsS, go_sem, recoverD, hu, ha, Try.ntmps50, Exit.thenS]
  apply wpS_seq
  apply wpS_region
  simp [wpOpsS, go_sem, Exit.thenS]
  refine wpS_cond (t := false) (by simp [Act.eval, Array.replicate]) ?_
  simp only [Bool.false_eq_true, if_false]
  refine wpS_of_wp (wp_skip ?_)
  cases c₀
  simp_all [bodyPostS, results, Try.results50]
theorem caught_int (fn : Nat) (caps : Array Value) (inst v : Int) (w : World)
    (hc : ∀ w1, (callFunc fn caps).run Try.prog w1 = .ok (.enter fn caps) w1)
    (h : ∀ w1, Below w.heap.size w w1 → Calls Try.prog fn caps w1 fun e w2 => e = .returned (.int .i64 v) ∧ Below w1.heap.size w1 w2) :
    Calls Try.prog 30 #[.func (.func fn) #[] caps, .int .i64 inst] w fun e w' => e = .returned (.int .i64 v) ∧ Below w.heap.size w w' := by
  have hmf : ∀ (fn : Fn) (first cap : Array Value) (w : World), (Instr.makeFunc fn first cap).run Try.prog w = .ok (.func fn first cap) w := fun _ _ _ _ => rfl
  have h' : Hid (∀ w1, Below w.heap.size w w1 → Calls Try.prog fn caps w1 fun e w2 => e = .returned (.int .i64 v) ∧ Below w1.heap.size w1 w2) := h
  clear h
  go_enter_defers Try.func30, Try.ntmps30
  go_wp2_with fail
  refine (h'.out _ (((Below.refl _ w).alloc (Nat.le_refl _) _).alloc (by simp) _)).mono ?_
  rintro e w2 ⟨rfl, hb⟩
  have f1 := hb.cell (p := ⟨w.heap.size + 1, 0, none⟩) (by simp)
  have f2 := hb.frozen (p := ⟨w.heap.size + 1, 0, none⟩) (by simp)
  simp [go_sem] at f1 f2
  go_wp2
  refine leaves_cons (f := 50) (args := #[.pointer (some ⟨w.heap.size, 0, none⟩), .pointer (some ⟨w.heap.size + 1, 0, none⟩)]) (by simp) (by simp [go_sem]) ?_
  refine (idle_int ⟨w.heap.size, 0, none⟩ ⟨w.heap.size + 1, 0, none⟩ _).mono ?_
  rintro e u' w'' ⟨rfl, rfl, rfl⟩
  have hl : Below w.heap.size w (w2.setCell ⟨w.heap.size + 1, 0, none⟩ (.int .i64 v)) :=
    ((((Below.refl _ w).alloc (Nat.le_refl _) _).alloc (by simp) _).trans (hb.mono (by simp only [World.size_alloc]; omega))).setCell (Nat.le_succ _) _
  simp [Leaves, settle, results, Try.results30, go_sem, f1, hl]
theorem caught_int_thrown (fn : Nat) (caps : Array Value) (inst : Int) (w : World)
    (hc : ∀ w1, (callFunc fn caps).run Try.prog w1 = .ok (.enter fn caps) w1)
    (h : ∀ w1, Below w.heap.size w w1 → Calls Try.prog fn caps w1 fun e w2 => (∃ x : Int, e = .panicked (thrown x)) ∧ Below w1.heap.size w1 w2) :
    Calls Try.prog 30 #[.func (.func fn) #[] caps, .int .i64 inst] w fun e w' => e = .returned (.int .i64 inst) ∧ Below w.heap.size w w' := by
  have hmf : ∀ (fn : Fn) (first cap : Array Value) (w : World), (Instr.makeFunc fn first cap).run Try.prog w = .ok (.func fn first cap) w := fun _ _ _ _ => rfl
  have h' : Hid (∀ w1, Below w.heap.size w w1 → Calls Try.prog fn caps w1 fun e w2 => (∃ x : Int, e = .panicked (thrown x)) ∧ Below w1.heap.size w1 w2) := h
  clear h
  go_enter_defers Try.func30, Try.ntmps30
  go_wp2_with fail
  refine (h'.out _ (((Below.refl _ w).alloc (Nat.le_refl _) _).alloc (by simp) _)).mono ?_
  rintro e w2 ⟨⟨x, rfl⟩, hb⟩
  have f0 := hb.cell (p := ⟨w.heap.size, 0, none⟩) (by simp only [World.size_alloc]; omega)
  have f1 := hb.cell (p := ⟨w.heap.size + 1, 0, none⟩) (by simp)
  have f2 := hb.frozen (p := ⟨w.heap.size + 1, 0, none⟩) (by simp)
  simp [go_sem] at f0 f1 f2
  go_wp2
  refine leaves_cons (f := 50) (args := #[.pointer (some ⟨w.heap.size, 0, none⟩), .pointer (some ⟨w.heap.size + 1, 0, none⟩)]) (by simp) (by simp [go_sem]) ?_
  refine (catch_int ⟨w.heap.size, 0, none⟩ ⟨w.heap.size + 1, 0, none⟩ x inst _ f0 (by rw [f1]; rfl) f2).mono ?_
  rintro e u' w'' ⟨rfl, rfl, rfl⟩
  have hl : Below w.heap.size w (w2.setCell ⟨w.heap.size + 1, 0, none⟩ (.int .i64 inst)) :=
    ((((Below.refl _ w).alloc (Nat.le_refl _) _).alloc (by simp) _).trans (hb.mono (by simp only [World.size_alloc]; omega))).setCell (Nat.le_succ _) _
  simp [Leaves, settle, results, Try.results30, go_sem, f1, hl]

theorem catch_u64 (p q : Addr) (x : Int) (v : Int) (w : World) (hp : w.cell? p = some (.int .u64 v)) (hq : (w.cell? q).isSome = true) (hz : w.frozen? q = false) :
    CallsD Try.prog 60 #[.pointer (some p), .pointer (some q)] (.panicking (thrown x)) w fun e u' w' =>
      e = .returned (.tuple #[]) ∧ u' = .panicking [{ v := .iface 52 (.int .u64 x), recovered := true }] ∧ w' = w.setCell q (.int .u64 v) := by
  obtain ⟨o, hq⟩ := Option.isSome_iff_exists.1 hq
  have ha := assert_is x
  refine callsD_of_wpS Try.func60 rfl fun c₀ cs hu => ?_
  apply wpS_seq
  apply wpS_region
  simp [wpOpsS, go_sem, recoverD, hu, ha, Try.ntmps60, Exit.thenS]
  apply wpS_seq
  apply wpS_region
  simp [wpOpsS, go_sem, Exit.thenS]
  refine wpS_cond (t := true) (by simp [Act.eval, Array.replicate]) ?_
  simp only [if_true]
  apply wpS_region
  simp [wpOpsS, go_sem, hp, hq, hz, bodyPostS, results, Try.results60]
theorem idle_u64 (p q : Addr) (w : World) :
    CallsD Try.prog 60 #[.pointer (some p), .pointer (some q)] .returning w fun e u' w' => e = .returned (.tuple #[]) ∧ u' = .returning ∧ w' = w := by
  have ha := assert_nil
  refine callsD_of_wpS Try.func60 rfl fun c₀ cs hu => ?_
  apply wpS_seq
  apply wpS_region
  simp [wpOpsS, go_sem, recoverD, hu, ha, Try.ntmps60, Exit.thenS]
  apply wpS_seq
  apply wpS_region
  simp [wpOpsS, go_sem, Exit.thenS]
  refine wpS_cond (t := false) (by simp [Act.eval, Array.replicate]) ?_
  simp only [Bool.false_eq_true, if_false]
  refine wpS_of_wp (wp_skip ?_)
  cases c₀
  simp_all [bodyPostS, results, Try.results60]
theorem caught_u64 (fn : Nat) (caps : Array Value) (inst v : Int) (w : World)
    (hc : ∀ w1, (callFunc fn caps).run Try.prog w1 = .ok (.enter fn caps) w1)
    (h : ∀ w1, Below w.heap.size w w1 → Calls Try.prog fn caps w1 fun e w2 => e = .returned (.int .u64 v) ∧ Below w1.heap.size w1 w2) :
    Calls Try.prog 46 #[.func (.func fn) #[] caps, .int .u64 inst] w fun e w' => e = .returned (.int .u64 v) ∧ Below w.heap.size w w' := by
  have hmf : ∀ (fn : Fn) (first cap : Array Value) (w : World), (Instr.makeFunc fn first cap).run Try.prog w = .ok (.func fn first cap) w := fun _ _ _ _ => rfl
  have h' : Hid (∀ w1, Below w.heap.size w w1 → Calls Try.prog fn caps w1 fun e w2 => e = .returned (.int .u64 v) ∧ Below w1.heap.size w1 w2) := h
  clear h
  go_enter_defers Try.func46, Try.ntmps46
  go_wp2_with fail
  refine (h'.out _ (((Below.refl _ w).alloc (Nat.le_refl _) _).alloc (by simp) _)).mono ?_
  rintro e w2 ⟨rfl, hb⟩
  have f1 := hb.cell (p := ⟨w.heap.size + 1, 0, none⟩) (by simp)
  have f2 := hb.frozen (p := ⟨w.heap.size + 1, 0, none⟩) (by simp)
  simp [go_sem] at f1 f2
  go_wp2
  refine leaves_cons (f := 60) (args := #[.pointer (some ⟨w.heap.size, 0, none⟩), .pointer (some ⟨w.heap.size + 1, 0, none⟩)]) (by simp) (by simp [go_sem]) ?_
  refine (idle_u64 ⟨w.heap.size, 0, none⟩ ⟨w.heap.size + 1, 0, none⟩ _).mono ?_
  rintro e u' w'' ⟨rfl, rfl, rfl⟩
  have hl : Below w.heap.size w (w2.setCell ⟨w.heap.size + 1, 0, none⟩ (.int .u64 v)) :=
    ((((Below.refl _ w).alloc (Nat.le_refl _) _).alloc (by simp) _).trans (hb.mono (by simp only [World.size_alloc]; omega))).setCell (Nat.le_succ _) _
  simp [Leaves, settle, results, Try.results46, go_sem, f1, hl]
theorem caught_u64_thrown (fn : Nat) (caps : Array Value) (inst : Int) (w : World)
    (hc : ∀ w1, (callFunc fn caps).run Try.prog w1 = .ok (.enter fn caps) w1)
    (h : ∀ w1, Below w.heap.size w w1 → Calls Try.prog fn caps w1 fun e w2 => (∃ x : Int, e = .panicked (thrown x)) ∧ Below w1.heap.size w1 w2) :
    Calls Try.prog 46 #[.func (.func fn) #[] caps, .int .u64 inst] w fun e w' => e = .returned (.int .u64 inst) ∧ Below w.heap.size w w' := by
  have hmf : ∀ (fn : Fn) (first cap : Array Value) (w : World), (Instr.makeFunc fn first cap).run Try.prog w = .ok (.func fn first cap) w := fun _ _ _ _ => rfl
  have h' : Hid (∀ w1, Below w.heap.size w w1 → Calls Try.prog fn caps w1 fun e w2 => (∃ x : Int, e = .panicked (thrown x)) ∧ Below w1.heap.size w1 w2) := h
  clear h
  go_enter_defers Try.func46, Try.ntmps46
  go_wp2_with fail
  refine (h'.out _ (((Below.refl _ w).alloc (Nat.le_refl _) _).alloc (by simp) _)).mono ?_
  rintro e w2 ⟨⟨x, rfl⟩, hb⟩
  have f0 := hb.cell (p := ⟨w.heap.size, 0, none⟩) (by simp only [World.size_alloc]; omega)
  have f1 := hb.cell (p := ⟨w.heap.size + 1, 0, none⟩) (by simp)
  have f2 := hb.frozen (p := ⟨w.heap.size + 1, 0, none⟩) (by simp)
  simp [go_sem] at f0 f1 f2
  go_wp2
  refine leaves_cons (f := 60) (args := #[.pointer (some ⟨w.heap.size, 0, none⟩), .pointer (some ⟨w.heap.size + 1, 0, none⟩)]) (by simp) (by simp [go_sem]) ?_
  refine (catch_u64 ⟨w.heap.size, 0, none⟩ ⟨w.heap.size + 1, 0, none⟩ x inst _ f0 (by rw [f1]; rfl) f2).mono ?_
  rintro e u' w'' ⟨rfl, rfl, rfl⟩
  have hl : Below w.heap.size w (w2.setCell ⟨w.heap.size + 1, 0, none⟩ (.int .u64 inst)) :=
    ((((Below.refl _ w).alloc (Nat.le_refl _) _).alloc (by simp) _).trans (hb.mono (by simp only [World.size_alloc]; omega))).setCell (Nat.le_succ _) _
  simp [Leaves, settle, results, Try.results46, go_sem, f1, hl]

theorem catch_f64 (p q : Addr) (x : Int) (v : Nat) (w : World) (hp : w.cell? p = some (.float .f64 v)) (hq : (w.cell? q).isSome = true) (hz : w.frozen? q = false) :
    CallsD Try.prog 55 #[.pointer (some p), .pointer (some q)] (.panicking (thrown x)) w fun e u' w' =>
      e = .returned (.tuple #[]) ∧ u' = .panicking [{ v := .iface 52 (.int .u64 x), recovered := true }] ∧ w' = w.setCell q (.float .f64 v) := by
  obtain ⟨o, hq⟩ := Option.isSome_iff_exists.1 hq
  have ha := assert_is x
  refine callsD_of_wpS Try.func55 rfl fun c₀ cs hu => ?_
  apply wpS_seq
  apply wpS_region
  simp [wpOpsS, go_sem, recoverD, hu, ha, Try.ntmps55, Exit.thenS]
  apply wpS_seq
  apply wpS_region
  simp [wpOpsS, go_sem, Exit.thenS]
  refine wpS_cond (t := true) (by simp [Act.eval, Array.replicate]) ?_
  simp only [if_true]
  apply wpS_region
  simp [wpOpsS, go_sem, run_store_float, hp, hq, hz, bodyPostS, results, Try.results55]
theorem idle_f64 (p q : Addr) (w : World) :
    CallsD Try.prog 55 #[.pointer (some p), .pointer (some q)] .returning w fun e u' w' => e = .returned (.tuple #[]) ∧ u' = .returning ∧ w' = w := by
  have ha := assert_nil
  refine callsD_of_wpS Try.func55 rfl fun c₀ cs hu => ?_
  apply wpS_seq
  apply wpS_region
  simp [wpOpsS, go_sem, recoverD, hu, ha, Try.ntmps55, Exit.thenS]
  apply wpS_seq
  apply wpS_region
  simp [wpOpsS, go_sem, Exit.thenS]
  refine wpS_cond (t := false) (by simp [Act.eval, Array.replicate]) ?_
  simp only [Bool.false_eq_true, if_false]
  refine wpS_of_wp (wp_skip ?_)
  cases c₀
  simp_all [bodyPostS, results, Try.results55]
theorem caught_f64 (fn : Nat) (caps : Array Value) (inst v : Nat) (w : World)
    (hc : ∀ w1, (callFunc fn caps).run Try.prog w1 = .ok (.enter fn caps) w1)
    (h : ∀ w1, Below w.heap.size w w1 → Calls Try.prog fn caps w1 fun e w2 => e = .returned (.float .f64 v) ∧ Below w1.heap.size w1 w2) :
    Calls Try.prog 41 #[.func (.func fn) #[] caps, .float .f64 inst] w fun e w' => e = .returned (.float .f64 v) ∧ Below w.heap.size w w' := by
  have hmf : ∀ (fn : Fn) (first cap : Array Value) (w : World), (Instr.makeFunc fn first cap).run Try.prog w = .ok (.func fn first cap) w := fun _ _ _ _ => rfl
  have hst := run_store_float Try.prog
  have h' : Hid (∀ w1, Below w.heap.size w w1 → Calls Try.prog fn caps w1 fun e w2 => e = .returned (.float .f64 v) ∧ Below w1.heap.size w1 w2) := h
  clear h
  go_enter_defers Try.func41, Try.ntmps41
  go_wp2_with fail
  refine (h'.out _ (((Below.refl _ w).alloc (Nat.le_refl _) _).alloc (by simp) _)).mono ?_
  rintro e w2 ⟨rfl, hb⟩
  have f1 := hb.cell (p := ⟨w.heap.size + 1, 0, none⟩) (by simp)
  have f2 := hb.frozen (p := ⟨w.heap.size + 1, 0, none⟩) (by simp)
  simp [go_sem] at f1 f2
  go_wp2
  refine leaves_cons (f := 55) (args := #[.pointer (some ⟨w.heap.size, 0, none⟩), .pointer (some ⟨w.heap.size + 1, 0, none⟩)]) (by simp) (by simp [go_sem]) ?_
  refine (idle_f64 ⟨w.heap.size, 0, none⟩ ⟨w.heap.size + 1, 0, none⟩ _).mono ?_
  rintro e u' w'' ⟨rfl, rfl, rfl⟩
  have hl : Below w.heap.size w (w2.setCell ⟨w.heap.size + 1, 0, none⟩ (.float .f64 v)) :=
    ((((Below.refl _ w).alloc (Nat.le_refl _) _).alloc (by simp) _).trans (hb.mono (by simp only [World.size_alloc]; omega))).setCell (Nat.le_succ _) _
  simp [Leaves, settle, results, Try.results41, go_sem, f1, hl]
theorem caught_f64_thrown (fn : Nat) (caps : Array Value) (inst : Nat) (w : World)
    (hc : ∀ w1, (callFunc fn caps).run Try.prog w1 = .ok (.enter fn caps) w1)
    (h : ∀ w1, Below w.heap.size w w1 → Calls Try.prog fn caps w1 fun e w2 => (∃ x : Int, e = .panicked (thrown x)) ∧ Below w1.heap.size w1 w2) :
    Calls Try.prog 41 #[.func (.func fn) #[] caps, .float .f64 inst] w fun e w' => e = .returned (.float .f64 inst) ∧ Below w.heap.size w w' := by
  have hmf : ∀ (fn : Fn) (first cap : Array Value) (w : World), (Instr.makeFunc fn first cap).run Try.prog w = .ok (.func fn first cap) w := fun _ _ _ _ => rfl
  have hst := run_store_float Try.prog
  have h' : Hid (∀ w1, Below w.heap.size w w1 → Calls Try.prog fn caps w1 fun e w2 => (∃ x : Int, e = .panicked (thrown x)) ∧ Below w1.heap.size w1 w2) := h
  clear h
  go_enter_defers Try.func41, Try.ntmps41
  go_wp2_with fail
  refine (h'.out _ (((Below.refl _ w).alloc (Nat.le_refl _) _).alloc (by simp) _)).mono ?_
  rintro e w2 ⟨⟨x, rfl⟩, hb⟩
  have f0 := hb.cell (p := ⟨w.heap.size, 0, none⟩) (by simp only [World.size_alloc]; omega)
  have f1 := hb.cell (p := ⟨w.heap.size + 1, 0, none⟩) (by simp)
  have f2 := hb.frozen (p := ⟨w.heap.size + 1, 0, none⟩) (by simp)
  simp [go_sem] at f0 f1 f2
  go_wp2
  refine leaves_cons (f := 55) (args := #[.pointer (some ⟨w.heap.size, 0, none⟩), .pointer (some ⟨w.heap.size + 1, 0, none⟩)]) (by simp) (by simp [go_sem]) ?_
  refine (catch_f64 ⟨w.heap.size, 0, none⟩ ⟨w.heap.size + 1, 0, none⟩ x inst _ f0 (by rw [f1]; rfl) f2).mono ?_
  rintro e u' w'' ⟨rfl, rfl, rfl⟩
  have hl : Below w.heap.size w (w2.setCell ⟨w.heap.size + 1, 0, none⟩ (.float .f64 inst)) :=
    ((((Below.refl _ w).alloc (Nat.le_refl _) _).alloc (by simp) _).trans (hb.mono (by simp only [World.size_alloc]; omega))).setCell (Nat.le_succ _) _
  simp [Leaves, settle, results, Try.results41, go_sem, f1, hl]
end Go.Proofs.Ytlchjfdnkplmmaa
