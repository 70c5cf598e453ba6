import Derived.Test.YtimfipkbddpdmaaGreatDoorMy
import Derived.Deep.Cut
set_option linter.unusedVariables false
set_option linter.unusedSimpArgs false
set_option maxRecDepth 100000
open Go Go.RowKit
namespace Go.Proofs.YtimfipkbddpdmaaGreatDoor
def c00 : Cp := ⟨List.replicate 32 0, 0, 0, 0, 0, false, 0, false⟩
def g00 : Gv := ⟨.slice none 0 0, .slice none 0 0, 0, .slice none 0 0⟩
theorem z66 : (mcells c00 g00).toArray = #[.int .u32 0, .int .u32 0, .int .u32 0, .int .u32 0, .int .u32 0, .int .u32 0, .int .u32 0, .int .u32 0, .int .u32 0, .int .u32 0, .int .u32 0, .int .u32 0, .int .u32 0, .int .u32 0, .int .u32 0, .int .u32 0, .int .u32 0, .int .u32 0, .int .u32 0, .int .u32 0, .int .u32 0, .int .u32 0, .int .u32 0, .int .u32 0, .int .u32 0, .int .u32 0, .int .u32 0, .int .u32 0, .int .u32 0, .int .u32 0, .int .u32 0, .int .u32 0, .int .u32 0, .int .u32 0, .int .u32 0, .int .u32 0, .bool false, .int .u32 0, .bool false, .slice none 0 0, .slice none 0 0, .int .u64 0, .slice none 0 0] := rfl
theorem c00_len : c00.r.length = 32 := rfl
theorem boxD (w : World) (c : Cp) (g : Gv) : ∃ W, ((w.alloc (.cells (mcells c g).toArray 66)).alloc (.cells #[.int .u32 0, .int .u32 0, .int .u32 0, .int .u32 0, .int .u32 0, .int .u32 0, .int .u32 0, .int .u32 0, .int .u32 0, .int .u32 0, .int .u32 0, .int .u32 0, .int .u32 0, .int .u32 0, .int .u32 0, .int .u32 0, .int .u32 0, .int .u32 0, .int .u32 0, .int .u32 0, .int .u32 0, .int .u32 0, .int .u32 0, .int .u32 0, .int .u32 0, .int .u32 0, .int .u32 0, .int .u32 0, .int .u32 0, .int .u32 0, .int .u32 0, .int .u32 0, .int .u32 0, .int .u32 0, .int .u32 0, .int .u32 0, .bool false, .int .u32 0, .bool false, .slice none 0 0, .slice none 0 0, .int .u64 0, .slice none 0 0] 66)).alloc (.cells #[.int .i64 0, .int .u32 0, .int .u32 0, .int .i64 0, .int .u64 0] 40) = W /\ Below w.heap.size w W /\ W.heap.size = w.heap.size + 3 /\ Mb c g w.heap.size W /\ Mb c00 g00 (w.heap.size + 1) W /\ Eb noEv (w.heap.size + 1 + 1) W := by
 have hz2 : w.heap.size + 1 + 1 = ((w.alloc (.cells (mcells c g).toArray 66)).alloc (.cells #[.int .u32 0, .int .u32 0, .int .u32 0, .int .u32 0, .int .u32 0, .int .u32 0, .int .u32 0, .int .u32 0, .int .u32 0, .int .u32 0, .int .u32 0, .int .u32 0, .int .u32 0, .int .u32 0, .int .u32 0, .int .u32 0, .int .u32 0, .int .u32 0, .int .u32 0, .int .u32 0, .int .u32 0, .int .u32 0, .int .u32 0, .int .u32 0, .int .u32 0, .int .u32 0, .int .u32 0, .int .u32 0, .int .u32 0, .int .u32 0, .int .u32 0, .int .u32 0, .int .u32 0, .int .u32 0, .int .u32 0, .int .u32 0, .bool false, .int .u32 0, .bool false, .slice none 0 0, .slice none 0 0, .int .u64 0, .slice none 0 0] 66)).heap.size := by simp
 refine ⟨_, rfl, (((Below.refl _ _).alloc (Nat.le_refl _) _).alloc (by simp) _).alloc (by simp only [World.size_alloc]; omega) _, by simp, ?_, ?_, ?_⟩
 ·exact ((heap_alloc_old _ _ (by simp; omega)).trans (heap_alloc_old _ _ (by simp))).trans (heap_alloc_new w _)
 ·exact (heap_alloc_old _ _ (by simp)).trans ((heap_alloc2_new w _ _).trans (by rw [<- z66]))
 ·show _ = _
  rw [hz2]
  exact (heap_alloc_new _ _).trans rfl
theorem setRow_mb {w : World} {n : Nat} {c c' : Cp} {g g' : Gv} (h : Mb c g n w) : Mb c' g' n (w.setRow n (mcells c' g').toArray) := setRow_heap w n _ _ 66 _ h
theorem grown_setRow (w : World) (n : Nat) (X : Array Value) : w.grownBy (w.setRow n X) (some n) :=
 ⟨rfl, rfl, rfl, Nat.le_of_eq (by simp), fun j _ hk => by
  unfold World.setRow
  simp only [Array.getElem?_modify]
  rw [if_neg (fun e => hk (by rw [e]))]⟩
theorem one_mc (c : Cp) (g : Gv) (hs : (∃ a n p, g.vm = .slice a n p) /\ (∃ a n p, g.vc = .slice a n p) /\ (∃ a n p, g.vp = .slice a n p)) : (mcells c g).toArray.all (·.oneCell') = true := by
 obtain ⟨⟨am, nm, pm, em⟩, ⟨ac, nc, pc, ec⟩, ⟨ap, np, pp, ep⟩⟩ := hs
 rw [List.all_toArray, List.all_eq_true]
 intro x hx
 unfold mcells Cp.regs Cp.tail Gv.cells at hx
 rw [em, ec, ep] at hx
 simp only [List.mem_append, List.mem_map, List.mem_cons, List.not_mem_nil, or_false] at hx
 rcases hx with ⟨y, _, rfl⟩ | (rfl | rfl | rfl | rfl | rfl | rfl | rfl) | (rfl | rfl | rfl | rfl) <;> rfl
theorem mc_size (c : Cp) (g : Gv) (hl : c.r.length = 32) : (mcells c g).toArray.size = 43 := by
 rw [List.size_toArray, mc_cells, List.length_append, cells_len c hl]; rfl
theorem assert_ev (v : Ev) (w : World) : (Instr.typeAssert (.iface 40 v.val) 20 40 true).run Tryz.prog w = .ok (.tuple #[v.val, .bool true]) w := by
 kernel_rfl
theorem assert_no (w : World) : (Instr.typeAssert .nilIface 20 40 true).run Tryz.prog w = .ok (.tuple #[.agg #[.int .i64 0, .int .u32 0, .int .u32 0, .int .i64 0, .int .u64 0], .bool false]) w := by
 kernel_rfl
def evA (v : Ev) : Array Value := #[.int .i64 v.kind, .int .u32 v.code, .int .u32 v.at_, .int .i64 v.fk, .int .u64 v.fa]
def evL (v : Ev) : List Value := [.int .i64 v.kind, .int .u32 v.code, .int .u32 v.at_, .int .i64 v.fk, .int .u64 v.fa]
theorem load40 {v : Ev} {r : Nat} {w : World} (h : Eb v r w) : (loadVar 40 ⟨r, 0, none⟩).run Tryz.prog w = .ok (.agg (evL v).toArray) w := by
 have h' : w.heap[r]? = some (.cells (evL v ++ []).toArray 40 (0, 0)) := by rw [List.append_nil]; exact h
 exact load_pre w r 40 40 5 (evL v) [] _ h' (by rfl) (by rfl) (by rfl) rfl
theorem info66 : (Tryz.prog.info? 66).map (·.size) = some 43 := by rfl
theorem wp_q {P : Program} {c : Code} {Q : Exit -> Act -> World -> Prop} {a : Act} {w : World} (hp : ∀ c d v a w, Q (.panic c) (Act.put a d v) w -> Q (.panic c) a w) (h : ∀ Q', Hid (∀ e a w, Q e a w -> Q' e a w) -> (∀ c d v a w, Q' (.panic c) (Act.put a d v) w -> Q' (.panic c) a w) -> c.wp P Q' a w) : c.wp P Q a w := h Q (fun _ _ _ h => h) hp
theorem wpAnyH_store {P : Program} {md : Region.Mode} {ops : Array Oper} {Q : Exit -> Act -> World -> Prop} {S : World -> Prop} {i : Nat} {o : Oper} {fuel : Nat} {listed : Array Bool} {a : Act} {w : World} (hr : Region.ready md ops listed = [i]) (ho : ops[i]? = some o) (hgd : o.guard = none) (hd : o.dst = none)
  (ty : TypeId) (x y : Operand) (hop : o.op = .store ty x y) (g : Nat) (cells : Array Value) (hx : a.eval x = .pointer (some ⟨g, 0, none⟩)) (hy : a.eval y = .agg cells)
  (t : TypeId) (old : Array Value) (hg : w.heap[g]? = some (.cells old t (0, 0))) (hi : (P.info? ty).map (·.size) = some cells.size) (hold : old.size = cells.size) (h1 : cells.all (·.oneCell') = true)
  (hS : S (w.setRow g cells)) (h : wpAnyH P md ops Q S fuel (listed.setIfInBounds i true) a (w.setRow g cells)) : wpAnyH P md ops Q S (fuel + 1) listed a w := by
 refine wpAnyH_all (rs := [i]) hr (by simp) ?_
 intro j hj
 obtain rfl : j = i := by simpa using hj
 refine wpOp_step ho ?_
 intro K hK
 simp only [Region.wanted, hgd, if_true]
 refine wp_store_row ty x y hop g cells hx hy t old hg hi hold h1 ?_
 rw [hd]
 exact hK _ _ ⟨hS, h⟩
theorem info40 : (Tryz.prog.info? 40).map (·.size) = some 5 := by rfl
theorem setRow_eb {w : World} {n : Nat} {v u : Ev} (h : Eb u n w) : Eb v n (w.setRow n (evA v)) := setRow_heap w n _ _ 40 _ h
theorem idle43 (p q r : Addr) (w : World) :
  CallsD Tryz.prog 43 #[.pointer (some p), .pointer (some q), .pointer (some r)] .returning w fun e u' w' => e = .returned (.tuple #[]) /\ u' = .returning /\ Below w.heap.size w w' := by
 have ha := assert_no
 refine callsD_of_wpS Tryz.func43 rfl fun c₀ cs hu => ?_
 apply wpS_seq
 apply wpS_region
 simp [wpOpsS, go_sem, recoverD, hu, ha, Tryz.ntmps43, Exit.thenS]
 apply wpS_seq
 apply wpS_region
 simp [wpOpsS, go_sem, Exit.thenS]
 refine wpS_cond (t := false) (by simp [Act.eval, Array.replicate]) ?_
 simp only [Bool.false_eq_true, if_false]
 refine wpS_of_wp (wp_skip ?_)
 cases c₀
 have hb : Below w.heap.size w (w.alloc (.cells #[.int .i64 0, .int .u32 0, .int .u32 0, .int .i64 0, .int .u64 0] 40)) := (Below.refl _ _).alloc (Nat.le_refl _) _
 simp_all [bodyPostS, results, Tryz.results43]
set_option maxHeartbeats 1000000 in
theorem catch43 (c c1 : Cp) (g g1 : Gv) (v u : Ev) (b1 b2 b3 : Nat) (w : World) (hl : c.r.length = 32) (hl1 : c1.r.length = 32) (hs : (∃ a n p, g.vm = .slice a n p) /\ (∃ a n p, g.vc = .slice a n p) /\ (∃ a n p, g.vp = .slice a n p)) (h1 : Mb c g b1 w) (h2 : Mb c1 g1 b2 w) (h3 : Eb u b3 w) (h12 : b1 ≠ b2) (h13 : b1 ≠ b3) (h23 : b2 ≠ b3) :
  CallsD Tryz.prog 43 #[.pointer (some ⟨b1, 0, none⟩), .pointer (some ⟨b2, 0, none⟩), .pointer (some ⟨b3, 0, none⟩)] (.panicking (thrownE v)) w fun e u' w' =>
   e = .returned (.tuple #[]) /\ u' = .panicking [{ v := .iface 40 v.val, recovered := true }] /\ w' = (((w.alloc (.cells (evA v) 40)).drew).setRow b2 (mcells c g).toArray).setRow b3 (evA v) := by
 have ha := assert_ev v
 obtain ⟨kd, cd, at_, fk, fa⟩ := v
 unfold evA
 simp only [thrownE, Ev.val] at ha |-
 have h1' : Hid (Mb c g b1 w) := h1
 have h2' : Hid (Mb c1 g1 b2 w) := h2
 have h3' : Hid (Eb u b3 w) := h3
 clear h1 h2 h3
 refine callsD_of_wpS Tryz.func43 rfl fun c₀ cs hu => ?_
 apply wpS_seq
 apply wpS_region
 simp [wpOpsS, go_sem, recoverD, hu, ha, Tryz.ntmps43, Exit.thenS]
 apply wpS_seq
 apply wpS_region
 simp [wpOpsS, go_sem, Exit.thenS]
 refine wpS_cond (t := true) (by simp [Act.eval, Array.replicate]) ?_
 simp only [if_true]
 refine wpS_of_wp ?_
 obtain ⟨X, hX⟩ : ∃ z, w.alloc (.cells #[.int .i64 kd, .int .u32 cd, .int .u32 at_, .int .i64 fk, .int .u64 fa] 40) = z := ⟨_, rfl⟩
 have hbX : Below w.heap.size w X := by rw [<- hX]; exact (Below.refl _ _).alloc (Nat.le_refl _) _
 have heX : Eb ⟨kd, cd, at_, fk, fa⟩ w.heap.size X := by rw [<- hX]; exact heap_alloc_new w _
 have hb1 := h1'.out.keep hbX
 have hb2 := h2'.out.keep hbX
 have hb3 := h3'.out.keep hbX
 have hn2 : w.heap.size ≠ b2 := by have := h2'.out.lt; omega
 have hn3 : w.heap.size ≠ b3 := by have := h3'.out.lt; omega
 have hd1 : Mb c g b1 X.drew := hb1.keep (Below.refl _ _).drew
 have hd2 : Mb c1 g1 b2 X.drew := hb2.keep (Below.refl _ _).drew
 have hd3 : Eb u b3 X.drew := hb3.keep (Below.refl _ _).drew
 have hdX : Eb ⟨kd, cd, at_, fk, fa⟩ w.heap.size X.drew := heX.keep (Below.refl _ _).drew
 have hg4 := grown_setRow X.drew b2 (mcells c g).toArray
 have hk1 := hd1.row hg4 (by intro e; injection e with e; exact h12 e)
 have hkX := hdX.row hg4 hn2
 have hk3 := hd3.row hg4 h23.symm
 rw [hX]
 refine wp_q (by intro c d v a w h; cases d <;> exact h) (fun Q HQ hQp => ?_)
 refine wp_region_held_drew (S := fun w' => Mb c g b1 w' /\ Eb ⟨kd, cd, at_, fk, fa⟩ w.heap.size w') (by kernel_rfl) ⟨hd1, hdX⟩ (fun hS => ?_)
 refine wpAnyH_take (i := 0) (v := .agg (mcells c g).toArray) rfl (by kernel_rfl) (by kernel_rfl) (by kernel_rfl) (fun _ _ _ h => hQp _ _ _ _ _ h) (Or.inl ⟨by rfl, fun w hSw => ?_⟩) hS ?_
 ·dsimp only at hSw; have hl := load66 hl hSw.1; simp [execOp, Instr.loadAt, Instr.sureAddr, Act.eval, hl]
 simp only [Act.put]
 refine wpAnyH_take (i := 1) (v := .agg #[.int .i64 kd, .int .u32 cd, .int .u32 at_, .int .i64 fk, .int .u64 fa]) rfl (by kernel_rfl) (by kernel_rfl) (by kernel_rfl) (fun _ _ _ h => hQp _ _ _ _ _ h) (Or.inl ⟨by rfl, fun w hSw => ?_⟩) hS ?_
 ·dsimp only at hSw; have hl := load40 hSw.2; simp only [evL] at hl; simp [execOp, Instr.loadAt, Instr.sureAddr, Act.eval, hl]
 simp only [Act.put]
 refine wpAnyH_store (i := 2) (by kernel_rfl) rfl rfl rfl 66 (.tmp 1) (.tmp 11) rfl b2 (mcells c g).toArray (by simp [Act.eval]) (by simp [Act.eval]) 66 (mcells c1 g1).toArray hd2 (by rw [mc_size c g hl]; exact info66) (by rw [mc_size c g hl, mc_size c1 g1 hl1]) (one_mc c g hs) ⟨hk1, hkX⟩ ?_
 have hg5 := grown_setRow (X.drew.setRow b2 (mcells c g).toArray) b3 #[.int .i64 kd, .int .u32 cd, .int .u32 at_, .int .i64 fk, .int .u64 fa]
 refine wpAnyH_store (i := 3) (by kernel_rfl) rfl rfl rfl 40 (.tmp 2) (.tmp 12) rfl b3 #[.int .i64 kd, .int .u32 cd, .int .u32 at_, .int .i64 fk, .int .u64 fa] (by simp [Act.eval]) (by simp [Act.eval]) 40 _ hk3 info40 rfl (by simp [Value.oneCell']) ⟨hk1.row hg5 (by intro e; injection e with e; exact h13 e), hkX.row hg5 hn3⟩ ?_
 refine wpAnyH_done (by kernel_rfl) (HQ.out _ _ _ ?_) _
 clear HQ hQp hS hk1 hkX hk3 hd1 hd2 hd3 hdX hb1 hb2 hb3 hg4 hg5 hbX heX hX h1' h2' h3' hs
 cases c₀
 simp_all [bodyPostS, results, Tryz.results43]
def stepR (M : Mem) (c : Cp) (cs : List (Nat × Int)) : Ev × Cp × List (Nat × Int) := match insR M c cs with
 | .ok x => (x.1, x.2.1, x.2.2)
 | .error ev => (ev, c, cs)
theorem below_row {w w1 w2 : World} {n : Nat} (h : Below w.heap.size w w1) (hg : w1.grownBy w2 (some n)) (hn : w.heap.size <= n) : Below w.heap.size w w2 :=
 ⟨hg.os.trans h.os, hg.tape.trans h.tape, hg.output.trans h.output, Nat.le_trans h.size hg.size, fun k hk => (hg.block k (Nat.lt_of_lt_of_le hk h.size) (by intro e; injection e with e; omega)).trans (h.block k hk)⟩
theorem results20 {c : Cp} {g : Gv} {v : Ev} {b2 b3 : Nat} {w : World} (h2 : Mb c g b2 w) (hl : c.r.length = 32) (h3 : Eb v b3 w) : ∀ tmps : Array Value, tmps[2]?.getD undef = .pointer (some ⟨b2, 0, none⟩) -> tmps[3]?.getD undef = .pointer (some ⟨b3, 0, none⟩) -> (results Tryz.f20 tmps).run Tryz.prog w = .ok (.tuple #[.agg (mcells c g).toArray, .agg (evL v).toArray]) w := by
 intro tmps e2 e3
 have l1 := load66 hl h2
 have l2 := load40 h3
 simp [results, Tryz.results20, e2, e3, asAddr, l1, l2]
theorem fin_err {c c1 : Cp} {g g1 : Gv} {M : Mem} {cs : List (Nat × Int)} {w w3 w' : World} (m2 : Mb c1 g1 (w.heap.size + 1) w3) (m3 : Eb noEv (w.heap.size + 1 + 1) w3) (o3 : Gm.OwnG 0 w3 g.vm g.vc g.vp M.ms cs M.ps) (b3 : Below w.heap.size w w3) (ev : Ev)
  (hw : w' = (((w3.alloc (.cells (evA ev) 40)).drew).setRow (w.heap.size + 1) (mcells c g).toArray).setRow (w.heap.size + 1 + 1) (evA ev)) : Mb c g (w.heap.size + 1) w' /\ Eb ev (w.heap.size + 1 + 1) w' /\ Gm.OwnG 0 w' g.vm g.vc g.vp M.ms cs M.ps /\ Below w.heap.size w w' := by
 have hb4 : Below w3.heap.size w3 (w3.alloc (.cells (evA ev) 40)).drew := ((Below.refl _ _).alloc (Nat.le_refl _) _).drew
 have n2 := m2.keep hb4
 have n3 := m3.keep hb4
 have p2 : Mb c g (w.heap.size + 1) _ := setRow_mb (c' := c) (g' := g) n2
 have g5 := grown_setRow ((w3.alloc (.cells (evA ev) 40)).drew) (w.heap.size + 1) (mcells c g).toArray
 have p3 := n3.row g5 (by omega)
 have q3 : Eb ev (w.heap.size + 1 + 1) _ := setRow_eb (v := ev) p3
 have g6 := grown_setRow (((w3.alloc (.cells (evA ev) 40)).drew).setRow (w.heap.size + 1) (mcells c g).toArray) (w.heap.size + 1 + 1) (evA ev)
 have q2 := p2.row g6 (by intro e; injection e with e; omega)
 have o5 := owng_row (o3.keep hb4) n2 (by decide) g5
 have o6 := owng_row o5 p3 (by decide) g6
 subst hw
 exact ⟨q2, q3, o6, below_row (below_row (below_tr b3 hb4) g5 (by omega)) g6 (by omega)⟩
theorem ins_len {M : Mem} {c : Cp} {cs : List (Nat × Int)} {x : Ev × (Cp × List (Nat × Int))} (hc : c.Ok) (h : insR M c cs = .ok x) : x.2.1.r.length = 32 := by
 unfold insR at h
 cases hf : fetR M cs c.pc with
 | error e => rw [hf] at h; injection h
 | ok n =>
 rw [hf] at h
 simp only at h
 split at h
 ·injection h
 ·cases hw : wayN (decN n) c with
  | some y =>
   rw [hw] at h
   injection h with h
   rw [<- h]
   exact (put_len _ _ _).trans hc.len
  | none =>
   rw [hw] at h
   simp only at h
   cases hr : workR M c cs (decN n) (rg c (decN n).rs) (rg c (decN n).rt) with
   | error e => rw [hr] at h; injection h
   | ok z => rw [hr] at h; injection h with h; rw [<- h]; show z.1.r.length = 32; exact work_len hc hr
theorem wp_np {P : Program} {c : Code} {Q : Exit -> Act -> World -> Prop} {a : Act} {w : World} (h : ∀ Q', Hid (∀ a w, Q .normal a w -> Q' .normal a w) -> (∀ c d v a w, Q' (.panic c) (Act.put a d v) w -> Q' (.panic c) a w) -> c.wp P Q' a w) : c.wp P Q a w :=
 wp_mono (h (fun e a w => (∀ c, e ≠ .panic c) /\ Q e a w) (fun a w hq => ⟨(fun c hc => nomatch hc), hq⟩) (fun c d v a w hq => absurd rfl (hq.1 c))) (fun e a w hq => hq.2)
set_option maxHeartbeats 4000000 in
theorem done20 (M : Mem) (c : Cp) (cs : List (Nat × Int)) (g : Gv) (w : World) (hc : c.Ok) (hd : Gm.OwnG 0 w g.vm g.vc g.vp M.ms cs M.ps) (he : g.bs = M.bs) (hG : Good M cs) (hT : Tab w) :
  Calls Tryz.prog 20 #[.agg (mcells c g).toArray] w fun e w' => Below w.heap.size w w' /\ ∃ g' : Gv, e = .returned (.tuple #[.agg (mcells (stepR M c cs).2.1 g').toArray, (stepR M c cs).1.val]) /\ g'.bs = M.bs /\ Gm.OwnG 0 w' g'.vm g'.vc g'.vp M.ms (stepR M c cs).2.2 M.ps := by
 obtain ⟨post, hpost⟩ : ∃ p : Ending -> World -> Prop, p = fun e w' => Below w.heap.size w w' /\ ∃ g' : Gv, e = .returned (.tuple #[.agg (mcells (stepR M c cs).2.1 g').toArray, (stepR M c cs).1.val]) /\ g'.bs = M.bs /\ Gm.OwnG 0 w' g'.vm g'.vc g'.vp M.ms (stepR M c cs).2.2 M.ps := ⟨_, rfl⟩
 rw [<- hpost]
 have HP : Hid (∀ w' g', Below w.heap.size w w' -> g'.bs = M.bs -> Gm.OwnG 0 w' g'.vm g'.vc g'.vp M.ms (stepR M c cs).2.2 M.ps -> post (.returned (.tuple #[.agg (mcells (stepR M c cs).2.1 g').toArray, .agg (evL (stepR M c cs).1).toArray])) w') := fun w' g' h1 h2 h3 => by rw [hpost]; exact ⟨h1, g', rfl, h2, h3⟩
 have HS : Hid (stepR M c cs = match insR M c cs with | .ok x => (x.1, x.2.1, x.2.2) | .error ev => (ev, c, cs)) := rfl
 clear hpost
 have hmf : ∀ (fn : Fn) (first cap : Array Value) (w : World), (Instr.makeFunc fn first cap).run Tryz.prog w = .ok (.func fn first cap) w := fun _ _ _ _ => rfl
 obtain ⟨W, hW, hb, hz, hb1, hb2, hb3⟩ := boxD w c g
 have H0 : Hid (Below w.heap.size w W /\ Mb c g w.heap.size W /\ Mb c00 g00 (w.heap.size + 1) W /\ Eb noEv (w.heap.size + 1 + 1) W /\ Gm.OwnG 0 W g.vm g.vc g.vp M.ms cs M.ps /\ Tab W) := ⟨hb, hb1, hb2, hb3, hd.keep hb, hT.keep hb⟩
 have HC : Hid (c.Ok /\ g.bs = M.bs /\ Good M cs) := ⟨hc, he, hG⟩
 have hA : (mcells c g).toArray.size = 43 := mc_size c g hc.len
 have hone : (mcells c g).toArray.all (·.oneCell') = true := one_mc c g (by obtain ⟨a, n, p, a', n', p', a'', n'', p'', h1, h2, h3⟩ := (own_slg hd).shape; exact ⟨⟨_, _, _, h1⟩, ⟨_, _, _, h2⟩, ⟨_, _, _, h3⟩⟩)
 have HX : Hid (W.heap[w.heap.size]? = some (.cells (mcells c g).toArray 66 (0, 0)) /\ W.heap[w.heap.size + 1]? = some (.cells (mcells c00 g00).toArray 66 (0, 0)) /\ (mcells c g).toArray.size = 43 /\ (mcells c g).toArray.all (·.oneCell') = true) := ⟨hb1, hb2, hA, hone⟩
 have hm2 : Mb c g (w.heap.size + 1) (W.setRow (w.heap.size + 1) (mcells c g).toArray) := setRow_mb hb2
 have hg2 := grown_setRow W (w.heap.size + 1) (mcells c g).toArray
 have H2 : Hid (MS M c cs g (w.heap.size + 1) (W.setRow (w.heap.size + 1) (mcells c g).toArray) /\ Mb c g w.heap.size (W.setRow (w.heap.size + 1) (mcells c g).toArray) /\ Eb noEv (w.heap.size + 1 + 1) (W.setRow (w.heap.size + 1) (mcells c g).toArray) /\ Tab (W.setRow (w.heap.size + 1) (mcells c g).toArray) /\ Below w.heap.size w (W.setRow (w.heap.size + 1) (mcells c g).toArray)) :=
  ⟨⟨hm2, he, owng_row (hd.keep hb) hb2 (by decide) hg2⟩, hb1.row hg2 (by simp), hb3.row hg2 (by omega), hT.keep (below_row hb hg2 (by omega)), below_row hb hg2 (by omega)⟩
 obtain ⟨W2, hW2⟩ : ∃ z, W.setRow (w.heap.size + 1) (mcells c g).toArray = z := ⟨_, rfl⟩
 rw [hW2] at H2
 have K44 := instruction44 M c cs g (w.heap.size + 1) W2 hc H2.out.1 hG H2.out.2.2.2.1
 generalize stepR M c cs = SR at HS HP
 have HLN : Hid (∀ x, insR M c cs = .ok x -> x.2.1.r.length = 32) := fun x hx => ins_len hc hx
 generalize insR M c cs = IR at HS K44 HLN
 have hsh : (∃ a n p, g.vm = .slice a n p) /\ (∃ a n p, g.vc = .slice a n p) /\ (∃ a n p, g.vp = .slice a n p) := H2.out.1.shapes
 have HSH : Hid _ := hsh
 clear hsh
 have HAA : Hid ((mcells c g).toArray = (mcells c g).toArray) := rfl
 obtain ⟨A, hAA⟩ : ∃ z, (mcells c g).toArray = z := ⟨_, rfl⟩
 have HA : Hid ((mcells c g).toArray = A) := hAA
 rw [hAA] at hW HX hW2 |-
 clear hAA HAA
 clear hb hz hb1 hb2 hb3 hd he hG hT hc hA hone hm2 hg2
 go_enter_defers Tryz.func20, Tryz.ntmps20
 go_upto_region 2 with fail
 refine wp_region_list ?_
 refine wpList_load_row rfl 66 (.tmp 1) rfl w.heap.size (by simp [Act.eval]) 66 A (0, 0) _ HX.out.1 (by rfl) (by rfl) (by rw [HX.out.2.2.1]; exact info66) ?_
 simp only [Act.put]
 refine wpList_store_row rfl 66 (.tmp 2) (.tmp 5) rfl (w.heap.size + 1) A (by simp [Act.eval]) (by simp [Act.eval]) 66 _ HX.out.2.1 (by rw [HX.out.2.2.1]; exact info66) (by rw [HX.out.2.2.1]; exact mc_size _ _ c00_len) HX.out.2.2.2 ?_
 simp only [Act.put]
 rw [hW2]
 refine wpList_nil ?_
 go_wp2_with fail
 refine K44.mono ?_
 rintro e w3 ⟨hg3, hR3⟩
 have m1 : Mb c g w.heap.size w3 := H2.out.2.1.row hg3 (by simp)
 have m3 : Eb noEv (w.heap.size + 1 + 1) w3 := H2.out.2.2.1.row hg3 (by omega)
 have o3 := owng_row H2.out.1.d H2.out.1.m (by decide) hg3
 have b3 : Below w.heap.size w w3 := below_row H2.out.2.2.2.2 hg3 (by omega)
 clear K44 hW hW2 HX
 cases IR with
 | error ev =>
  obtain ⟨rfl, c1, g1, m2, l2⟩ := hR3
  obtain rfl : SR = (ev, c, cs) := HS.out
  have H3 : Hid (Mb c g w.heap.size w3 /\ Mb c1 g1 (w.heap.size + 1) w3 /\ c1.r.length = 32 /\ Eb noEv (w.heap.size + 1 + 1) w3 /\ Gm.OwnG 0 w3 g.vm g.vc g.vp M.ms cs M.ps /\ Below w.heap.size w w3) := ⟨m1, m2, l2, m3, o3, b3⟩
  clear m1 m2 l2 m3 o3 b3 hg3 H0 H2 HS HA
  go_wp2
  refine leaves_cons (f := 43) (args := #[.pointer (some ⟨w.heap.size, 0, none⟩), .pointer (some ⟨w.heap.size + 1, 0, none⟩), .pointer (some ⟨w.heap.size + 1 + 1, 0, none⟩)]) (by simp) (by simp [go_sem]) ?_
  refine (catch43 c c1 g g1 ev noEv w.heap.size (w.heap.size + 1) (w.heap.size + 1 + 1) w3 HC.out.1.len H3.out.2.2.1 HSH.out H3.out.1 H3.out.2.1 H3.out.2.2.2.1 (by omega) (by omega) (by omega)).mono ?_
  rintro e u' w'' ⟨rfl, rfl, hw⟩
  have HF := fin_err H3.out.2.1 H3.out.2.2.2.1 H3.out.2.2.2.2.1 H3.out.2.2.2.2.2 ev hw
  have hres := results20 HF.1 HC.out.1.len HF.2.1
  have hpp := HP.out w'' g HF.2.2.2 HC.out.2.1 HF.2.2.1
  clear hw HF
  simp [Leaves, settle, hres, hpp]
 | ok x =>
  have hlen := HLN.out x rfl
  obtain ⟨⟨kd, cd, at_, fk, fa⟩, c2, cs2⟩ := x
  obtain ⟨rfl, g2, hM2⟩ := hR3
  obtain rfl : SR = (⟨kd, cd, at_, fk, fa⟩, c2, cs2) := HS.out
  simp only at hM2 hlen
  obtain ⟨e0, e1, e2, e3, e4⟩ := m3.cells
  have z0 := m3.frozen 0
  have z1 := m3.frozen 1
  have z2 := m3.frozen 2
  have z3 := m3.frozen 3
  have z4 := m3.frozen 4
  have n3 : Eb ⟨kd, cd, at_, fk, fa⟩ (w.heap.size + 1 + 1) (setE w3 (w.heap.size + 1 + 1) ⟨kd, cd, at_, fk, fa⟩) := m3.set
  have g4 := grown_setE w3 (w.heap.size + 1 + 1) ⟨kd, cd, at_, fk, fa⟩
  have n2 := hM2.far m3 (by decide) (by omega) g4
  have b4 := below_row b3 g4 (by omega)
  unfold setE at n3 n2 b4
  simp only at n3 n2 b4
  obtain ⟨W4, hW4⟩ : ∃ z, ((((w3.setCell ⟨w.heap.size + 1 + 1, 0, none⟩ (.int .i64 kd)).setCell ⟨w.heap.size + 1 + 1, 1, none⟩ (.int .u32 cd)).setCell ⟨w.heap.size + 1 + 1, 2, none⟩ (.int .u32 at_)).setCell ⟨w.heap.size + 1 + 1, 3, none⟩ (.int .i64 fk)).setCell ⟨w.heap.size + 1 + 1, 4, none⟩ (.int .u64 fa) = z := ⟨_, rfl⟩
  rw [hW4] at n3 n2 b4
  have H4 : Hid (MS M c2 cs2 g2 (w.heap.size + 1) W4 /\ Eb ⟨kd, cd, at_, fk, fa⟩ (w.heap.size + 1 + 1) W4 /\ Below w.heap.size w W4 /\ c2.r.length = 32) := ⟨n2, n3, b4, hlen⟩
  unfold noEv at e0 e1 e2 e3 e4
  simp only at e0 e1 e2 e3 e4
  unfold Ev.val
  clear m1 m3 o3 b3 hg3 H0 H2 HS HA n3 n2 b4 hM2 g4 hlen HLN HC HSH
  go_upto_region 4 with fail
  have hd := H4.out.1.keep (Below.refl _ _).drew
  have hd3 := H4.out.2.1.keep (Below.refl _ _).drew
  have g5 := grown_setRow W4.drew (w.heap.size + 1) (mcells c2 g2).toArray
  have p2 : Mb c2 g2 (w.heap.size + 1) (W4.drew.setRow (w.heap.size + 1) (mcells c2 g2).toArray) := setRow_mb hd.m
  have p3 := hd3.row g5 (by omega)
  have g6 := grown_setRow (W4.drew.setRow (w.heap.size + 1) (mcells c2 g2).toArray) (w.heap.size + 1 + 1) (evA ⟨kd, cd, at_, fk, fa⟩)
  have q2 := p2.row g6 (by intro e; injection e with e; omega)
  have q3 : Eb ⟨kd, cd, at_, fk, fa⟩ (w.heap.size + 1 + 1) _ := setRow_eb (v := ⟨kd, cd, at_, fk, fa⟩) p3
  have o5 := owng_row hd.d hd.m (by decide) g5
  have o6 := owng_row o5 p3 (by decide) g6
  have b6 := below_row (below_row (below_tr H4.out.2.2.1 (Below.refl _ _).drew) g5 (by omega)) g6 (by omega)
  refine wp_np (fun Q HQ hQp => ?_)
  refine wp_region_held_drew (S := fun w' => Mb c2 g2 (w.heap.size + 1) w' /\ Eb ⟨kd, cd, at_, fk, fa⟩ (w.heap.size + 1 + 1) w') (by kernel_rfl) ⟨hd.m, hd3⟩ (fun hS => ?_)
  refine wpAnyH_take (i := 0) (v := .agg (mcells c2 g2).toArray) rfl (by kernel_rfl) (by kernel_rfl) (by kernel_rfl) (fun _ _ _ h => hQp _ _ _ _ _ h) (Or.inl ⟨by rfl, fun w hSw => ?_⟩) hS ?_
  ·dsimp only at hSw; have hl := load66 H4.out.2.2.2 hSw.1; simp [execOp, Instr.loadAt, Instr.sureAddr, Act.eval, hl]
  simp only [Act.put, List.getElem_toArray, List.getElem_cons_zero, List.getElem_cons_succ, List.setIfInBounds_toArray, List.set_cons_zero, List.set_cons_succ]
  refine wpAnyH_take (i := 1) (v := .agg #[.int .i64 kd, .int .u32 cd, .int .u32 at_, .int .i64 fk, .int .u64 fa]) rfl (by kernel_rfl) (by kernel_rfl) (by kernel_rfl) (fun _ _ _ h => hQp _ _ _ _ _ h) (Or.inl ⟨by rfl, fun w hSw => ?_⟩) hS ?_
  ·dsimp only at hSw; have hl := load40 hSw.2; simp only [evL] at hl; simp [execOp, Instr.loadAt, Instr.sureAddr, Act.eval, hl]
  simp only [Act.put, List.getElem_toArray, List.getElem_cons_zero, List.getElem_cons_succ, List.setIfInBounds_toArray, List.set_cons_zero, List.set_cons_succ]
  refine wpAnyH_store (i := 2) (by kernel_rfl) rfl rfl rfl 66 (.tmp 2) (.tmp 7) rfl (w.heap.size + 1) (mcells c2 g2).toArray (by simp [Act.eval]) (by simp [Act.eval]) 66 (mcells c2 g2).toArray hd.m (by rw [mc_size c2 g2 H4.out.2.2.2]; exact info66) rfl (one_mc c2 g2 H4.out.1.shapes) ⟨p2, p3⟩ ?_
  refine wpAnyH_store (i := 3) (by kernel_rfl) rfl rfl rfl 40 (.tmp 3) (.tmp 8) rfl (w.heap.size + 1 + 1) (evA ⟨kd, cd, at_, fk, fa⟩) (by simp [Act.eval]) (by simp [Act.eval, evA]) 40 _ p3 info40 rfl (by simp [evA, Value.oneCell']) ⟨q2, q3⟩ ?_
  refine wpAnyH_done (by kernel_rfl) (HQ.out _ _ ?_) _
  clear HQ hQp
  have H6 : Hid (Mb c2 g2 (w.heap.size + 1) ((W4.drew.setRow (w.heap.size + 1) (mcells c2 g2).toArray).setRow (w.heap.size + 1 + 1) (evA ⟨kd, cd, at_, fk, fa⟩)) /\ Eb ⟨kd, cd, at_, fk, fa⟩ (w.heap.size + 1 + 1) ((W4.drew.setRow (w.heap.size + 1) (mcells c2 g2).toArray).setRow (w.heap.size + 1 + 1) (evA ⟨kd, cd, at_, fk, fa⟩)) /\ Gm.OwnG 0 ((W4.drew.setRow (w.heap.size + 1) (mcells c2 g2).toArray).setRow (w.heap.size + 1 + 1) (evA ⟨kd, cd, at_, fk, fa⟩)) g2.vm g2.vc g2.vp M.ms cs2 M.ps /\ Below w.heap.size w ((W4.drew.setRow (w.heap.size + 1) (mcells c2 g2).toArray).setRow (w.heap.size + 1 + 1) (evA ⟨kd, cd, at_, fk, fa⟩))) := ⟨q2, q3, o6, b6⟩
  generalize (W4.drew.setRow (w.heap.size + 1) (mcells c2 g2).toArray).setRow (w.heap.size + 1 + 1) (evA ⟨kd, cd, at_, fk, fa⟩) = W6 at H6 |-
  clear hd hd3 g5 p2 p3 g6 q2 q3 o5 o6 b6 hS hW4
  go_wp2
  refine leaves_cons (f := 43) (args := #[.pointer (some ⟨w.heap.size, 0, none⟩), .pointer (some ⟨w.heap.size + 1, 0, none⟩), .pointer (some ⟨w.heap.size + 1 + 1, 0, none⟩)]) (by simp) (by simp [go_sem]) ?_
  refine (idle43 ⟨w.heap.size, 0, none⟩ ⟨w.heap.size + 1, 0, none⟩ ⟨w.heap.size + 1 + 1, 0, none⟩ _).mono ?_
  rintro e u' w'' ⟨rfl, rfl, hb''⟩
  have hres := results20 (H6.out.1.keep hb'') H4.out.2.2.2 (H6.out.2.1.keep hb'')
  have hpp := HP.out w'' g2 (below_tr H6.out.2.2.2 hb'') H4.out.1.e (H6.out.2.2.1.keep hb'')
  simp [Leaves, settle, hres, hpp]
set_option maxHeartbeats 1000000 in
theorem built66 (c : Cp) (g : Gv) (hl : c.r.length = 32) : Tryz.prog.built 66 [(0, .agg c.cells.toArray), (1, .agg #[g.vm, g.vc, .int .u64 g.bs, g.vp])] = some (mcells c g).toArray := by
 obtain ⟨r, hi, lo, pc, nx, sl, lk, ld⟩ := c
 obtain ⟨vm, vc, bs, vp⟩ := g
 simp only at hl
 obtain _ | ⟨x0, r⟩ := r
 ·simp at hl
 obtain _ | ⟨x1, r⟩ := r
 ·simp at hl
 obtain _ | ⟨x2, r⟩ := r
 ·simp at hl
 obtain _ | ⟨x3, r⟩ := r
 ·simp at hl
 obtain _ | ⟨x4, r⟩ := r
 ·simp at hl
 obtain _ | ⟨x5, r⟩ := r
 ·simp at hl
 obtain _ | ⟨x6, r⟩ := r
 ·simp at hl
 obtain _ | ⟨x7, r⟩ := r
 ·simp at hl
 obtain _ | ⟨x8, r⟩ := r
 ·simp at hl
 obtain _ | ⟨x9, r⟩ := r
 ·simp at hl
 obtain _ | ⟨x10, r⟩ := r
 ·simp at hl
 obtain _ | ⟨x11, r⟩ := r
 ·simp at hl
 obtain _ | ⟨x12, r⟩ := r
 ·simp at hl
 obtain _ | ⟨x13, r⟩ := r
 ·simp at hl
 obtain _ | ⟨x14, r⟩ := r
 ·simp at hl
 obtain _ | ⟨x15, r⟩ := r
 ·simp at hl
 obtain _ | ⟨x16, r⟩ := r
 ·simp at hl
 obtain _ | ⟨x17, r⟩ := r
 ·simp at hl
 obtain _ | ⟨x18, r⟩ := r
 ·simp at hl
 obtain _ | ⟨x19, r⟩ := r
 ·simp at hl
 obtain _ | ⟨x20, r⟩ := r
 ·simp at hl
 obtain _ | ⟨x21, r⟩ := r
 ·simp at hl
 obtain _ | ⟨x22, r⟩ := r
 ·simp at hl
 obtain _ | ⟨x23, r⟩ := r
 ·simp at hl
 obtain _ | ⟨x24, r⟩ := r
 ·simp at hl
 obtain _ | ⟨x25, r⟩ := r
 ·simp at hl
 obtain _ | ⟨x26, r⟩ := r
 ·simp at hl
 obtain _ | ⟨x27, r⟩ := r
 ·simp at hl
 obtain _ | ⟨x28, r⟩ := r
 ·simp at hl
 obtain _ | ⟨x29, r⟩ := r
 ·simp at hl
 obtain _ | ⟨x30, r⟩ := r
 ·simp at hl
 obtain _ | ⟨x31, r⟩ := r
 ·simp at hl
 obtain _ | ⟨y, r⟩ := r
 ·kernel_rfl
 ·simp at hl
end Go.Proofs.YtimfipkbddpdmaaGreatDoor
