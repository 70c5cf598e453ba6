import Derived.Test.YtimfipkbddpdmaaGreatDoorNi
set_option linter.unusedVariables false
set_option linter.unusedSimpArgs false
set_option maxRecDepth 100000
open Go Go.RowKit
namespace Go.Proofs.YtimfipkbddpdmaaGreatDoor
def pkN (cs : List (Nat × Int)) (a v : Nat) : Nat -> List (Nat × Int)
 | 0 => cs
 | m + 1 => Gm.pokeL (pkN cs a v m) (Gm.cellOf (a + m)) (Gm.pokeW (pkN cs a v m) (a + m) (v / 256 ^ m % 256))
set_option maxHeartbeats 2000000 in
theorem store54l (vm vc : Value) (ms cs : List (Nat × Int)) (a k v : Nat) (w : World) (Bm Bc : Nat) (hm : w.ownsRow Bm 86 2 vm ms.length (Gm.rowOf .i64 ms)) (hc : w.ownsRow Bc 48 2 vc cs.length (Gm.rowOf .u64 cs)) (k1 : 1 <= k) (k8 : k <= 8) (ha : a < 100000) (hv : v < 18446744073709551616)
  (hf : Gm.faultFrom ms a 2 0 k = (0, 0)) (hP : ∀ m, m < k -> Gm.Srt (pkN cs a v m) /\ Gm.Words (pkN cs a v m) /\ (pkN cs a v m).length <= 1000) :
  Calls Tryz.prog 54 #[.agg #[vm, vc], .int .u64 a, .int .i64 k, .int .u64 v] w fun e w' => ∃ s1 s2 s3, e = .returned (.tuple #[.agg #[vm, .slice s1 s2 s3], .agg #[.int .i64 0, .int .u64 0]]) /\ w'.ownsRow w.heap.size 48 2 (.slice s1 s2 s3) (pkN cs a v k).length (Gm.rowOf .u64 (pkN cs a v k)) /\ Below w.heap.size w w' := by
 obtain ⟨W0, hW0, b0, s0, k0⟩ := allocw w [vm, vc] 29
 obtain ⟨W1, hW1, b1, s1, k1'⟩ := allocw W0 z2 29
 obtain ⟨W, hW, b2, s2, k2⟩ := allocw W1 [.int .i64 0, .int .u64 0] 38
 have kA := (k0.keep b1).keep b2
 have kB := k1'.keep b2
 have hb := below_tr b0 (below_tr b1 b2)
 have K68 := Gm.ask48 vm vc ms a k 2 W (Gm.own_sl (Gm.own_keep hm hb)) (by obtain ⟨x, n, p, rfl⟩ := Gm.own_shape hc; exact ⟨_, _, _, rfl⟩) (by omega) k8
 rw [hf] at K68
 obtain ⟨x, nm, p, rfl⟩ := Gm.own_shape hm
 obtain ⟨x', nc, p', rfl⟩ := Gm.own_shape hc
 have HP : Hid (∀ m, m < k -> Gm.Srt (pkN cs a v m) /\ Gm.Words (pkN cs a v m) /\ (pkN cs a v m).length <= 1000) := hP
 have HM : Hid (w.ownsRow Bm 86 2 (.slice x nm p) ms.length (Gm.rowOf .i64 ms)) := hm
 have HC : Hid (w.ownsRow Bc 48 2 (.slice x' nc p') (pkN cs a v 0).length (Gm.rowOf .u64 (pkN cs a v 0))) := hc
 have HV : Hid (v < 18446744073709551616) := hv
 have HK : Hid (Below w.heap.size w W /\ Hk w.heap.size [.slice x nm p, .slice x' nc p'] 29 W /\ Hk W0.heap.size z2 29 W /\ Hk W1.heap.size [.int .i64 0, .int .u64 0] 38 W /\ W0.heap.size = w.heap.size + 1 /\ W1.heap.size = w.heap.size + 2 /\ W.heap.size = w.heap.size + 3) := ⟨hb, kA, kB, k2, s0, by omega, by omega⟩
 obtain ⟨c0, c1⟩ := kA.two
 have hk1 : ¬ (k : Int) < 1 := by omega
 have hk8 : ¬ 8 < (k : Int) := by omega
 clear hP hm hc hv hf b0 s0 k0 b1 s1 k1' b2 s2 k2 kA kB hb
 go_enter Tryz.func54, Tryz.ntmps54
 go_wp2_with fail
 refine K68.mono ?_
 rintro e w1 ⟨rfl, hb1⟩
 clear K68 c0 c1
 obtain ⟨X1, hX1, g1, s1, k3⟩ := allocw w1 [.int .i64 0, .int .u64 0] 38
 obtain ⟨X2, hX2, g2, s2, k4⟩ := set2w X1 w1.heap.size (.int .i64 0) (.int .u64 0)
 have d0 := k3.at_ 0 rfl
 have d1 := k3.at_ 1 rfl
 have f0 := k3.frozen 0
 have f1 := k3.frozen 1
 have k4 := k4 _ _ k3
 obtain ⟨e0, e1⟩ := k4.two
 obtain ⟨hb, kA, kB, kC, l1, l2, l3⟩ := HK.out
 have l4 := hb1.size
 have kA := ((kA.keep hb1).keep g1).row g2 (by omega)
 have kB := ((kB.keep hb1).keep g1).row g2 (by omega)
 have kC := ((kC.keep hb1).keep g1).row g2 (by omega)
 have bX := below_row (below_tr (below_tr hb hb1) g1) g2 (by omega)
 have om := own_row (Gm.own_keep (Gm.own_keep HM.out (below_tr hb hb1)) g1) k3 (by decide) g2
 have oc := own_row (Gm.own_keep (Gm.own_keep HC.out (below_tr hb hb1)) g1) k3 (by decide) g2
 have H2 : Hid (Below w.heap.size w X2 /\ Hk w.heap.size [.slice x nm p, .slice x' nc p'] 29 X2 /\ Hk W0.heap.size z2 29 X2 /\ Hk W1.heap.size [.int .i64 0, .int .u64 0] 38 X2 /\ X2.ownsRow Bm 86 2 (.slice x nm p) ms.length (Gm.rowOf .i64 ms) /\ X2.ownsRow Bc 48 2 (.slice x' nc p') (pkN cs a v 0).length (Gm.rowOf .u64 (pkN cs a v 0))) := ⟨bX, kA, kB, kC, om, oc⟩
 have HL : Hid (W0.heap.size = w.heap.size + 1 /\ W1.heap.size = w.heap.size + 2) := ⟨l1, l2⟩
 clear hb1 g1 s1 k3 k4 g2 s2 hb kA kB kC l1 l2 l3 l4 bX om oc HM HC HK
 go_wp2
 go_loopw [3, 11] (fun u i wr => ∃ m : Nat, m <= k /\ i = .int .i64 m /\ u = .int .u64 ((v / 256 ^ m : Nat) : Int) /\ ∃ B s1 s2 s3, Hk w.heap.size [.slice x nm p, .slice s1 s2 s3] 29 wr /\ Hk W0.heap.size z2 29 wr /\ Hk W1.heap.size [.int .i64 0, .int .u64 0] 38 wr /\ wr.ownsRow Bm 86 2 (.slice x nm p) ms.length (Gm.rowOf .i64 ms) /\ wr.ownsRow B 48 2 (.slice s1 s2 s3) (pkN cs a v m).length (Gm.rowOf .u64 (pkN cs a v m)) /\ (0 < m -> w.heap.size <= B) /\ Below w.heap.size w wr) (fun _ i _ => k - (intOf i).toNat)
 case atStart => obtain ⟨q1, q2, q3, q4, q5, q6⟩ := H2.out; exact ⟨0, Nat.zero_le _, rfl, by simp, Bc, _, _, _, q2, q3, q4, q5, q6, fun h => absurd h (by omega), q1⟩
 case round =>
  clear d0 d1 e0 e1 f0 f1 hX1 hX2
  obtain ⟨m, hmk, rfl, rfl, B, s1, s2, s3, kA, kB, kC, om, oc, hB, bw⟩ := hrel
  obtain ⟨c0, c1⟩ := kA.two
  by_cases hml : m < k
  ·obtain ⟨p1, p2, p3⟩ := HP.out m hml
   obtain ⟨vv, hvv⟩ : ∃ t, t = v / 256 ^ m := ⟨_, rfl⟩
   have hvl : vv < 18446744073709551616 := by rw [hvv]; exact Nat.lt_of_le_of_lt (Nat.div_le_self _ _) HV.out
   have HVN : Hid (v / 256 ^ (m + 1) = vv / 256) := by show _ = _; rw [hvv, Nat.pow_succ, Nat.div_div_eq_div_mul]
   have HPN : Hid (Gm.pokeL (pkN cs a v m) (Gm.cellOf (a + m)) (Gm.pokeW (pkN cs a v m) (a + m) (vv % 256)) = pkN cs a v (m + 1)) := by show _ = _; rw [hvv]; rfl
   have K69 := Gm.poke52 (.slice x nm p) (.slice s1 s2 s3) ms (pkN cs a v m) (a + m) (vv % 256) wr (Gm.own_sl om) (Gm.own_sl oc) p1 (by omega) p2 (by omega) (Nat.mod_lt _ (by omega))
   rw [HPN.out] at K69
   have HR : Hid (Hk w.heap.size [.slice x nm p, .slice s1 s2 s3] 29 wr /\ Hk W0.heap.size z2 29 wr /\ Hk W1.heap.size [.int .i64 0, .int .u64 0] 38 wr /\ wr.ownsRow Bm 86 2 (.slice x nm p) ms.length (Gm.rowOf .i64 ms) /\ Below w.heap.size w wr) := ⟨kA, kB, kC, om, bw⟩
   rw [<- hvv]
   have y2 : IntKind.u64.wrap (m : Int) = (m : Int) := by rw [IntKind.wrap_u64]; omega
   have y3 : IntKind.u64.wrap ((a : Int) + (m : Int)) = ((a + m : Nat) : Int) := by rw [IntKind.wrap_u64]; omega
   have y4 : IntKind.u8.wrap (vv : Int) = ((vv % 256 : Nat) : Int) := by rw [IntKind.wrap_u8]; omega
   have y5 : IntKind.u64.wrap ((vv : Int) / 256) = ((vv / 256 : Nat) : Int) := by rw [IntKind.wrap_u64]; omega
   have y6 : (m : Int) < (k : Int) := by omega
   obtain ⟨bt, hbt⟩ : ∃ t, t = vv % 256 := ⟨_, rfl⟩
   rw [<- hbt] at y4 K69
   obtain ⟨nx, hnx⟩ : ∃ t, t = vv / 256 := ⟨_, rfl⟩
   rw [<- hnx] at y5 HVN
   obtain ⟨am, ham⟩ : ∃ t, t = a + m := ⟨_, rfl⟩
   rw [<- ham] at y3 K69
   clear hvv hvl hbt hnx ham HPN p1 p2 p3 kA kB kC om oc hB bw
   go_wp2_with fail
   refine K69.mono ?_
   rintro e w5 ⟨vc', rfl, oc, hb5⟩
   obtain ⟨t1, t2, t3, rfl⟩ := Gm.own_shape oc
   obtain ⟨kA, kB, kC, om, bw⟩ := HR.out
   have kA := kA.keep hb5
   have kB := kB.keep hb5
   have kC := kC.keep hb5
   have om := Gm.own_keep om hb5
   have l5 := bw.size
   obtain ⟨X, hX, g, s, k5⟩ := set2w w5 w.heap.size (.slice x nm p) (.slice t1 t2 t3)
   obtain ⟨l6, l7⟩ := HL.out
   have bX := below_row (below_tr bw hb5) g (Nat.le_refl _)
   have HREL : Hid (Hk w.heap.size [.slice x nm p, .slice t1 t2 t3] 29 X /\ Hk W0.heap.size z2 29 X /\ Hk W1.heap.size [.int .i64 0, .int .u64 0] 38 X /\ X.ownsRow Bm 86 2 (.slice x nm p) ms.length (Gm.rowOf .i64 ms) /\ X.ownsRow wr.heap.size 48 2 (.slice t1 t2 t3) (pkN cs a v (m + 1)).length (Gm.rowOf .u64 (pkN cs a v (m + 1))) /\ w.heap.size <= wr.heap.size /\ Below w.heap.size w X) :=
    ⟨k5 _ _ kA, kB.row g (by omega), kC.row g (by omega), own_row om kA (by decide) g, own_row oc kA (by decide) g, l5, bX⟩
   clear c0 c1
   obtain ⟨c0, c1⟩ := kA.two
   have f0 := kA.frozen 0
   have f1 := kA.frozen 1
   clear kA kB kC om oc bw hb5 l5 g s k5 l6 l7 bX HR
   go_wp2
   go_roundw
   case rel =>
    obtain ⟨r1, r2, r3, r4, r5, r6, r7⟩ := HREL.out
    exact ⟨m + 1, by omega, by go_num, by rw [HVN.out], _, _, _, _, r1, r2, r3, r4, r5, fun _ => r6, r7⟩
   case measure => simp [intOf]; omega
  ·obtain rfl : m = k := by omega
   have y6 : ¬ (m : Int) < (m : Int) := by omega
   obtain ⟨l6, l7⟩ := HL.out
   obtain ⟨X, hX, g, s, k5⟩ := set2w wr W0.heap.size (.slice x nm p) (.slice s1 s2 s3)
   have kC' := kC.row g (by omega)
   obtain ⟨Y, hY, g', s', k6⟩ := set2w X W1.heap.size (.int .i64 0) (.int .u64 0)
   have k5 := k5 _ _ kB
   obtain ⟨r0, r1⟩ := (k5.row g' (by omega)).two
   obtain ⟨r2, r3⟩ := (k6 _ _ kC').two
   have bY := below_row (below_row bw g (by omega)) g' (by omega)
   have oY := own_row (own_row oc kB (by decide) g) kC' (by decide) g'
   have HE : Hid (Y.ownsRow w.heap.size 48 2 (.slice s1 s2 s3) (pkN cs a v m).length (Gm.rowOf .u64 (pkN cs a v m)) /\ Below w.heap.size w Y) := ⟨Gm.own_base oY (hB (by omega)), bY⟩
   obtain ⟨d0, d1⟩ := kB.two
   have f0 := kB.frozen 0
   have f1 := kB.frozen 1
   obtain ⟨e0, e1⟩ := kC'.two
   have x0 := kC'.frozen 0
   have x1 := kC'.frozen 1
   clear g s k5 kC' g' s' k6 bY oY kA kB kC om oc hB bw l6 l7
   go_wp2
   (try simp only [Exit.inBlock, Exit.then])
   refine bodyPost_ret (v := .tuple #[.agg #[.slice x nm p, .slice s1 s2 s3], .agg #[.int .i64 0, .int .u64 0]]) ?_ rfl ⟨_, _, _, rfl, HE.out⟩
   rw [Gm.results_cells rfl]; simp [go_sem, r0, r1, r2, r3]
end Go.Proofs.YtimfipkbddpdmaaGreatDoor
namespace Go.Proofs.YtimfipkbddpdmaaGreatDoor
section
variable {P : Program} {ops : Array Oper} {Q : Exit -> Act -> World -> Prop}
theorem ready2 {md : Region.Mode} {fuel : Nat} {listed : Array Bool} {a : Act} {w : World} {o o' : Oper} (i j : Nat) (h : ∀ K' : Act -> World -> Prop, (∀ a w, wpAny P md ops Q fuel (listed.setIfInBounds i true) a w -> K' a w) -> if Region.wanted o (yielded ops a.tmps) = true then Oper.wp P o a w K' Q else K' (a.put o.dst undef) w) (h' : ∀ K' : Act -> World -> Prop, (∀ a w, wpAny P md ops Q fuel (listed.setIfInBounds j true) a w -> K' a w) -> if Region.wanted o' (yielded ops a.tmps) = true then Oper.wp P o' a w K' Q else K' (a.put o'.dst undef) w)
  (ho : ops[i]? = some o := by rfl) (ho' : ops[j]? = some o' := by rfl) (hr : Region.ready md ops listed = [i, j] := by kernel_rfl) : wpAny P md ops Q (fuel + 1) listed a w :=
 wpAny_ready hr (by simp) (AllReady.cons ho h (AllReady.cons ho' h' AllReady.nil))
def cutEs (ops : Array Oper) (m : Nat) (E : List Nat) : Bool := (List.range ops.size).all (fun j => decide (j < m) || (List.range m).all (fun i => E.contains i || waitsFor ops i ops.size j))
theorem cutEs_waits {listed : Array Bool} {m i j : Nat} {E : List Nat} {o : Oper} (h : cutEs ops m E = true) (hcl : Closed ops listed) (him : m <= i) (his : i < ops.size) (hd : ∀ e ∈ o.after, Region.binds .any e = true -> listed.getD e.on false = true) (ho : ops[i]? = some o) (hj : j < m) (hje : j ∉ E) : listed.getD j false = true := by
 unfold cutEs at h
 simp only [List.all_eq_true, List.mem_range, Bool.or_eq_true, decide_eq_true_eq, List.contains_iff_mem] at h
 rcases h i his with h1 | h1
 ·omega
 ·rcases h1 j hj with h2 | h2
  ·exact absurd h2 hje
  ·exact waitsFor_is hcl ops.size i h2 (fun o' ho' => by rw [ho] at ho'; cases ho'; exact hd)
theorem wpAny_of_lates {V : Nat -> Value -> World -> Prop} {R : World -> World -> Prop} {a : Act} {W : World} {n m : Nat} {E : List Nat} (hn : a.tmps.size = n) (hB : eachB ops n = true) (hm : m < ops.size) (hC : cutEs ops m E = true)
  (hR : ∀ w w' w'', R w w' -> R w' w'' -> R w w'') (hV : ∀ i v w w', R W w -> R w w' -> V i v w -> V i v w')
  (hop : ∀ i o, i < m -> ops[i]? = some o -> ∀ (A : Act) (w : World), R W w -> A.tmps.size = a.tmps.size -> (∀ t, ownM ops m t = false -> A.tmps.getD t undef = a.tmps.getD t undef) ->
   (∀ e ∈ o.after, Region.binds .any e = true -> V e.on (slotJ ops A e.on) w) ->
   ∀ K : Act -> World -> Prop, Shut (∀ v w', R w w' -> V i (if o.dst.isSome then v else undef) w' -> K (A.put o.dst v) w') -> if Region.wanted o (yielded ops A.tmps) = true then Oper.wp P o A w K Q else K (A.put o.dst undef) w)
  (htail : ∀ (listed : Array Bool) A w, listed.size = ops.size -> (∀ j, j < m -> j ∉ E -> listed.getD j false = true) -> (∀ j, m <= j -> j < ops.size -> listed.getD j true = false) -> R W w -> (∀ j, j < m -> listed.getD j false = true -> V j (slotJ ops A j) w) -> putM ops m (slotJ ops A) a = A ->
   ∀ i ∈ Region.ready .any ops listed, m <= i -> wpOp P ops Q i (wpAny P .any ops Q (listed.toList.count false - 1) (listed.setIfInBounds i true)) A w) :
  ∀ (fuel : Nat) (listed : Array Bool) (A : Act) (w : World), listed.size = ops.size -> listed.toList.count false = fuel -> (∀ j, m <= j -> j < ops.size -> listed.getD j true = false) -> Closed ops listed -> EachM ops m V R a W listed A w -> wpAny P .any ops Q fuel listed A w := by
 intro fuel
 induction fuel with
 | zero =>
  intro listed A w hs hc hun hcl I
  exfalso
  have h1 := hun m (Nat.le_refl _) hm
  have hj' : m < listed.size := by omega
  have h0 := List.count_eq_zero.1 hc
  have h2 : listed[m] ≠ false := fun e => h0 (by rw [<- e]; simp)
  simp [hj'] at h1
  exact h2 h1
 | succ fuel ih =>
  intro listed A w hs hc hun hcl I
  refine ⟨fun hr => ?_, fun i hi => ?_⟩
  ·exfalso
   have h1 := ready_nil hB hs hr (m + 1) m (by omega) hm
   have h2 := hun m (Nat.le_refl _) hm
   have hj' : m < listed.size := by omega
   simp [hj'] at h1 h2
   rw [h2] at h1; cases h1
  ·obtain ⟨hu, o, ho, hdeps⟩ := mem_ready.1 hi
   have his : i < ops.size := (Array.getElem?_eq_some_iff.1 ho).1
   have hil : i < listed.size := by omega
   have hlf : listed[i] = false := by simpa [hil] using hu
   by_cases him : i < m
   case neg =>
    have h := htail listed A w hs (fun j hj hje => cutEs_waits hC hcl (by omega) his hdeps ho hj hje) hun I.rel I.val (putC_eq hB (by omega) hn I.size I.defers I.out) i hi (by omega)
    rw [hc] at h
    exact h
   have hc' : (listed.setIfInBounds i true).toList.count false = fuel := by
    have : (listed.setIfInBounds i true).toList = listed.toList.set i true := by simp
    rw [this, List.count_set (by simpa using hil)]
    have : (listed.toList[i]'(by simpa using hil)) = false := by simpa using hlf
    rw [this, hc]
    rfl
   have hnext : Shut (∀ v w', R w w' -> V i (if o.dst.isSome then v else undef) w' -> wpAny P .any ops Q fuel (listed.setIfInBounds i true) (A.put o.dst v) w') := fun v w' hR' hv => by
    refine ih _ _ _ (by simp [hs]) hc' (fun j hj hjs => ?_) (hcl.set ho hdeps) ⟨hR _ _ _ I.rel hR', by rw [put_defers', I.defers], by rw [put_size, I.size], fun t ht => ?_, fun j hj hjl => ?_⟩
    ·rw [getD_set_ne true (by omega)]; exact hun j hj hjs
    ·rw [put_getD_ne A v (fun e => by rw [ownM_of him ho e] at ht; cases ht)]
     exact I.out t ht
    ·by_cases e : j = i
     ·subst e
      rw [slotJ_put_self hB (by rw [I.size, hn]) ho]
      exact hv
     ·rw [slotJ_put_ne hB ho e]
      refine hV _ _ _ _ I.rel hR' (I.val j hj ?_)
      simpa [Array.getElem?_setIfInBounds, Ne.symm e] using hjl
   have h1 := hop i o him ho A w I.rel I.size I.out (fun e he hb => I.val _ (by have := eachB_after hB ho e he hb; omega) (hdeps e he hb)) _ hnext
   unfold wpOp
   simp only [ho]
   split
   ·rename_i hw
    rw [if_pos hw] at h1
    exact Or.inl h1
   ·rename_i hw
    rw [if_neg hw] at h1
    exact h1
theorem wp_region_lates {id : Nat} {a : Act} {W : World} {l : List Oper} {R : World -> World -> Prop} (L : List (Know R)) (n m : Nat) (E : List Nat) (hm : P.follows .mixedOrders = true) (hn : a.tmps.size = n) (hB : eachB l.toArray n = true) (hml : m < l.length) (hC : cutEs l.toArray m E = true)
  (hR0 : R W W.drew) (hR : ∀ w w' w'', R w w' -> R w' w'' -> R w w'') (hop : ∀ Q', EachOpsC P m l.toArray Q' L a W (l.take m))
  (htail : ∀ (listed : Array Bool) (f : Nat -> Value) (w' : World), listed.size = l.length -> (∀ j, j < m -> j ∉ E -> listed.getD j false = true) -> (∀ j, m <= j -> j < l.length -> listed.getD j true = false) -> R W w' -> (∀ j t, j < m -> listed.getD j false = true -> (l.toArray[j]?).bind (·.dst) = some t -> knowAt L t (f t) w') -> ∀ A, A = putSl f (l.take m) a -> ∀ i ∈ Region.ready .any l.toArray listed, m <= i -> wpOp P l.toArray Q i (wpAny P .any l.toArray Q (listed.toList.count false - 1) (listed.setIfInBounds i true)) A w') : (Code.region id l.toArray true).wp P Q a W := by
 refine wp_region_any hm (wpAny_of_lates (V := fun i v w => match (l.toArray[i]?).bind (·.dst) with | some d => knowAt L d v w | none => True) (R := R) hn hB (by simpa using hml) hC hR (fun i v w w' _ hR' h => ?_) (fun i o him ho A w hW hs hout hdep K hK => ?_) (fun listed A w' hs h1 h2 hW hv he i hi hmi => ?_) l.toArray.size _ a _ (by simp) (by simp) (fun j hj hjs => ?_) (fun j hj => ?_) ⟨hR0, rfl, rfl, fun _ _ => rfl, fun j hj hjl => ?_⟩)
 ·cases c : (l.toArray[i]?).bind (·.dst) with
  | none => trivial
  | some d => simp only [c] at h |-; exact knowAt_st L d v w w' hR' h
 ·have hi' : (l.take m)[i]? = some o := by rw [List.getElem?_take_of_lt him]; simpa using ho
  refine (hop Q).get hi' A w hW (fun t ht => by rw [<- Array.getD_eq_getD_getElem?]; exact hout t ht) (fun t ht => ?_) K (fun v w' hR' hv => hK v w' hR' ?_)
  ·unfold waitsB at ht
   simp only [Array.any_eq_true', Bool.and_eq_true, beq_iff_eq] at ht
   obtain ⟨e, he, hb, hd⟩ := ht
   have h1 := hdep e he hb
   simp only [hd, slotJ] at h1
   rw [<- Array.getD_eq_getD_getElem?]
   exact h1
  ·simp only [ho, Option.bind_some]
   cases c : o.dst with
   | none => trivial
   | some d => rw [c] at hv; exact hv
 ·have hs' := putM_sl l a A m (Nat.le_of_lt hml)
  rw [he] at hs'
  refine htail listed (fun t => A.eval (.tmp t)) w' (by simpa using hs) h1 (fun j hj hjs => h2 j hj (by simpa using hjs)) hW (fun j t hj hl hd => ?_) A hs' i hi hmi
  have h3 := hv j hj hl
  simp only [hd, slotJ] at h3
  exact h3
 ·have : j < l.length := by simpa using hjs
  simp [this]
 ·exfalso
  rcases Nat.lt_or_ge j l.toArray.size with h | h
  ·simp at h; simp [h] at hj
  ·rw [Array.getD_eq_getD_getElem?, Array.getElem?_eq_none (by simpa using h)] at hj; cases hj
 ·exfalso
  rcases Nat.lt_or_ge j l.toArray.size with h | h
  ·simp at h; simp [h] at hjl
  ·rw [Array.getD_eq_getD_getElem?, Array.getElem?_eq_none (by simpa using h)] at hjl; cases hjl
end
end Go.Proofs.YtimfipkbddpdmaaGreatDoor
