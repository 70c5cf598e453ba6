import Derived.Test.YtimfipkbddpdmaaGreatDoorVals
import Derived.Test.YtimfipkbddpdmaaGreatDoorMGw
import Derived.Test.YtimfipkbddpdmaaGreatDoorLast
import Derived.Test.YtimfipkbddpdmaaGreatDoorEach
import Derived.RangeFuncBox
import Derived.OwnWalkIn
import Derived.LoopTactic
import Derived.RangeFuncNested
import Derived.RangeFuncFrom
import Derived.TacticsInMore
import Derived.LoopNIn
import Derived.LoopIn
import Derived.Test.YtimfipkbddpdmaaGreatDoorMSpan
import Derived.Test.YtimfipkbddpdmaaGreatDoorMHeld
set_option linter.unusedVariables false
set_option linter.unusedSimpArgs false
set_option maxRecDepth 100000
open Go Go.RowKit
namespace Go.Proofs.YtimfipkbddpdmaaGreatDoor.Gm
abbrev P3 := Nat × Nat × Nat
def encP (x : P3) : Array Value := #[.agg #[.int .u64 x.1, .int .u64 x.2.1, .int .i64 x.2.2]]
def offP (a n : Nat) : Nat -> Nat
 | 0 => 0
 | k + 1 => offP a n k + min (8 - (a + offP a n k) % 8) (n - offP a n k)
def pcOf (a p n o : Nat) : P3 := (a + o, p + o, min (8 - (a + o) % 8) (n - o))
def pcM (a p n : Nat) : Nat -> List P3
 | 0 => []
 | k + 1 => pcM a p n k ++ (if offP a n k < n then [pcOf a p n (offP a n k)] else [])
def PNx (a p n : Nat) (pre : List P3) (x : P3) : Prop := ∃ k, pre = pcM a p n k /\ offP a n k < n /\ x = pcOf a p n (offP a n k)
theorem offP_le (a n : Nat) : ∀ k, offP a n k <= n
 | 0 => Nat.zero_le _
 | k + 1 => by have := offP_le a n k; unfold offP; omega
theorem offP_ge (a n : Nat) : ∀ k, offP a n k < n -> k <= offP a n k
 | 0, _ => Nat.zero_le _
 | k + 1, h => by
  have hl := offP_le a n k
  by_cases c : offP a n k < n
  ·have := offP_ge a n k c; unfold offP; omega
  ·unfold offP at h; omega
theorem pcM_len (a p n : Nat) : ∀ k, (pcM a p n k).length <= k
 | 0 => by simp [pcM]
 | k + 1 => by have := pcM_len a p n k; unfold pcM; rw [List.length_append]; split <;> simp <;> omega
set_option maxHeartbeats 2000000 in
theorem pieces1_in (m : Nat) (hm : 2 <= m) (l Ba Bg Bn : Nat) (am ac ap : Option Addr) (nm pm nc pc np pp : Nat) (bs a n : Nat) (hbs : bs <= 4611686018427387904) (ha : a < 4294967296) (hn : n <= 65536) (J Jx : List P3 -> World -> Prop)
  (hY : ∀ pre x W, J pre W -> PNx a (bs + a) n pre x -> YieldAt Fence.wide (m - 1) Tryz.prog l (encP x) W fun e W' =>
   (e = .returned (.bool true) /\ J (pre ++ [x]) W' /\ True) \/ (e = .returned (.bool false) /\ Jx (pre ++ [x]) W'))
  (W : World) (hJ : AbidesFrom W.heap.size J)
  (ca : W.cell? ⟨Ba, 0, none⟩ = some (.int .u32 a)) (cn : W.cell? ⟨Bn, 0, none⟩ = some (.int .u64 n))
  (cg0 : W.cell? ⟨Bg, 0, none⟩ = some (.slice am nm pm)) (cg1 : W.cell? ⟨Bg, 1, none⟩ = some (.slice ac nc pc)) (cg2 : W.cell? ⟨Bg, 2, none⟩ = some (.int .u64 bs)) (cg3 : W.cell? ⟨Bg, 3, none⟩ = some (.slice ap np pp)) (h0 : J [] W) :
  CallsIn Fence.wide m Tryz.prog 200 #[.func (.yield l) #[] #[], .pointer (some ⟨Ba, 0, none⟩), .pointer (some ⟨Bg, 0, none⟩), .pointer (some ⟨Bn, 0, none⟩)] W fun e W' => (∃ v, e = .returned v) /\
   ((∃ ys, (∃ k, ys = pcM a (bs + a) n k /\ offP a n k = n) /\ J ys W') \/ (∃ pre, (∃ k, pre = pcM a (bs + a) n (k + 1) /\ offP a n k < n) /\ Jx pre W')) := by
 have HJ : Hid (∀ s A B, J s A -> A.grownBy B none -> J s B) := fun s A B hs hg => hJ s A B none hs hg (fun r e => by cases e)
 have HJB : Hid (∀ s A B, J s A -> Below A.heap.size A B -> J s B) := fun s A B hs hb => hJ s A B none hs ⟨hb.os, hb.tape, hb.output, hb.size, fun k hk _ => hb.block k hk⟩ (fun r e => by cases e)
 obtain ⟨p, hp⟩ : ∃ p, p = bs + a := ⟨_, rfl⟩
 rw [<- hp] at hY |-
 have HY : Hid _ := hY
 have h79 : True := trivial
 have K16 : Hid (∀ w', CallsIn Fence.wide (m - 1) Tryz.prog 201 #[.agg #[.slice am nm pm, .slice ac nc pc, .int .u64 bs, .slice ap np pp], .int .u32 a] w' fun e w'' => e = .returned (.int .u64 p) /\ Below w'.heap.size w' w'') := fun w' => by
  have k := gplace16 (.slice am nm pm) (.slice ac nc pc) (.slice ap np pp) bs a hbs ha w' ⟨_, _, _, rfl⟩ ⟨_, _, _, rfl⟩ ⟨_, _, _, rfl⟩
  rw [<- hp] at k
  exact callsIn_wide.2 k
 have w1 : IntKind.u64.wrap (a : Int) = (a : Int) := by rw [IntKind.wrap_u64]; omega
 have hpl : p <= 4611686022722355200 := by omega
 have HPL : Hid (p <= 4611686022722355200) := hpl
 clear hJ hY hp hpl
 refine callsIn_of_wp Tryz.func200 rfl trivial ?_ rfl
 simp only [Tryz.ntmps200, List.size_toArray, List.length_cons, List.length_nil, Nat.reduceAdd, Nat.reduceSub, Array.replicate_succ, Array.replicate_zero, List.push_toArray, List.append_toArray, List.nil_append, List.cons_append]
 gi_wp2
 refine wpIn_region_cut (R := Ext) [⟨9, fun v _ => v = .int .u32 a, fun _ _ _ _ h => h⟩, ⟨10, fun v _ => v = .int .u64 a, fun _ _ _ _ h => h⟩, ⟨11, fun v _ => v = .agg #[.slice am nm pm, .slice ac nc pc, .int .u64 bs, .slice ap np pp], fun _ _ _ _ h => h⟩, ⟨12, fun v _ => v = .int .u32 a, fun _ _ _ _ h => h⟩, ⟨13, fun v _ => v = .int .u64 p, fun _ _ _ _ h => h⟩, ⟨5, fun v _ => v = .int .u64 a, fun _ _ _ _ h => h⟩, ⟨6, fun v _ => v = .int .u64 p, fun _ _ _ _ h => h⟩] _ 7 (by kernel_rfl) rfl (by kernel_rfl) (by decide) (by kernel_rfl) (Below.drew (Below.refl _ _)) (fun _ _ _ h1 h2 => below_tr h1 h2) (fun QQ => ⟨?_, ?_, ?_, ?_, ?_, ?_, ?_, trivial⟩) (fun f wy hR hf A hA => ?_)
 ·intro A wx hR hout hdep K hK
  have h1 : A.tmps[1]?.getD undef = .pointer (some ⟨Ba, 0, none⟩) := hout 1 (by kernel_rfl)
  refine yes ?_
  have ca := keep_cell hR ca
  have cg0 := keep_cell hR cg0
  have cg1 := keep_cell hR cg1
  have cg2 := keep_cell hR cg2
  have cg3 := keep_cell hR cg3
  simp [go_sem, h1, ca, cg0, cg1, cg2, cg3, w1]
  exact hK.out _ _ (Below.refl _ _) rfl
 ·intro A wx hR hout hdep K hK
  have h9 : A.tmps[9]?.getD undef = .int .u32 a := hdep 9 (by kernel_rfl)
  refine yes ?_
  simp [go_sem, h9, w1]
  exact hK.out _ _ (Below.refl _ _) rfl
 ·intro A wx hR hout hdep K hK
  have h2 : A.tmps[2]?.getD undef = .pointer (some ⟨Bg, 0, none⟩) := hout 2 (by kernel_rfl)
  refine yes ?_
  have ca := keep_cell hR ca
  have cg0 := keep_cell hR cg0
  have cg1 := keep_cell hR cg1
  have cg2 := keep_cell hR cg2
  have cg3 := keep_cell hR cg3
  simp [go_sem, h2, ca, cg0, cg1, cg2, cg3, w1]
  exact hK.out _ _ (Below.refl _ _) rfl
 ·intro A wx hR hout hdep K hK
  have h1 : A.tmps[1]?.getD undef = .pointer (some ⟨Ba, 0, none⟩) := hout 1 (by kernel_rfl)
  refine yes ?_
  have ca := keep_cell hR ca
  have cg0 := keep_cell hR cg0
  have cg1 := keep_cell hR cg1
  have cg2 := keep_cell hR cg2
  have cg3 := keep_cell hR cg3
  simp [go_sem, h1, ca, cg0, cg1, cg2, cg3, w1]
  exact hK.out _ _ (Below.refl _ _) rfl
 ·intro A wx hR hout hdep K hK
  have h11 : A.tmps[11]?.getD undef = .agg #[.slice am nm pm, .slice ac nc pc, .int .u64 bs, .slice ap np pp] := hdep 11 (by kernel_rfl)
  have h12 : A.tmps[12]?.getD undef = .int .u32 a := hdep 12 (by kernel_rfl)
  refine yes ?_
  simp [go_sem, h11, h12, w1]
  refine ⟨trivial, fun _ => by omega, (K16.out wx).mono ?_⟩
  rintro e wG ⟨rfl, hbG⟩
  exact hK.out _ _ hbG rfl
 ·intro A wx hR hout hdep K hK
  have h10 : A.tmps[10]?.getD undef = .int .u64 a := hdep 10 (by kernel_rfl)
  refine yes ?_
  simp [go_sem, h10, w1]
  exact hK.out _ _ (Below.refl _ _) rfl
 ·intro A wx hR hout hdep K hK
  have h13 : A.tmps[13]?.getD undef = .int .u64 p := hdep 13 (by kernel_rfl)
  refine yes ?_
  simp [go_sem, h13, w1]
  exact hK.out _ _ (Below.refl _ _) rfl
 have hv5 : f 5 = .int .u64 a := hf 5 (by kernel_rfl)
 have hv6 : f 6 = .int .u64 p := hf 6 (by kernel_rfl)
 simp only [putSl, List.take_succ_cons, List.take_zero, Act.put, List.setIfInBounds_toArray, List.set_cons_zero, List.set_cons_succ, hv5, hv6] at hA
 subst hA
 refine wpAnyIn_done (by kernel_rfl) ?_ _
 have cn := keep_cell hR cn
 have hJ0 := HJB.out _ _ _ h0 hR
 have hwy := hR.size
 obtain ⟨en, hen⟩ : ∃ z, z = a + n := ⟨_, rfl⟩
 have w2 : IntKind.u64.wrap ((a : Int) + (n : Int)) = (en : Int) := by rw [IntKind.wrap_u64]; omega
 obtain ⟨W1, hW1⟩ : ∃ z, z = wy := ⟨_, rfl⟩
 rw [<- hW1] at cn hJ0 hwy |-
 have HEN : Hid (en = a + n) := hen
 clear hf hv5 hv6 hR hW1 h0 ca cg0 cg1 cg2 cg3 K16 hen
 gi_wp2
 gi_loopw [5, 6] (fun x y wr => ∃ k : Nat, x = .int .u64 ((a + offP a n k : Nat) : Int) /\ y = .int .u64 ((p + offP a n k : Nat) : Int) /\ J (pcM a p n k) wr) (fun x _ _ => a + n - (intOf x).toNat)
 case atStart => exact ⟨0, rfl, rfl, hJ0⟩
 case round =>
  obtain ⟨k, rfl, rfl, hJs⟩ := hrel
  have hol := offP_le a n k
  obtain ⟨o, ho⟩ : ∃ o, o = offP a n k := ⟨_, rfl⟩
  rw [<- ho] at hol |-
  obtain ⟨u, hu⟩ : ∃ u, u = a + o := ⟨_, rfl⟩
  obtain ⟨v, hv⟩ : ∃ v, v = p + o := ⟨_, rfl⟩
  rw [<- hu, <- hv]
  by_cases hlt : o < n
  ·have hue : u < en := by have := HEN.out; omega
   obtain ⟨r, hr⟩ : ∃ r, r = u % 8 := ⟨_, rfl⟩
   obtain ⟨q, hq⟩ : ∃ q, q = 8 - r := ⟨_, rfl⟩
   obtain ⟨d, hd⟩ : ∃ d, d = en - u := ⟨_, rfl⟩
   obtain ⟨wd, hwd⟩ : ∃ wd, wd = min q d := ⟨_, rfl⟩
   obtain ⟨u2, hu2⟩ : ∃ z, z = u + wd := ⟨_, rfl⟩
   obtain ⟨v2, hv2⟩ : ∃ z, z = v + wd := ⟨_, rfl⟩
   have hpl := HPL.out
   have HEN' := HEN.out
   have y1 : (u : Int).tmod 8 = (r : Int) := by rw [Int.tmod_eq_emod_of_nonneg (by omega)]; omega
   have y1' : (u : Int) % 8 = (r : Int) := by omega
   have y2 : IntKind.u64.wrap (8 - (r : Int)) = (q : Int) := by rw [IntKind.wrap_u64]; omega
   have y3 : IntKind.u64.wrap ((en : Int) - (u : Int)) = (d : Int) := by rw [IntKind.wrap_u64]; omega
   have y4 : min (q : Int) (d : Int) = (wd : Int) := by omega
   have y5 : IntKind.i64.wrap (wd : Int) = (wd : Int) := by rw [IntKind.wrap_i64]; omega
   have y6 : IntKind.u64.wrap ((u : Int) + (wd : Int)) = (u2 : Int) := by rw [IntKind.wrap_u64]; omega
   have y7 : IntKind.u64.wrap ((v : Int) + (wd : Int)) = (v2 : Int) := by rw [IntKind.wrap_u64]; omega
   have hpk : pcOf a p n o = (u, v, wd) := by unfold pcOf; rw [hwd, hq, hd, hr, HEN', hu, hv, show a + n - (a + o) = n - o by omega]
   have HK : Hid (pcM a p n (k + 1) = pcM a p n k ++ [(u, v, wd)]) := by show _ = _; rw [pcM, <- ho, if_pos hlt, hpk]
   have HO : Hid (offP a n (k + 1) = o + wd /\ u2 = a + (o + wd) /\ v2 = p + (o + wd) /\ 0 < wd /\ u2 <= a + n /\ u < u2) := by
    refine ⟨?_, by omega, by omega, by omega, by omega, by omega⟩
    rw [offP, <- ho, hwd, hq, hd, hr, HEN', hu, show a + n - (a + o) = n - o by omega]
   have HLT : Hid (offP a n k < n) := by rw [<- ho]; exact hlt
   have hkn : PNx a p n (pcM a p n k) (u, v, wd) := ⟨k, rfl, HLT.out, by rw [<- ho]; exact hpk.symm⟩
   obtain ⟨fn, tmps, assign, body, hy, hRd⟩ := HY.out _ (u, v, wd) wr hJs hkn
   simp only [encP] at hy
   have HUE : Hid (u < a + n) := by show _ < _; omega
   clear HY hr hq hd hwd hu2 hv2 hu hv ho hol hlt hpk hJs hkn hpl HEN'
   gi_wp2
   refine ⟨fun _ => by omega, hRd.mono ?_⟩
   rintro e W3 (⟨rfl, hJ3, hk3⟩ | ⟨rfl, hJx3⟩)
   ·have HJ3 : Hid (J (pcM a p n (k + 1)) W3) := by show J _ _; rw [HK.out]; exact hJ3
    clear hJ3 hk3 hRd
    gi_wp2
    go_roundw
    case rel => exact ⟨k + 1, by rw [HO.out.1, HO.out.2.1], by rw [HO.out.1, HO.out.2.2.1], HJ3.out⟩
    case measure => have h1 := HO.out; have h2 := HUE.out; simp [intOf]; omega
   ·have HX3 : Hid (Jx (pcM a p n (k + 1)) W3) := by show Jx _ _; rw [HK.out]; exact hJx3
    clear hJx3 hRd
    gi_wp2
    refine bodyPost_ret (results_none rfl _ _ _) rfl ?_
    exact ⟨⟨_, rfl⟩, .inr ⟨_, ⟨k, rfl, HLT.out⟩, HX3.out⟩⟩
  ·have hue : ¬ u < en := by have := HEN.out; omega
   have HOE : Hid (offP a n k = n) := by show _ = _; omega
   clear hu hv ho hol hlt
   gi_wp2
   go_end0
   exact ⟨⟨_, rfl⟩, .inl ⟨_, ⟨k, rfl, HOE.out⟩, hJs⟩⟩
end Go.Proofs.YtimfipkbddpdmaaGreatDoor.Gm
namespace Go.Proofs.YtimfipkbddpdmaaGreatDoor.Gm
variable {α : Type} {n : Nat} {P : Program}
def SeqNx (n : Nat) (P : Program) (g : Nat) (lb : Array Value) (encs : α -> Array Value) (Kp : World -> World -> Prop) (Nx : List α -> α -> Prop) (S Sp : List α -> Prop) (w : World) : Prop :=
 ∀ (l : Nat) (J Jx : List α -> World -> Prop) (W : World), Below w.heap.size w W -> AbidesFrom W.heap.size J -> AbidesFrom W.heap.size Jx ->
  (∀ pre x W1, J pre W1 -> Nx pre x -> YieldAt Fence.wide (n - 1) P l (encs x) W1 fun e W' =>
   (e = .returned (.bool true) /\ J (pre ++ [x]) W' /\ Kp W1 W') \/ (e = .returned (.bool false) /\ Jx (pre ++ [x]) W')) ->
  J [] W ->
  CallsIn Fence.wide n P g (#[.func (.yield l) #[] #[]] ++ lb) W fun e W' => (∃ v, e = .returned v) /\ ((∃ xs, S xs /\ J xs W') \/ (∃ pre, Sp pre /\ Jx pre W'))
def Bk (b : Nat) (r : Loop) (W : World) : Prop := W.heap[b + 1]? = some (.loop r) /\ W.heap[b]? = some (.deferred (some []))
theorem Bk.grown {b : Nat} {r : Loop} {A B : World} {row : Option Nat} (h : Bk b r A) (hg : A.grownBy B row) (hr : ∀ q, row = some q -> ∃ o : Obj, A.heap[q]? = some o /\ o.isWalk = true) : Bk b r B :=
 ⟨(grownBy_keeps hg hr h.1 rfl).trans h.1, (grownBy_keeps hg hr h.2 rfl).trans h.2⟩
theorem Bk.kept {b : Nat} {r : Loop} {A B : World} (h : Bk b r A) (k : KeepsFrom b A B) : Bk b r B := ⟨k.same _ _ (by omega) h.1 rfl, k.same _ _ (Nat.le_refl _) h.2 rfl⟩
theorem Bk.lt {b : Nat} {r : Loop} {A : World} (h : Bk b r A) : b + 1 < A.heap.size := (Array.getElem?_eq_some_iff.1 h.1).1
theorem Bk.put {b : Nat} {r : Loop} {A : World} (h : Bk b r A) (r' : Loop) : Bk b r' (A.putObj (b + 1) (.loop r')) := ⟨World.putObj_heap_same h.lt, (World.putObj_heap_other (by omega)).trans h.2⟩
theorem wpIn_range_next {g : Operand} {ps : Array Tmp} {assign body : Code} {Q : Exit -> Act -> World -> Prop} {a : Act} {w : World}
  (h1 : 1 <= n) {gf : Nat} {lb : Array Value} (hg : a.eval g = .func (.func gf) #[] lb) (eg : ∀ args w, (callFunc gf args).run P w = .ok (.enter gf args) w)
  {encs : α -> Array Value} {Kp : World -> World -> Prop} {Nx : List α -> α -> Prop} {S Sp : List α -> Prop} {w0 : World} (hseq : SeqNx (n - 1) P gf lb encs Kp Nx S Sp w0)
  (hKt : ∀ {A B C : World}, Kp A B -> Kp B C -> Kp A C) (hKb : ∀ (W : World) (l : Nat) (o o' : Obj), w.heap.size <= l -> W.heap[l]? = some o -> o.isCells = false -> o.isWalk = false -> Kp W (W.putObj l o')) (hb0 : Below w0.heap.size w0 w) (hps : ∀ x, (encs x).size = ps.size)
  (I : List α -> World -> Prop) (Ix : Code -> List α -> World -> Prop) (hI : OwnFrom w.heap.size I) (hIx : ∀ c, OwnFrom w.heap.size (Ix c)) (h0 : I [] w) (Ax : α -> Act -> World -> Prop) (hAx : ∀ x a', OwnFrom w.heap.size (fun (_ : Unit) W => Ax x a' W))
  (hassign : ∀ (l : Nat) (pre : List α) (x : α) (W : World) (K : Act -> World -> Prop), Nx pre x -> I pre W -> (∀ a' W', KeepsFrom w.heap.size W W' -> Kp W W' -> I pre W' -> Ax x a' W' -> K a' W') ->
   assign.wpIn (Fence.wide.inRound l) (n - 1 - 1) P (Exit.then K (fun _ _ _ => False)) { tmps := (ps.zip (encs x)).foldl (fun t (p, v) => t.setIfInBounds p v) a.tmps, defers := [] } W)
  (hbody : ∀ (l : Nat) (pre : List α) (x : α) (a' : Act) (W : World), Nx pre x -> I pre W -> Ax x a' W -> body.wpIn (Fence.wide.inRound l) (n - 1 - 1) P (ownPostG w.heap.size Kp I Ix (pre ++ [x]) W) a' W)
  (hdone : ∀ (D : Nat) (xs : List α) (W : World), w.heap.size <= D -> S xs -> I xs W -> W.heap[D]? = some (.deferred (some [])) -> Q .normal { a with defers := { target := .collected D, args := #[] } :: a.defers } W)
  (hstop : ∀ (D : Nat) (c : Code) (pre : List α) (W : World), w.heap.size <= D -> Sp pre -> Ix c pre W -> W.heap[D]? = some (.deferred (some [])) -> c.wpIn Fence.wide n P Q { a with defers := { target := .collected D, args := #[] } :: a.defers } W) :
  (Code.rangeFunc g ps assign body).wpIn Fence.wide n P Q a w := by
 refine wpIn_rangeFunc (fun fn hfn => ?_)
 show _
 rw [show Fence.wide.round = none from rfl]
 obtain ⟨rec, hrec⟩ : ∃ rec : LoopState -> Option Code -> Loop, rec = fun st pe => { state := st, pending := pe, fn, tmps := a.tmps, params := ps, assign, body, defers := w.heap.size } := ⟨_, rfl⟩
 obtain ⟨W1, hW1⟩ : ∃ W1, (w.alloc (.deferred (some []))).alloc (.loop (rec .ready none)) = W1 := ⟨_, rfl⟩
 have hB1 : Bk w.heap.size (rec .ready none) W1 := by
  rw [<- hW1]
  refine ⟨?_, (Below.heap_alloc _ _ _ (by simp)).trans (World.alloc_heap_new w _)⟩
  have h := World.alloc_heap_new (w.alloc (.deferred (some []))) (.loop (rec .ready none))
  rwa [World.size_alloc] at h
 have hI1 : I [] W1 := by rw [<- hW1]; exact hI.alloc _ (hI.alloc _ h0)
 have hs1 : W1.heap.size = w.heap.size + 2 := by rw [<- hW1]; simp
 have hb1 : Below w0.heap.size w0 W1 := by
  rw [<- hW1]; exact hb0.trans ((((Below.refl _ w).alloc (Nat.le_refl _) _).alloc (by simp) _).mono hb0.size)
 have hnw : ∀ {A : World} {row : Option Nat}, (∀ r, row = some r -> W1.heap.size <= r /\ ∃ o : Obj, A.heap[r]? = some o /\ o.isWalk = true) -> ∀ r, row = some r -> w.heap.size <= r /\ ∃ o : Obj, A.heap[r]? = some o /\ o.isCells = false := fun hr r e => by
  obtain ⟨q1, o, q2, q3⟩ := hr r e
  exact ⟨by omega, o, q2, Obj.not_cells_of_walk q3⟩
 refine ⟨w.heap.size + 1, [{ target := .collected w.heap.size, args := #[] }], W1, { target := .fn (.func gf) lb, args := #[.func (.yield (w.heap.size + 1)) #[] #[]] }, W1, gf, #[.func (.yield (w.heap.size + 1)) #[] #[]] ++ lb, W1, ?_, ?_, ?_, ?_, fun _ => h1, ?_⟩
 ·rw [<- hW1, hrec]; exact run_enterLoop_outer _ _ _ _ _
 ·simp only [resolve, hg]; simp [go_sem]
 ·intro f' _; trivial
 ·simp [invoke, go_sem, eg]
 refine (hseq (w.heap.size + 1) (fun pre W => I pre W /\ Bk w.heap.size (rec .ready none) W) (fun pre W => ∃ c, Ix c pre W /\ Bk w.heap.size (rec .done (some c)) W) W1 hb1
  (fun s A B row hs hg' hr => ⟨hI s A B row hs.1 hg' (hnw hr), hs.2.grown hg' (fun r e => (hr r e).2)⟩)
  (fun s A B row hs hg' hr => by obtain ⟨c, q1, q2⟩ := hs; exact ⟨c, hIx c s A B row q1 hg' (hnw hr), q2.grown hg' (fun r e => (hr r e).2)⟩)
  ?_ ⟨hI1, hB1⟩).mono ?_
 ·rintro pre x W ⟨hi, hB⟩ hnx
  have hy := run_yield (P := P) (args := encs x) hB.1 (by rw [hrec]; exact hps x)
  rw [hrec] at hy
  refine ⟨fn, _, assign, body, hy, roundIn_of_wpIn hfn (hassign _ pre x W _ hnx hi (fun a' Wa kf kp hia hax => ?_))⟩
  have hBa := hB.kept kf
  refine ⟨_, run_beginRound hBa.1 (by rw [hrec]), ?_⟩
  obtain ⟨rb, hrb⟩ : ∃ r : Loop, r = { rec .ready none with state := .busy } := ⟨_, rfl⟩
  rw [<- hrb]
  have hBb := hBa.put rb
  have hkb : Kp Wa (Wa.putObj (w.heap.size + 1) (.loop rb)) := hKb _ _ _ _ (by omega) hBa.1 rfl rfl
  refine wpIn_mono (hbody _ pre x a' _ hnx (hI.putObj _ hia (by omega) hBa.1 rfl) ((hAx x a').putObj (s := ()) _ hax (by omega) hBa.1 rfl)) ?_
  have fin : ∀ (jump : Option Code) (W3 : World), KeepsFrom w.heap.size (Wa.putObj (w.heap.size + 1) (.loop rb)) W3 -> Bk w.heap.size rb W3 /\
    (Instr.endRound (w.heap.size + 1) jump).run P W3 = .ok (.bool jump.isNone) (W3.putObj (w.heap.size + 1) (.loop (rec (if jump.isNone then .ready else .done) jump))) := fun jump W3 k3 => by
   have hB3 := hBb.kept k3
   refine ⟨hB3, ?_⟩
   have h := run_endRound (P := P) jump hB3.1
   rw [hrb, hrec] at h
   rw [hrec]
   exact h
  have jumped : ∀ (c : Code) (W3 : World), KeepsFrom w.heap.size (Wa.putObj (w.heap.size + 1) (.loop rb)) W3 -> Ix c (pre ++ [x]) W3 -> ∃ v W4, (Instr.endRound (w.heap.size + 1) (some c)).run P W3 = .ok v W4 /\
    ((Ending.returned v = .returned (.bool true) /\ (I (pre ++ [x]) W4 /\ Bk w.heap.size (rec .ready none) W4) /\ Kp W W4) \/ (Ending.returned v = .returned (.bool false) /\ ∃ c, Ix c (pre ++ [x]) W4 /\ Bk w.heap.size (rec .done (some c)) W4)) := fun c W3 k3 hix => by
   obtain ⟨hB3, hr⟩ := fin (some c) W3 k3
   exact ⟨_, _, hr, .inr ⟨rfl, c, (hIx c).putObj _ hix (by omega) hB3.1 rfl, hB3.put _⟩⟩
  rintro e a3 W3 hp
  cases e with
  | normal =>
   obtain ⟨k3, kp3, hi3⟩ := hp
   obtain ⟨hB3, hr⟩ := fin none W3 k3
   exact ⟨_, _, hr, .inl ⟨rfl, ⟨hI.putObj _ hi3 (by omega) hB3.1 rfl, hB3.put _⟩, hKt kp (hKt (hKt hkb kp3) (hKb _ _ _ _ (by omega) hB3.1 rfl rfl))⟩⟩
  | ret => exact jumped .ret W3 hp.1 hp.2
  | exit id => exact jumped (.exit id) W3 hp.1 hp.2
  | goto t => exact jumped (.goto t) W3 hp.1 hp.2
  | panic ch => exact hp.elim
  | outgrown => exact hp.elim
 ·rintro e W2 ⟨⟨v, rfl⟩, ⟨xs, hS, hi, hB⟩ | ⟨pre, hSp, c, hi, hB⟩⟩
  ·exact ⟨none, _, by have h := run_endLoop (P := P) hB.1 (by rw [hrec]; simp); rw [hrec] at h; exact h, hdone _ xs _ (Nat.le_refl _) hS (hI.putObj _ hi (by omega) hB.1 rfl) ((World.putObj_heap_other (by omega)).trans hB.2)⟩
  ·exact ⟨some c, _, by have h := run_endLoop (P := P) hB.1 (by rw [hrec]; simp); rw [hrec] at h; exact h, hstop _ c pre _ (Nat.le_refl _) hSp ((hIx c).putObj _ hi (by omega) hB.1 rfl) ((World.putObj_heap_other (by omega)).trans hB.2)⟩
end Go.Proofs.YtimfipkbddpdmaaGreatDoor.Gm
namespace Go.Proofs.YtimfipkbddpdmaaGreatDoor.Gm
theorem protN_at {ps : List (Nat × Int)} {n k : Nat} (h : k < ps.length) (e : ps[k].1 = n) (hn : ∀ j (hj : j < k), ps[j].1 ≠ n) : protN ps n = ps[k].2 := by
 have : ps.find? (fun x => x.1 == n) = some ps[k] := by
  rw [List.find?_eq_some_iff_getElem]
  exact ⟨by simpa using e, k, h, rfl, fun j hj => by simpa using hn j hj⟩
 rw [protN, this]
theorem protN_none {ps : List (Nat × Int)} {n : Nat} (hn : ∀ j (hj : j < ps.length), ps[j].1 ≠ n) : protN ps n = -1 := by
 have : ps.find? (fun x => x.1 == n) = none := by
  rw [List.find?_eq_none]
  intro x hx
  obtain ⟨j, hj, rfl⟩ := List.getElem_of_mem hx
  simpa using hn j hj
 rw [protN, this]
set_option maxHeartbeats 1000000 in
theorem rprot15 (vm vc vp : Value) (bs n : Nat) (ps : List (Nat × Int)) (w : World) (hm : ∃ a n p, vm = .slice a n p) (hc : ∃ a n p, vc = .slice a n p) (hp : Pg.Sl .i64 w vp ps) :
  Calls Tryz.prog 12 #[.agg #[vm, vc, .int .u64 bs, vp], .int .u32 n] w fun e w' => e = .returned (.int .i64 (protN ps n)) /\ Below w.heap.size w w' := by
 obtain ⟨W, hW, hb, hsz, c0, c1, c2, c3, _⟩ := box4 w vm vc (.int .u64 bs) vp 33
 obtain ⟨_, _, _, rfl⟩ := hm
 obtain ⟨_, _, _, rfl⟩ := hc
 obtain ⟨ao, cap, rfl, h1, h2, h3, h4⟩ := hp
 have HC : Hid (∀ i (h : i < ps.length), ∃ b o, ao = some ⟨b, o, none⟩ /\ W.cell? ⟨b, o + i * 2, none⟩ = some (.int .u32 (ps[i].1 : Int)) /\ W.cell? ⟨b, o + i * 2 + 1, none⟩ = some (.int .i64 ps[i].2)) := fun i hi => by
  obtain ⟨b, o, e, d0, d1⟩ := h4 i hi
  exact ⟨b, o, e, keep_cell hb d0, keep_cell hb d1⟩
 clear h3 h4
 go_enter Tryz.func12, Tryz.ntmps12
 go_wp2
 go_loopw [5] (fun i wr => ∃ k : Nat, k <= ps.length /\ i = .int .i64 k /\ W = wr /\ ∀ j (hj : j < k) (hl : j < ps.length), ps[j].1 ≠ n) (fun i _ => ps.length - (intOf i).toNat)
 case atStart => exact ⟨0, Nat.zero_le _, rfl, rfl, fun j hj => by omega⟩
 case round =>
  obtain ⟨k, hk, rfl, rfl, hno⟩ := hrel
  have HN : Hid _ := hno
  clear hno
  by_cases hkl : k < ps.length
  ·obtain ⟨b, o, rfl, d0, d1⟩ := HC.out k hkl
   by_cases hp : ps[k].1 = n
   ·have HR : Hid (protN ps n = ps[k].2) := protN_at hkl hp (fun j hj => HN.out j hj (by omega))
    rw [hp] at d0
    generalize ps[k].2 = r at HR d1
    clear hp
    go_wp2
    go_ret
    exact ⟨by rw [HR.out]; rfl, hb⟩
   ·have HK : Hid (∀ j (hj : j < k + 1) (hl : j < ps.length), ps[j].1 ≠ n) := fun j hj hl => by
     by_cases e : j = k
     ·subst e; exact hp
     ·exact HN.out j (by omega) hl
    have hne : ((ps[k].1 : Int) == (n : Int)) = false := by simp; omega
    generalize ps[k].1 = p at d0 hne
    clear hp d1
    go_wp2
    go_roundw
    case rel => exact ⟨k + 1, by omega, by go_num, by first | rfl | trivial, HK.out⟩
    case measure => simp [intOf]; omega
  ·have HR : Hid (protN ps n = -1) := protN_none (fun j hj => HN.out j (by omega) hj)
   obtain rfl : k = ps.length := by omega
   go_wp2
   go_ret
   exact ⟨by rw [HR.out]; rfl, hb⟩
def inB (bs a : Nat) : Bool := decide (bs <= a /\ a - bs < 4294967296)
set_option maxHeartbeats 1000000 in
theorem rown33 (vm vc vp : Value) (bs a : Nat) (w : World) (hm : ∃ a n p, vm = .slice a n p) (hc : ∃ a n p, vc = .slice a n p) (hp : ∃ a n p, vp = .slice a n p) (hbs : bs < 18446744073709551616) (ha : a < 18446744073709551616) :
  Calls Tryz.prog 33 #[.agg #[vm, vc, .int .u64 bs, vp], .int .u64 a] w fun e w' => e = .returned (.tuple #[.int .u32 (if inB bs a then (((a - bs) / 4096 : Nat) : Int) else 0), .bool (inB bs a)]) /\ Below w.heap.size w w' := by
 obtain ⟨W, hW, hb, hsz, c0, c1, c2, c3, _⟩ := box4 w vm vc (.int .u64 bs) vp 33
 obtain ⟨_, _, _, rfl⟩ := hm
 obtain ⟨_, _, _, rfl⟩ := hc
 obtain ⟨_, _, _, rfl⟩ := hp
 by_cases k1 : a < bs
 ·have HR : Hid (inB bs a = false) := by simp [Hid, inB]; omega
  have y1 : (a : Int) < (bs : Int) := by omega
  rw [HR.out]
  clear k1
  go_enter Tryz.func33, Tryz.ntmps33
  go_wp2
  go_ret2
  exact ⟨by simp, hb⟩
 ·have y1 : ¬ (a : Int) < (bs : Int) := by omega
  obtain ⟨d, hd⟩ : ∃ d, d = a - bs := ⟨_, rfl⟩
  have y2 : IntKind.u64.wrap ((a : Int) - (bs : Int)) = (d : Int) := by rw [IntKind.wrap_u64]; omega
  rw [<- hd]
  by_cases k2 : d < 4294967296
  ·have HR : Hid (inB bs a = true) := by simp [Hid, inB]; omega
   have y3 : ¬ (4294967296 : Int) <= (d : Int) := by omega
   obtain ⟨q, hq⟩ : ∃ q, q = d / 4096 := ⟨_, rfl⟩
   have y4 : (d : Int) / 4096 = (q : Int) := by omega
   have y5 : IntKind.u64.wrap (q : Int) = (q : Int) := by rw [IntKind.wrap_u64]; omega
   have y6 : IntKind.u32.wrap (q : Int) = (q : Int) := by rw [IntKind.wrap_u32]; omega
   have y7 : (q : Int) % 4294967296 = (q : Int) := by omega
   rw [HR.out, <- hq]
   clear k1 k2 hd hq
   go_enter Tryz.func33, Tryz.ntmps33
   go_wp2
   go_ret2
   exact ⟨by simp, hb⟩
  ·have HR : Hid (inB bs a = false) := by simp [Hid, inB]; omega
   have y3 : (4294967296 : Int) <= (d : Int) := by omega
   rw [HR.out]
   clear k1 k2 hd
   go_enter Tryz.func33, Tryz.ntmps33
   go_wp2
   go_ret2
   exact ⟨by simp, hb⟩
set_option maxHeartbeats 2000000 in
theorem rused34 (vm vc vp : Value) (bs pg : Nat) (ps : List (Nat × Int)) (w : World) (hm : ∃ a n p, vm = .slice a n p) (hc : ∃ a n p, vc = .slice a n p) (hp : Pg.Sl .i64 w vp ps) (hbs : bs <= 4611686018427387904) (hal : bs % 16384 = 0) (hpb : ∀ x ∈ ps, x.1 < 1048576) :
  Calls Tryz.prog 34 #[.agg #[vm, vc, .int .u64 bs, vp], .int .u64 pg] w fun e w' => e = .returned (.bool (ps.any (fun x => _root_.Go.Proofs.YtimfipkbddpdmaaGreatDoor.Gm.hp bs (x.1 / 4) == pg))) /\ Below w.heap.size w w' := by
 obtain ⟨W, hW, hb, hsz, c0, c1, c2, c3, _⟩ := box4 w vm vc (.int .u64 bs) vp 33
 obtain ⟨_, _, _, rfl⟩ := hm
 obtain ⟨_, _, _, rfl⟩ := hc
 obtain ⟨ao, cap, rfl, h1, h2, h3, h4⟩ := hp
 have HC : Hid (∀ i (h : i < ps.length), ∃ b o, ao = some ⟨b, o, none⟩ /\ W.cell? ⟨b, o + i * 2, none⟩ = some (.int .u32 (ps[i].1 : Int)) /\ W.cell? ⟨b, o + i * 2 + 1, none⟩ = some (.int .i64 ps[i].2)) := fun i hi => by
  obtain ⟨b, o, e, d0, d1⟩ := h4 i hi
  exact ⟨b, o, e, keep_cell hb d0, keep_cell hb d1⟩
 clear h3 h4
 have HB : Hid (∀ x ∈ ps, x.1 < 1048576) := hpb
 have HA : Hid (bs <= 4611686018427387904 /\ bs % 16384 = 0) := ⟨hbs, hal⟩
 clear hpb hbs hal
 go_enter Tryz.func34, Tryz.ntmps34
 go_wp2
 go_loopw [5] (fun i wr => ∃ k : Nat, k <= ps.length /\ i = .int .i64 k /\ Below W.heap.size W wr /\ ∀ j (hj : j < k) (hl : j < ps.length), _root_.Go.Proofs.YtimfipkbddpdmaaGreatDoor.Gm.hp bs (ps[j].1 / 4) ≠ pg) (fun i _ => ps.length - (intOf i).toNat)
 case atStart => exact ⟨0, Nat.zero_le _, rfl, Below.refl _ _, fun j hj => by omega⟩
 case round =>
  obtain ⟨k, hk, rfl, hbr, hno⟩ := hrel
  have HN : Hid _ := hno
  clear hno
  have e2 := keep_cell hbr c2
  have e3 := keep_cell hbr c3
  by_cases hkl : k < ps.length
  ·obtain ⟨b, o, rfl, D0, D1⟩ := HC.out k hkl
   have d0 := keep_cell hbr D0
   have hpl := HB.out _ (List.getElem_mem hkl)
   obtain ⟨p, hp⟩ : ∃ p, p = ps[k].1 := ⟨_, rfl⟩
   rw [<- hp] at d0 hpl
   obtain ⟨h1', h2'⟩ := HA.out
   obtain ⟨q, hq⟩ : ∃ q, q = p * 4096 := ⟨_, rfl⟩
   obtain ⟨r, hr⟩ : ∃ q, q = bs + p * 4096 := ⟨_, rfl⟩
   obtain ⟨t, ht⟩ : ∃ q, q = _root_.Go.Proofs.YtimfipkbddpdmaaGreatDoor.Gm.hp bs (p / 4) := ⟨_, rfl⟩
   have y0 : IntKind.u64.wrap (p : Int) = (p : Int) := by rw [IntKind.wrap_u64]; omega
   have y1 : IntKind.u64.wrap ((p : Int) * 4096) = (q : Int) := by rw [IntKind.wrap_u64]; omega
   have y2 : IntKind.u64.wrap ((bs : Int) + (q : Int)) = (r : Int) := by rw [IntKind.wrap_u64]; omega
   have y3 : (r : Int) / 16384 = (t : Int) := by rw [ht, _root_.Go.Proofs.YtimfipkbddpdmaaGreatDoor.Gm.hp]; omega
   have y4 : IntKind.u64.wrap (t : Int) = (t : Int) := by rw [IntKind.wrap_u64, ht, _root_.Go.Proofs.YtimfipkbddpdmaaGreatDoor.Gm.hp]; omega
   have x1 : (k : Int) < (ps.length : Int) := by omega
   by_cases hpp : t = pg
   ·have HR : Hid (ps.any (fun x => _root_.Go.Proofs.YtimfipkbddpdmaaGreatDoor.Gm.hp bs (x.1 / 4) == pg) = true) := by
     show _ = _
     rw [List.any_eq_true]
     exact ⟨ps[k], List.getElem_mem hkl, by rw [<- hp, <- ht]; simpa using hpp⟩
    have y5 : ((t : Int) == (pg : Int)) = true := by simp; omega
    haveI : Nonempty (Grew wr) := ⟨⟨wr, Below.refl _ _⟩⟩
    have z0 := grew_cell e2
    have z1 := grew_cell e3
    have z2 := grew_cell d0
    clear hp hq hr ht hpl h1' h2' D0 D1 hpp
    go_wp2
    refine wp_region_quiet_grew (by kernel_rfl) (by kernel_rfl) ?_
    repeat (go_big_quiet_step (fail))
    refine wpQuiet_nil ?_
    rintro _ ⟨pq, rfl⟩
    have hbq := below_tr (below_tr hb hbr) pq.bel
    clear z0 z1 z2
    go_wp2
    go_ret
    exact ⟨by rw [HR.out]; rfl, hbq⟩
   ·have HK : Hid (∀ j (hj : j < k + 1) (hl : j < ps.length), _root_.Go.Proofs.YtimfipkbddpdmaaGreatDoor.Gm.hp bs (ps[j].1 / 4) ≠ pg) := fun j hj hl => by
     by_cases e : j = k
     ·subst e; rw [<- hp, <- ht]; exact hpp
     ·exact HN.out j (by omega) hl
    have y5 : ((t : Int) == (pg : Int)) = false := by simp; omega
    haveI : Nonempty (Grew wr) := ⟨⟨wr, Below.refl _ _⟩⟩
    have z0 := grew_cell e2
    have z1 := grew_cell e3
    have z2 := grew_cell d0
    clear hp hq hr ht hpl h1' h2' D0 D1 hpp
    go_wp2
    refine wp_region_quiet_grew (by kernel_rfl) (by kernel_rfl) ?_
    repeat (go_big_quiet_step (fail))
    refine wpQuiet_nil ?_
    rintro _ ⟨pq, rfl⟩
    have hbq := below_tr hbr pq.bel
    clear z0 z1 z2
    go_wp2
    go_roundw
    case rel => exact ⟨k + 1, by omega, by go_num, hbq, HK.out⟩
    case measure => simp [intOf]; omega
  ·have HR : Hid (ps.any (fun x => _root_.Go.Proofs.YtimfipkbddpdmaaGreatDoor.Gm.hp bs (x.1 / 4) == pg) = false) := by
    show _ = _
    rw [List.any_eq_false]
    intro x hx
    obtain ⟨j, hj, rfl⟩ := List.getElem_of_mem hx
    simpa using HN.out j (by omega) hj
   obtain rfl : k = ps.length := by omega
   have hbq := below_tr hb hbr
   go_wp2
   go_ret
   exact ⟨by rw [HR.out]; rfl, hbq⟩
end Go.Proofs.YtimfipkbddpdmaaGreatDoor.Gm
