import Derived.Test.YtimfipkbddpdmaaGreatDoorVals
import Derived.Test.YtimfipkbddpdmaaGreatDoorMGff
import Derived.Test.YtimfipkbddpdmaaGreatDoorMH
import Derived.Test.YtimfipkbddpdmaaGreatDoorMW
import Derived.Room.AppendFits
import Derived.Laws.IdiomStrings
import Derived.Laws.MakeOwn
set_option linter.unusedVariables false
set_option linter.unusedSimpArgs false
set_option maxRecDepth 100000
open Go Go.RowKit
namespace Go.Proofs.YtimfipkbddpdmaaGreatDoor.Gm
attribute [local go_sem] Oper.semAt_some
theorem info5 : (Tryz.prog.info? 5).map (fun i => (i.zero, i.size, i.bytes)) = some (some (.int .u8 0), 1, 1) := by kernel_rfl
theorem mk94 (n : Nat) (hn : n <= 65536) (w : World) : ∃ cs : Array Value, cs.size = n /\ (Instr.makeSlice 102 (.int .i64 0) (.int .u64 n)).run Tryz.prog w = .ok (.slice (some ⟨w.heap.size, 0, none⟩) 0 n) (w.alloc (.cells cs 5)) := by
 obtain ⟨i0, hi, hz0, hz1, hz2⟩ := info_parts info5
 have h := run_makeSlice (P := Tryz.prog) w 102 5 i0 (.int .u8 0) Tryz.underlying102 hi hz0 .i64 .u64 0 (n : Int) (by omega) (by omega) (by rw [hz1]; omega) (by rw [hz2]; omega) (by omega)
 rw [hz1, Int.toNat_natCast, Nat.mul_one, Int.toNat_zero] at h
 exact ⟨_, size_madeCells _ _, h⟩
theorem wpIn_append_str {F : Fence} {m : Nat} {P : Program} (w : World) {o : Oper} {a : Act} {K : Act -> World -> Prop} {Q : Exit -> Act -> World -> Prop}
  (s x : Operand) (t u : TypeId) (hop : o.op = Op.call { callee := Callee.builtin Builtin.append, args := #[s, x], argTypes := #[t, u] })
  (base : Nat) (e : TypeId) (i : TypeInfo) (h1 : P.underlying t = some (.slice e)) (hu : P.underlying u = some .string) (h2 : P.info? e = some i) (h4 : i.size = 1)
  (p : Option Addr) (n cap : Nat) (xs : List Value) (hs : a.eval s = .slice p n cap) (hown : w.ownsRow base e 1 (.slice p n cap) n xs) (str : ByteArray) (hx : a.eval x = .string str) (h0 : 0 < cap) (hroom : n + str.size <= cap)
  (hK : ∀ w', w'.ownsRow base e 1 (.slice p (n + str.size) cap) (n + str.size) (xs ++ Go.Lib.strCells str) -> w.grownBy w' (Value.ownBlock (.slice p n cap)) -> K (a.put o.dst (.slice p (n + str.size) cap)) w') :
  Oper.wpIn F m P o a w K Q := by
 obtain ⟨w', hrun, r1, r2⟩ := Go.Lib.run_append_fits_string (P := P) w base t u o.type e i h1 hu h2 h4 p n cap xs hown str h0 hroom
 unfold Oper.wpIn
 refine ⟨?_, ?_⟩
 ·simp [Oper.about, hop, resolve, Target.leads, Sem.run_pure]
 ·rw [Oper.semAt_plain F _ _ (by rw [hop]; intro c hc'; cases hc')]
  simp [execOp, hop, resolve, invoke, builtin, hs, hx, hrun, Result.andThen]
  exact hK w' r1 r2
theorem own_row1 {w w' : World} {B e n : Nat} {v : Value} {xs : List Value} {row : Option Nat} (h : w.ownsRow B e 1 v n xs) (hg : w.grownBy w' row) (hr : ∀ r, row = some r -> ∃ o : Obj, w.heap[r]? = some o /\ o.isCells = false) : w'.ownsRow B e 1 v n xs := by
 refine h.kept hg ?_
 cases hv : v.ownBlock with
 | none => exact Or.inl rfl
 | some g =>
  refine Or.inr (fun e' => ?_)
  obtain ⟨o, h1, h2⟩ := hr g e'.symm
  obtain ⟨c, fz, q⟩ := Go.Lib.ownsRow_kind h g hv
  rw [q] at h1
  cases h1
  simp [Obj.isCells] at h2
def rdL (ms cs : List (Nat × Int)) (xs : List P3) : List UInt8 := xs.flatMap (fun x => W.leB (loadV ms cs x.2.1 x.2.2) x.2.2)
theorem rdL_snoc (ms cs : List (Nat × Int)) (xs : List P3) (x : P3) : rdL ms cs (xs ++ [x]) = rdL ms cs xs ++ W.leB (loadV ms cs x.2.1 x.2.2) x.2.2 := by simp [rdL]
theorem rdL_len (ms cs : List (Nat × Int)) (a p n : Nat) : ∀ k, (rdL ms cs (pcM a p n k)).length = offP a n k
 | 0 => by simp [rdL, pcM, offP]
 | k + 1 => by
  have h := rdL_len ms cs a p n k
  have hl := offP_le a n k
  rw [pcM]
  split
  ·rw [rdL_snoc, List.length_append, h, W.leB_length, offP]; rfl
  ·rw [List.append_nil, h, offP]; omega
def cellsB (l : List UInt8) : List Value := l.map (fun b => Value.int .u8 b.toNat)
theorem str_cells (l : List UInt8) : Go.Lib.strCells ⟨l.toArray⟩ = cellsB l := by simp [Go.Lib.strCells, cellsB]
def RdI (B rb ob n : Nat) (w : World) (l : List UInt8) : Prop := Boxed w ob 102 (.slice (some ⟨rb, 0, none⟩) l.length n) /\ w.ownsRow B 5 1 (.slice (some ⟨rb, 0, none⟩) l.length n) l.length (cellsB l)
theorem RdI.row {B rb ob n : Nat} {w w' : World} {l : List UInt8} {row : Option Nat} (h : RdI B rb ob n w l) (hg : w.grownBy w' row) (hr : ∀ r, row = some r -> ∃ o : Obj, w.heap[r]? = some o /\ o.isCells = false) : RdI B rb ob n w' l := by
 refine ⟨h.1.kept hg (fun e => ?_), own_row1 h.2 hg hr⟩
 obtain ⟨o, h1, h2⟩ := hr ob e.symm
 rw [show w.heap[ob]? = _ from h.1] at h1
 cases h1
 simp [Obj.isCells] at h2
theorem RdI.keep {B rb ob n : Nat} {w w' : World} {l : List UInt8} (h : RdI B rb ob n w l) (hb : Below w.heap.size w w') : RdI B rb ob n w' l := ⟨(hb.block _ h.1.lt).trans h.1, own_keep h.2 hb⟩
set_option maxHeartbeats 1000000 in
theorem gread39 (vm vc vp : Value) (bs a n : Nat) (ms cs : List (Nat × Int)) (w : World) (hm : Sl .i64 w vm ms) (hc : Sl .u64 w vc cs) (hp : ∃ a n p, vp = .slice a n p) (sm : Srt ms) (sc : Srt cs) (lm : ms.length <= 1073741824) (lc : cs.length <= 1073741824) (hw : Words cs) (hbs : bs <= 4611686018427387904) (ha : a < 4294967296) (hn : n <= 65536) :
  Calls Tryz.prog 115 #[.agg #[vm, vc, .int .u64 bs, vp], .int .u32 a, .int .u64 n] w fun e w' => e = .returned (.string ⟨(rdL ms cs (pcM a (bs + a) n n)).toArray⟩) /\ Below w.heap.size w w' := by
 have HSM : Hid (Sl .i64 w vm ms /\ Sl .u64 w vc cs /\ Srt ms /\ Srt cs /\ ms.length <= 1073741824 /\ cs.length <= 1073741824 /\ Words cs) := ⟨hm, hc, sm, sc, lm, lc, hw⟩
 obtain ⟨am, nm, pm, rfl⟩ : ∃ a n p, vm = .slice a n p := by obtain ⟨a, p, h, _⟩ := hm; exact ⟨_, _, _, h⟩
 obtain ⟨ac, nc, pc, rfl⟩ : ∃ a n p, vc = .slice a n p := by obtain ⟨a, p, h, _⟩ := hc; exact ⟨_, _, _, h⟩
 obtain ⟨ap, np, pp, rfl⟩ := hp
 clear hm hc sm sc lm lc hw
 obtain ⟨W0, hW0, hb, hsz, c0, c1, c2, c3, _⟩ := box4 w (.slice am nm pm) (.slice ac nc pc) (.int .u64 bs) (.slice ap np pp) 33
 obtain ⟨mc, hmc, hmk⟩ := mk94 n hn W0
 obtain ⟨W1, hW1⟩ : ∃ z, W0.alloc (.cells mc 5) = z := ⟨_, rfl⟩
 have hb1 : Below W0.heap.size W0 W1 := by rw [<- hW1]; exact (Below.refl _ _).alloc (Nat.le_refl _) _
 have hs1 : W1.heap.size = w.heap.size + 2 := by rw [<- hW1]; simp; omega
 have ow1 : W1.ownsRow w.heap.size 5 1 (.slice (some ⟨w.heap.size + 1, 0, none⟩) 0 n) 0 [] := by
  rw [<- hW1, <- hsz]
  exact World.ownsRow_made W0 mc n (by omega) (by unfold maxLen; omega) (by omega)
 obtain ⟨W2, hW2⟩ : ∃ z, W1.alloc (.cells #[.slice (some ⟨w.heap.size + 1, 0, none⟩) 0 n] 102) = z := ⟨_, rfl⟩
 have hb2 : Below W1.heap.size W1 W2 := by rw [<- hW2]; exact (Below.refl _ _).alloc (Nat.le_refl _) _
 have hs2 : W2.heap.size = w.heap.size + 3 := by rw [<- hW2]; simp; omega
 have RI : RdI w.heap.size (w.heap.size + 1) (w.heap.size + 2) n W2 [] := by
  refine ⟨?_, own_keep ow1 hb2⟩
  rw [<- hW2, <- hs1]
  exact Boxed.new W1 102 _
 have HRI : Hid (RdI w.heap.size (w.heap.size + 1) (w.heap.size + 2) n W2 []) := RI
 rw [hsz] at hmk
 have c0 := keep_cell (below_tr hb1 hb2) c0
 have c1 := keep_cell (below_tr hb1 hb2) c1
 have c2 := keep_cell (below_tr hb1 hb2) c2
 have c3 := keep_cell (below_tr hb1 hb2) c3
 have HBW : Hid (Below w.heap.size w W2) := below_tr hb (below_tr hb1 hb2)
 obtain ⟨FR, hFR⟩ : ∃ z, z = rdL ms cs (pcM a (bs + a) n n) := ⟨_, rfl⟩
 rw [<- hFR]
 have HFR : Hid (FR = rdL ms cs (pcM a (bs + a) n n)) := hFR
 clear hFR RI ow1
 refine callsIn_wide.1 (callsIn_of_wp_marks (F := Fence.wide) (n := 3) Tryz.func115 rfl trivial ?_ rfl)
 simp only [Tryz.ntmps115, List.size_toArray, List.length_cons, List.length_nil, Nat.reduceAdd, Nat.reduceSub, Array.replicate_succ, Array.replicate_zero, List.push_toArray, List.append_toArray, List.nil_append, List.cons_append]
 refine wpIn_wide.2 ?_
 have K62 := pieces62 (.slice am nm pm) (.slice ac nc pc) (.slice ap np pp) (.int .u64 bs) (.int .u32 a) (.int .u64 n) W2 ⟨_, _, _, rfl⟩ ⟨_, _, _, rfl⟩ ⟨_, _, _, rfl⟩ ⟨_, rfl⟩ ⟨_, rfl⟩ ⟨_, rfl⟩
 go_wp2_with fail
 refine K62.mono ?_
 rintro e w3' ⟨rfl, rfl⟩
 clear K62 hmk
 go_wp2
 obtain ⟨W3, hW3, hb3, hs3, d0, d1, d2, d3, d4, d5⟩ := box411 W2 (.slice am nm pm) (.slice ac nc pc) (.int .u64 bs) (.slice ap np pp) (.int .u32 a) (.int .u64 n)
 rw [hW3]
 have hseq := pieces_next (3 - 1) (by omega) (W2.heap.size + 1) W2.heap.size (W2.heap.size + 2) am ac ap nm pm nc pc np pp bs a n hbs ha (by omega) W3 d4 d5 d0 d1 d2 d3
 rw [hs2] at hseq
 have hs33 : W3.heap.size = w.heap.size + 6 := by omega
 have HW3 : Hid (Below w.heap.size w W3 /\ W3.heap.size = w.heap.size + 6) := ⟨below_tr HBW.out hb3, hs33⟩
 have c0 := keep_cell hb3 c0
 have c1 := keep_cell hb3 c1
 refine wpIn_wide.1 (wpIn_range_next (n := 3) (by omega) (gf := 200) rfl (enters_of Tryz.func200 (by kernel_rfl) rfl)
  hseq (fun _ _ => trivial) (fun _ _ _ _ _ _ _ _ => trivial) (Below.refl _ _) (fun _ => rfl)
  (fun pre Wx => Below w.heap.size w Wx /\ W3.heap.size <= Wx.heap.size /\ Wx.cell? ⟨w.heap.size, 0, none⟩ = some (.slice am nm pm) /\ Wx.cell? ⟨w.heap.size, 1, none⟩ = some (.slice ac nc pc) /\ RdI w.heap.size (w.heap.size + 1) (w.heap.size + 2) n Wx (rdL ms cs pre))
  (fun c pre Wx => False)
  (fun pre A C row hh hgr hrr => ?hI)
  (fun c pre A C row hh hgr hrr => hh)
  ⟨HW3.out.1, Nat.le_refl _, c0, c1, HRI.out.keep hb3⟩
  (fun x a' Wx => ∃ B v12 v16, a' = { tmps := #[.agg #[.slice am nm pm, .slice ac nc pc, .int .u64 bs, .slice ap np pp], .int .u32 a, .int .u64 n, .pointer (some ⟨w.heap.size, 0, none⟩), undef, undef, .string ⟨#[]⟩, .pointer (some ⟨w.heap.size + 2, 0, none⟩), .pointer (some ⟨B, 0, none⟩), undef, undef, .int .u64 n, v12, .agg #[.slice am nm pm, .slice ac nc pc, .int .u64 bs, .slice ap np pp], .int .u32 a, .int .u64 n, v16, .agg #[.int .u64 x.1, .int .u64 x.2.1, .int .i64 x.2.2], undef, undef, undef, undef, undef, undef, undef, undef, undef, undef, undef, undef, undef, undef, undef, undef, undef, undef], defers := [] } /\ W3.heap.size <= B /\ Wx.cell? ⟨B, 0, none⟩ = some (.int .u64 x.1) /\ Wx.cell? ⟨B, 1, none⟩ = some (.int .u64 x.2.1) /\ Wx.cell? ⟨B, 2, none⟩ = some (.int .i64 x.2.2))
  (fun x a' s A C row hh hgr hrr => ?hAx) ?assign ?body ?done ?stop)
 case hI =>
  obtain ⟨e1, e5, e2, e3, e4⟩ := hh
  have hs := HW3.out.2
  exact ⟨e1.grown hgr e1.size (fun r e => by have := (hrr r e).1; omega), Nat.le_trans e5 hgr.size, hgr.cell e2 (fun e => by have := (hrr _ e.symm).1; simp at this; omega), hgr.cell e3 (fun e => by have := (hrr _ e.symm).1; simp at this; omega), e4.row hgr (fun r e => (hrr r e).2)⟩
 case hAx =>
  obtain ⟨B, v12, v17, e1, e2, e3, e4, e5⟩ := hh
  exact ⟨B, v12, v17, e1, e2, cell_row e3 hgr (fun r e => (hrr r e).2), cell_row e4 hgr (fun r e => (hrr r e).2), cell_row e5 hgr (fun r e => (hrr r e).2)⟩
 case assign =>
  intro l pre x Wx K hnx hi hK
  simp only [encP]
  gi_wp2
  obtain ⟨i1, i5, i2, i3, i4⟩ := hi
  have hb' : Below Wx.heap.size Wx (Wx.alloc (.cells #[.int .u64 x.1, .int .u64 x.2.1, .int .i64 x.2.2] 207)) := (Below.refl _ _).alloc (Nat.le_refl _) _
  exact hK _ _ ((KeepsOthers.of_below hb').from _) trivial ⟨below_tr i1 hb', Nat.le_trans i5 hb'.size, keep_cell hb' i2, keep_cell hb' i3, i4.keep hb'⟩ ⟨_, _, _, rfl, i5, cell_newA Wx _ 207 _ 0 _ rfl rfl, cell_newA Wx _ 207 _ 1 _ rfl rfl, cell_newA Wx _ 207 _ 2 _ rfl rfl⟩
 case body =>
  rintro l pre x a' Wx ⟨k, hpre, hlt, hx⟩ ⟨i1, i5, g0, g1, i4⟩ ⟨B, v12, v16, rfl, hB, z0, z1, z2⟩
  have hs := HW3.out.2
  obtain ⟨x2b, x3a, x3b, x3c⟩ : x.2.1 < 18446744073709551616 /\ 1 <= x.2.2 /\ x.2.2 <= 8 /\ offP a n k + x.2.2 <= n := by
   rw [hx]; unfold pcOf; simp only; omega
  have hll : (rdL ms cs pre).length = offP a n k := by rw [hpre]; exact rdL_len ms cs a (bs + a) n k
  obtain ⟨lv, hlv⟩ : ∃ z, z = loadV ms cs x.2.1 x.2.2 := ⟨_, rfl⟩
  obtain ⟨kd, hkd⟩ : ∃ z, z = (faultFrom ms x.2.1 1 0 x.2.2).1 := ⟨_, rfl⟩
  obtain ⟨fa, hfa⟩ : ∃ z, z = (faultFrom ms x.2.1 1 0 x.2.2).2 := ⟨_, rfl⟩
  have K64 : Calls Tryz.prog 150 #[.agg #[.slice am nm pm, .slice ac nc pc], .int .u64 x.2.1, .int .i64 x.2.2] Wx fun e w' => e = .returned (.tuple #[.int .u64 lv, .agg #[.int .i64 kd, .int .u64 fa]]) /\ Below Wx.heap.size Wx w' := by
   obtain ⟨h1, h2, h3, h4, h5, h6, h7⟩ := HSM.out
   rw [hlv, hkd, hfa]
   exact load20_any _ _ ms cs x.2.1 x.2.2 Wx (h1.keep i1) (h2.keep i1) h3 h4 h5 h6 h7 x2b x3a x3b
  obtain ⟨str, hstr⟩ : ∃ z, z = W.putLeS lv (x.2.2 : Int) := ⟨_, rfl⟩
  have K65 : Hid (∀ w', Calls Tryz.prog 151 #[.int .u64 lv, .int .i64 x.2.2] w' fun e w'' => e = .returned (.string str) /\ Below w'.heap.size w' w'') := fun w' => by rw [hstr]; exact W.putLe_any lv _ w'
  have hse : str = ⟨(W.leB lv x.2.2).toArray⟩ := by rw [hstr, W.putLeS, if_pos (by omega), Int.toNat_natCast]
  have hss : str.size = x.2.2 := by rw [hse]; show (W.leB lv x.2.2).toArray.size = _; simp [W.leB_length]
  obtain ⟨L, hL⟩ : ∃ z, z = rdL ms cs pre := ⟨_, rfl⟩
  have HSN : Hid (rdL ms cs (pre ++ [x]) = L ++ W.leB lv x.2.2) := by show _ = _; rw [rdL_snoc, <- hlv, <- hL]
  rw [<- hL] at hll i4
  obtain ⟨ln, hln⟩ : ∃ z, z = L.length := ⟨_, rfl⟩
  have HST : Hid (str = ⟨(W.leB lv x.2.2).toArray⟩ /\ str.size = x.2.2 /\ ln + str.size <= n /\ 0 < n /\ ln = L.length) := ⟨hse, hss, by omega, by omega, hln⟩
  have HI : Hid (Below w.heap.size w Wx /\ W3.heap.size <= Wx.heap.size /\ Wx.cell? ⟨w.heap.size, 0, none⟩ = some (.slice am nm pm) /\ Wx.cell? ⟨w.heap.size, 1, none⟩ = some (.slice ac nc pc) /\ RdI w.heap.size (w.heap.size + 1) (w.heap.size + 2) n Wx L) := ⟨i1, i5, g0, g1, i4⟩
  have o7 := i4.1.cell
  rw [<- hln] at o7
  have HBX : Hid (W3.heap.size <= B) := hB
  clear i1 i5 i4 hpre hlt hx hlv hkd hfa hstr hse hss hL hll hln x2b x3a x3b x3c hseq hB hs hs33 hs3
  gi_wp2
  refine ⟨trivial, (CallsIn.inRound l (callsIn_wide.2 K64)).mono ?_⟩
  rintro e wy ⟨rfl, hR⟩
  have z2 := keep_cell hR z2
  have o7 := keep_cell hR o7
  have HR1 : Hid (Below Wx.heap.size Wx wy) := hR
  clear hR K64 g0 g1 z0 z1
  gi_wp2
  obtain ⟨W5, hW5⟩ : ∃ z, wy.alloc (.cells #[.int .i64 kd, .int .u64 fa] 38) = z := ⟨_, rfl⟩
  rw [hW5]
  have hb5 : Below wy.heap.size wy W5 := by rw [<- hW5]; exact (Below.refl _ _).alloc (Nat.le_refl _) _
  have z2 := keep_cell hb5 z2
  have o7 := keep_cell hb5 o7
  have HR5 : Hid (Below Wx.heap.size Wx W5) := below_tr HR1.out hb5
  clear hW5 hb5
  refine wpIn_region_cut (R := Ext) [⟨28, fun v _ => v = .slice (some ⟨w.heap.size + 1, 0, none⟩) ln n, fun _ _ _ _ h => h⟩, ⟨29, fun v _ => v = .int .u64 lv, fun _ _ _ _ h => h⟩, ⟨30, fun v _ => v = .pointer (some ⟨B, 2, none⟩), fun _ _ _ _ h => h⟩, ⟨31, fun v _ => v = .int .i64 x.2.2, fun _ _ _ _ h => h⟩, ⟨32, fun v _ => v = .string str, fun _ _ _ _ h => h⟩] _ 5 (by kernel_rfl) rfl (by kernel_rfl) (by decide) (by kernel_rfl) (Below.drew (Below.refl _ _)) (fun _ _ _ h1 h2 => below_tr h1 h2) (fun QQ => ⟨?_, ?_, ?_, ?_, ?_, trivial⟩) (fun f wy_1 hR hf A hA => ?_)
  ·intro A wx hR hout hdep K hK
   have h7 : A.tmps[7]?.getD undef = .pointer (some ⟨w.heap.size + 2, 0, none⟩) := hout 7 (by kernel_rfl)
   refine yes ?_
   have o7 := keep_cell hR o7
   have z2 := keep_cell hR z2
   simp [go_sem, h7, o7, z2]
   exact hK.out _ _ (Below.refl _ _) rfl
  ·intro A wx hR hout hdep K hK
   have h9 : A.tmps[9]?.getD undef = .int .u64 lv := hout 9 (by kernel_rfl)
   refine yes ?_
   simp [go_sem, h9]
   exact hK.out _ _ (Below.refl _ _) rfl
  ·intro A wx hR hout hdep K hK
   have h8 : A.tmps[8]?.getD undef = .pointer (some ⟨B, 0, none⟩) := hout 8 (by kernel_rfl)
   refine yes ?_
   simp [go_sem, h8]
   exact hK.out _ _ (Below.refl _ _) rfl
  ·intro A wx hR hout hdep K hK
   have h30 : A.tmps[30]?.getD undef = .pointer (some ⟨B, 2, none⟩) := hdep 30 (by kernel_rfl)
   refine yes ?_
   have o7 := keep_cell hR o7
   have z2 := keep_cell hR z2
   simp [go_sem, h30, o7, z2]
   exact hK.out _ _ (Below.refl _ _) rfl
  ·intro A wx hR hout hdep K hK
   have h29 : A.tmps[29]?.getD undef = .int .u64 lv := hdep 29 (by kernel_rfl)
   have h31 : A.tmps[31]?.getD undef = .int .i64 x.2.2 := hdep 31 (by kernel_rfl)
   refine yes ?_
   simp [go_sem, h29, h31]
   refine ⟨trivial, (CallsIn.inRound l (callsIn_wide.2 (K65.out wx))).mono ?_⟩
   rintro e wG ⟨rfl, hbG⟩
   exact hK.out _ _ hbG rfl
  have hv28 : f 28 = .slice (some ⟨w.heap.size + 1, 0, none⟩) ln n := hf 28 (by kernel_rfl)
  have hv32 : f 32 = .string str := hf 32 (by kernel_rfl)
  simp only [putSl, List.take_succ_cons, List.take_zero, Act.put, List.setIfInBounds_toArray, List.set_cons_zero, List.set_cons_succ, hv28, hv32] at hA
  subst hA
  obtain ⟨j1, j5, j2, j3, j4⟩ := HI.out
  obtain ⟨t1, t2, t3, t4, t5⟩ := HST.out
  have hRx : Below Wx.heap.size Wx wy_1 := below_tr HR5.out hR
  have jk := j4.keep hRx
  rw [RdI, <- t5] at jk
  obtain ⟨i0, hi, hz0, hz1, hz2⟩ := info_parts info5
  refine wpAnyIn_ready (rs := [5]) (by kernel_rfl) (by simp) ?_
  refine AllReadyIn.cons rfl (fun K hK => ?_) AllReadyIn.nil
  refine yes ?_
  refine wpIn_append_str wy_1 (.tmp 28) (.tmp 32) 102 9 rfl w.heap.size 5 i0 Tryz.underlying102 Tryz.underlying9 hi hz1 _ ln n _ rfl jk.2 str rfl t4 t3 ?_
  intro w2 how2 hgr2
  refine hK _ _ ?_
  clear hK K
  have bx2 : Boxed w2 (w.heap.size + 2) 102 (.slice (some ⟨w.heap.size + 1, 0, none⟩) ln n) := jk.1.kept hgr2 (by simp [Value.ownBlock])
  have q0 := bx2.cell
  have q1 := bx2.frozen
  simp only [Act.put, List.setIfInBounds_toArray, List.set_cons_zero, List.set_cons_succ]
  refine wpAnyIn_ready (rs := [6]) (by kernel_rfl) (by simp) ?_
  refine AllReadyIn.cons rfl (fun K hK => ?_) AllReadyIn.nil
  refine yes ?_
  have HE : Hid (KeepsFrom W3.heap.size Wx (w2.setCell ⟨w.heap.size + 2, 0, none⟩ (.slice (some ⟨w.heap.size + 1, 0, none⟩) (ln + str.size) n)) /\ (fun (pre : List P3) (Wx : World) => Below w.heap.size w Wx /\ W3.heap.size <= Wx.heap.size /\ Wx.cell? ⟨w.heap.size, 0, none⟩ = some (.slice am nm pm) /\ Wx.cell? ⟨w.heap.size, 1, none⟩ = some (.slice ac nc pc) /\ RdI w.heap.size (w.heap.size + 1) (w.heap.size + 2) n Wx (rdL ms cs pre)) (pre ++ [x]) (w2.setCell ⟨w.heap.size + 2, 0, none⟩ (.slice (some ⟨w.heap.size + 1, 0, none⟩) (ln + str.size) n))) := by
   have hs := HW3.out.2
   have k1 : KeepsOthers Wx w2 := (KeepsOthers.of_below hRx).trans (KeepsOthers.of_grownBy hgr2 (fun j o e ho => by
    obtain ⟨c, fz, q⟩ := Go.Lib.ownsRow_kind jk.2 j e
    rw [q] at ho; cases ho; rfl))
   have b2 : Below w.heap.size w w2 := (below_tr j1 hRx).grown hgr2 (below_tr j1 hRx).size (fun r e => by simp [Value.ownBlock] at e; omega)
   refine ⟨(k1.trans (KeepsOthers.setCell _ _ _)).from _, b2.setCell (by simp) _, ?_, ?_, ?_, ?_⟩
   ·have h1 := hgr2.size
    have h2 := hRx.size
    simp [World.setCell]; omega
   ·rw [World.cell?_setCell_other _ _ _ _ (by simp)]; exact hgr2.cell (keep_cell hRx j2) (by simp [Value.ownBlock])
   ·rw [World.cell?_setCell_other _ _ _ _ (by simp)]; exact hgr2.cell (keep_cell hRx j3) (by simp [Value.ownBlock])
   ·rw [HSN.out]
    have hl : (L ++ W.leB lv x.2.2).length = ln + str.size := by rw [List.length_append, W.leB_length, <- t5, t2]
    refine ⟨by rw [hl]; exact bx2.set _, ?_⟩
    rw [hl, show cellsB (L ++ W.leB lv x.2.2) = cellsB L ++ Go.Lib.strCells str by rw [t1, str_cells]; simp [cellsB]]
    exact how2.kept (grownBy_setCell' w2 _ _) (Or.inr (by simp [Value.ownBlock]))
  clear j1 j5 j2 j3 j4 t1 t2 t3 t4 t5 hRx jk how2 hgr2 bx2 hR
  simp [go_sem, q0, q1]
  refine hK _ _ ?_
  refine wpAnyIn_done (by kernel_rfl) ?_ _
  gi_wp2
  exact ⟨HE.out.1, trivial, HE.out.2⟩
 case done =>
  rintro D ys Wx hD ⟨k, rfl, hk⟩ ⟨i1, i5, g0, g1, i4⟩ hKD
  rw [pcM_done a (bs + a) n k hk, <- HFR.out] at i4
  have o7 := i4.1.cell
  have hconv := run_convert_bytes_back (P := Tryz.prog) Wx 102 9 5 ⟨w.heap.size + 1, 0, none⟩ n FR Tryz.underlying102 Tryz.underlying5 Tryz.underlying9 (fun j hj => i4.2.cells rfl j _ (by simp [cellsB, hj]))
  have HKD : Hid (Wx.heap[D]? = some (.deferred (some [])) /\ Below w.heap.size w Wx /\ w.heap.size <= D) := ⟨hKD, i1, by have := HW3.out.2; omega⟩
  clear hKD hseq c0 c1 c2 c3 d0 d1 d2 d3 d4 d5 g0 g1 i4 i1
  go_wp2
  obtain ⟨k1, k2, k3⟩ := HKD.out
  refine ⟨by simp, .inl ⟨_, _, rfl, run_takeDeferred k1, ?_⟩⟩
  exact ⟨_, results_tmp rfl _ _ _, rfl, k2.grown (grownBy_putObj' Wx D _) k2.size (fun r e => by cases e; exact k3)⟩
 case stop =>
  rintro D c pre Wx hD hS h hKD
  exact h.elim
structure GdM (w : World) (vm vc vp : Value) (ms cs ps : List (Nat × Int)) (bs : Nat) : Prop where
 m : Sl .i64 w vm ms
 c : Sl .u64 w vc cs
 p : Pg.Sl .i64 w vp ps
 sm : Srt ms
 sc : Srt cs
 sp : Srt ps
 lm : ms.length <= 1073741824
 lc : cs.length <= 1073741824
 lp : ps.length <= 1073741824
 hw : Words cs
 hb : bs <= 4611686018427387904
theorem GdM.keep {w w' : World} {vm vc vp : Value} {ms cs ps : List (Nat × Int)} {bs : Nat} (h : GdM w vm vc vp ms cs ps bs) (hb : Below w.heap.size w w') : GdM w' vm vc vp ms cs ps bs :=
 ⟨h.m.keep hb, h.c.keep hb, h.p.keep hb, h.sm, h.sc, h.sp, h.lm, h.lc, h.lp, h.hw, h.hb⟩
theorem GdM.shapes {w : World} {vm vc vp : Value} {ms cs ps : List (Nat × Int)} {bs : Nat} (h : GdM w vm vc vp ms cs ps bs) : (∃ a n p, vm = .slice a n p) /\ (∃ a n p, vc = .slice a n p) /\ (∃ a n p, vp = .slice a n p) := by
 refine ⟨?_, ?_, ?_⟩
 ·obtain ⟨a, p, e, _⟩ := h.m; exact ⟨_, _, _, e⟩
 ·obtain ⟨a, p, e, _⟩ := h.c; exact ⟨_, _, _, e⟩
 ·obtain ⟨a, p, e, _⟩ := h.p; exact ⟨_, _, _, e⟩
theorem ffL_zero (ps : List (Nat × Int)) (asked : Int) : ∀ xs, (ffL ps asked xs).1 = 0 -> ffL ps asked xs = (0, 0) /\ ∀ y ∈ xs, gk ps asked y.1 = 0
 | [], _ => ⟨rfl, by simp⟩
 | x :: t, h => by
  rw [ffL] at h |-
  by_cases c : gk ps asked x.1 = 0
  ·rw [if_pos c] at h |-
   obtain ⟨h1, h2⟩ := ffL_zero ps asked t h
   exact ⟨h1, fun y hy => by
    rcases List.mem_cons.1 hy with e | e; · rw [e]; exact c
    ·exact h2 y e⟩
  ·rw [if_neg c] at h; exact absurd h c
theorem ffN_zero (ps : List (Nat × Int)) (a n : Nat) (asked : Int) (h : (ffN ps a n asked).1 = 0) : ffN ps a n asked = (0, 0) /\ n <= 65536 := by
 unfold ffN at h |-
 by_cases c : 65536 < n
 ·rw [if_pos c] at h; simp at h
 ·rw [if_neg c] at h |-
  exact ⟨(ffL_zero ps asked _ h).1, by omega⟩
def tdL (ms cs ps : List (Nat × Int)) (bs a n : Nat) (asked : Int) : List UInt8 := if (ffN ps a n asked).1 = 0 then rdL ms cs (pcM a (bs + a) n n) else []
theorem box42 (w : World) (x y z u p q : Value) : ∃ W, (w.alloc (.cells #[x, y, z, u] 33)).alloc (.cells #[p, q] 38) = W /\ Below w.heap.size w W /\ W.heap.size = w.heap.size + 2 /\
  W.cell? ⟨w.heap.size, 0, none⟩ = some x /\ W.cell? ⟨w.heap.size, 1, none⟩ = some y /\ W.cell? ⟨w.heap.size, 2, none⟩ = some z /\ W.cell? ⟨w.heap.size, 3, none⟩ = some u /\ Free W ⟨w.heap.size + 1, 0, none⟩ /\ Free W ⟨w.heap.size + 1, 1, none⟩ := by
 refine ⟨_, rfl, ((Below.refl _ _).alloc (Nat.le_refl _) _).alloc (by simp) _, by simp, ?_, ?_, ?_, ?_, ⟨⟨p, ?_⟩, ?_⟩, ⟨⟨q, ?_⟩, ?_⟩⟩
 ·exact cell_old (cell_newA w _ 33 _ 0 x rfl rfl) _
 ·exact cell_old (cell_newA w _ 33 _ 1 y rfl rfl) _
 ·exact cell_old (cell_newA w _ 33 _ 2 z rfl rfl) _
 ·exact cell_old (cell_newA w _ 33 _ 3 u rfl rfl) _
 ·exact cell_newA _ _ 38 _ 0 p (by simp) rfl
 ·rw [World.frozen?_alloc_at _ _ _ _ (by simp)]
 ·exact cell_newA _ _ 38 _ 1 q (by simp) rfl
 ·rw [World.frozen?_alloc_at _ _ _ _ (by simp)]
set_option maxHeartbeats 1000000 in
theorem gtold31 (vm vc vp : Value) (bs a n : Nat) (asked : Int) (ms cs ps : List (Nat × Int)) (w : World) (hg : GdM w vm vc vp ms cs ps bs) (ha : a < 4294967296) (hn : n < 18446744073709551616) :
  Calls Tryz.prog 93 #[.agg #[vm, vc, .int .u64 bs, vp], .int .u32 a, .int .u64 n, .int .i64 asked] w fun e w' => e = .returned (.tuple #[.string ⟨(tdL ms cs ps bs a n asked).toArray⟩, .agg #[.int .i64 (ffN ps a n asked).1, .int .u64 ((ffN ps a n asked).2 : Int)]]) /\ Below w.heap.size w w' := by
 obtain ⟨⟨am, nm, pm, rfl⟩, ⟨ac, nc, pc, rfl⟩, ⟨ap, np, pp, rfl⟩⟩ := hg.shapes
 obtain ⟨W, hW, hb, hsz, c0, c1, c2, c3, g0, g1⟩ := box42 w (.slice am nm pm) (.slice ac nc pc) (.int .u64 bs) (.slice ap np pp) (.int .i64 0) (.int .u64 0)
 have K38 := gff38 (.slice am nm pm) (.slice ac nc pc) (.slice ap np pp) bs a n asked ps W ⟨_, _, _, rfl⟩ ⟨_, _, _, rfl⟩ (hg.keep hb).p hg.sp hg.lp hg.hb ha hn
 have K39 : Hid (∀ w', Below W.heap.size W w' -> n <= 65536 -> Calls Tryz.prog 115 #[.agg #[.slice am nm pm, .slice ac nc pc, .int .u64 bs, .slice ap np pp], .int .u32 a, .int .u64 n] w' fun e w'' => e = .returned (.string ⟨(rdL ms cs (pcM a (bs + a) n n)).toArray⟩) /\ Below w'.heap.size w' w'') := fun w' hb' hn' => by
  have h := hg.keep (below_tr hb hb')
  exact gread39 _ _ _ bs a n ms cs w' h.m h.c ⟨_, _, _, rfl⟩ h.sm h.sc h.lm h.lc h.hw h.hb ha hn'
 have hz := ffN_zero ps a n asked
 obtain ⟨F, hF⟩ : ∃ F, F = ffN ps a n asked := ⟨_, rfl⟩
 obtain ⟨R, hR⟩ : ∃ R, R = rdL ms cs (pcM a (bs + a) n n) := ⟨_, rfl⟩
 obtain ⟨T, hT⟩ : ∃ T, T = tdL ms cs ps bs a n asked := ⟨_, rfl⟩
 have HT : Hid (T = if F.1 = 0 then R else []) := by show _ = _; rw [hT, tdL, <- hF, <- hR]
 rw [<- hF] at K38 hz |-
 rw [<- hR] at K39
 rw [<- hT]
 obtain ⟨kd, fa⟩ := F
 simp only at K38 hz HT |-
 have HZ : Hid (kd = 0 -> (kd, fa) = ((0, 0) : Int × Nat) /\ n <= 65536) := hz
 clear hg hF hR hT hz
 go_enter Tryz.func93, Tryz.ntmps93
 go_wp2_with fail
 refine K38.mono ?_
 rintro e wy ⟨rfl, hby⟩
 clear K38
 obtain ⟨W6, hW6⟩ : ∃ z, wy.alloc (.cells #[.int .i64 kd, .int .u64 fa] 38) = z := ⟨_, rfl⟩
 have hb6 : Below wy.heap.size wy W6 := by rw [<- hW6]; exact (Below.refl _ _).alloc (Nat.le_refl _) _
 have k0 : W6.cell? ⟨wy.heap.size, 0, none⟩ = some (.int .i64 kd) := by rw [<- hW6]; exact cell_newA wy _ 38 _ 0 _ rfl rfl
 have k1 : W6.cell? ⟨wy.heap.size, 1, none⟩ = some (.int .u64 fa) := by rw [<- hW6]; exact cell_newA wy _ 38 _ 1 _ rfl rfl
 have hb7 := below_tr hby hb6
 have c0 := keep_cell hb7 c0
 have c1 := keep_cell hb7 c1
 have c2 := keep_cell hb7 c2
 have c3 := keep_cell hb7 c3
 have g0 : Free W6 ⟨w.heap.size + 1, 0, none⟩ := ⟨⟨_, keep_cell hb7 g0.cell⟩, keep_frozen hb7 (by simp; omega) g0.frozen⟩
 have g1 : Free W6 ⟨w.heap.size + 1, 1, none⟩ := ⟨⟨_, keep_cell hb7 g1.cell⟩, keep_frozen hb7 (by simp; omega) g1.frozen⟩
 have HB6 : Hid (Below W.heap.size W W6 /\ Below w.heap.size w W6 /\ w.heap.size + 2 <= W6.heap.size) := ⟨hb7, below_tr hb hb7, by have := hb7.size; omega⟩
 have FIN : Hid (∀ wq x y, Below W6.heap.size W6 wq -> Below w.heap.size w ((wq.setCell ⟨w.heap.size + 1, 0, none⟩ x).setCell ⟨w.heap.size + 1, 1, none⟩ y) /\ ((wq.setCell ⟨w.heap.size + 1, 0, none⟩ x).setCell ⟨w.heap.size + 1, 1, none⟩ y).cell? ⟨w.heap.size + 1, 0, none⟩ = some x /\ ((wq.setCell ⟨w.heap.size + 1, 0, none⟩ x).setCell ⟨w.heap.size + 1, 1, none⟩ y).cell? ⟨w.heap.size + 1, 1, none⟩ = some y) := fun wq x y hbq => by
  have hl := HB6.out.2.2
  have F0 : Free wq ⟨w.heap.size + 1, 0, none⟩ := ⟨⟨_, keep_cell hbq g0.cell⟩, keep_frozen hbq (by simp; omega) g0.frozen⟩
  have F1 : Free wq ⟨w.heap.size + 1, 1, none⟩ := ⟨⟨_, keep_cell hbq g1.cell⟩, keep_frozen hbq (by simp; omega) g1.frozen⟩
  obtain ⟨s0, s1⟩ := res2 wq (w.heap.size + 1) x y F0 F1
  exact ⟨((below_tr HB6.out.2.1 hbq).setCell (by simp) _).setCell (by simp) _, s0, s1⟩
 have HFR : Hid (∀ wq, Below W6.heap.size W6 wq -> Free wq ⟨w.heap.size + 1, 0, none⟩ /\ Free wq ⟨w.heap.size + 1, 1, none⟩) := fun wq hbq => by
  have hl := HB6.out.2.2
  exact ⟨⟨⟨_, keep_cell hbq g0.cell⟩, keep_frozen hbq (by simp; omega) g0.frozen⟩, ⟨⟨_, keep_cell hbq g1.cell⟩, keep_frozen hbq (by simp; omega) g1.frozen⟩⟩
 clear hb6 hb7 hsz hb
 by_cases h0 : kd = 0
 ·obtain ⟨e1, hn'⟩ := HZ.out h0
  have HKZ : Hid (kd = 0 /\ fa = 0) := by show _ /\ _; simpa using e1
  have HTR : Hid (T = R) := by show _ = _; rw [HT.out, if_pos h0]
  have K39' := K39.out W6 HB6.out.1 hn'
  have hb0 : (kd != 0) = false := by simp [h0]
  clear h0 e1
  go_wp2_with fail
  refine K39'.mono ?_
  rintro e wz ⟨rfl, hbz⟩
  obtain ⟨F0, F1⟩ := HFR.out wz hbz
  have q0 := F0.cell
  have q1 := F1.cell
  have q2 := F0.frozen
  have q3 := F1.frozen
  have HEND : Hid _ := FIN.out wz (.int .i64 0) (.int .u64 0) hbz
  clear K39' hbz F0 F1
  go_wp2
  obtain ⟨u0, u1, u2⟩ := HEND.out
  refine bodyPost_ret (v := .tuple #[.string ⟨R.toArray⟩, .agg #[.int .i64 0, .int .u64 0]]) ?_ rfl ⟨by rw [HTR.out, HKZ.out.1, HKZ.out.2]; rfl, u0⟩
  rw [results_tmp_cell rfl]; simp [go_sem, u1, u2]
 ·have HTR : Hid (T = []) := by show _ = _; rw [HT.out, if_neg h0]
  have hb0 : (kd != 0) = true := by simp [h0]
  clear h0
  go_wp2
  have q0 := g0.cell
  have q1 := g1.cell
  have q2 := g0.frozen
  have q3 := g1.frozen
  have HEND : Hid _ := FIN.out W6 (.int .i64 kd) (.int .u64 fa) (Below.refl _ _)
  go_region
  go_wp2
  obtain ⟨u0, u1, u2⟩ := HEND.out
  refine bodyPost_ret (v := .tuple #[.string ⟨#[]⟩, .agg #[.int .i64 kd, .int .u64 fa]]) ?_ rfl ⟨by rw [HTR.out], u0.drew⟩
  rw [results_tmp_cell rfl]; simp [go_sem, u1, u2]
set_option maxHeartbeats 1000000 in
theorem gbytes10 (vm vc vp : Value) (bs a n : Nat) (ms cs ps : List (Nat × Int)) (w : World) (hg : GdM w vm vc vp ms cs ps bs) (ha : a < 4294967296) (hn : n < 4294967296) :
  Calls Tryz.prog 195 #[.agg #[vm, vc, .int .u64 bs, vp], .int .u32 a, .int .u32 n] w fun e w' => e = .returned (.tuple #[.string ⟨(tdL ms cs ps bs a n 1).toArray⟩, .agg #[.int .i64 (ffN ps a n 1).1, .int .u64 ((ffN ps a n 1).2 : Int)]]) /\ Below w.heap.size w w' := by
 obtain ⟨⟨am, nm, pm, rfl⟩, ⟨ac, nc, pc, rfl⟩, ⟨ap, np, pp, rfl⟩⟩ := hg.shapes
 obtain ⟨W, hW, hb, hsz, c0, c1, c2, c3, g0, g1⟩ := box42 w (.slice am nm pm) (.slice ac nc pc) (.int .u64 bs) (.slice ap np pp) (.int .i64 0) (.int .u64 0)
 have K31 := gtold31 (.slice am nm pm) (.slice ac nc pc) (.slice ap np pp) bs a n 1 ms cs ps W (hg.keep hb) ha (by omega)
 have w1 : IntKind.u64.wrap (n : Int) = (n : Int) := by rw [IntKind.wrap_u64]; omega
 obtain ⟨T, hT⟩ : ∃ T, T = tdL ms cs ps bs a n 1 := ⟨_, rfl⟩
 obtain ⟨F, hF⟩ : ∃ F, F = ffN ps a n 1 := ⟨_, rfl⟩
 rw [<- hT, <- hF] at K31 |-
 obtain ⟨kd, fa⟩ := F
 simp only at K31 |-
 clear hg hT hF
 go_enter Tryz.func195, Tryz.ntmps195
 go_wp2_with fail
 refine K31.mono ?_
 rintro e wz ⟨rfl, hbz⟩
 have hl : w.heap.size + 2 <= W.heap.size := by omega
 have F0 : Free wz ⟨w.heap.size + 1, 0, none⟩ := ⟨⟨_, keep_cell hbz g0.cell⟩, keep_frozen hbz (by simp; omega) g0.frozen⟩
 have F1 : Free wz ⟨w.heap.size + 1, 1, none⟩ := ⟨⟨_, keep_cell hbz g1.cell⟩, keep_frozen hbz (by simp; omega) g1.frozen⟩
 have q0 := F0.cell
 have q1 := F1.cell
 have q2 := F0.frozen
 have q3 := F1.frozen
 have HEND : Hid (Below w.heap.size w wz) := below_tr hb hbz
 clear hbz K31
 go_wp2
 obtain ⟨s0, s1⟩ := res2 wz (w.heap.size + 1) (.int .i64 kd) (.int .u64 fa) F0 F1
 refine bodyPost_ret (v := .tuple #[.string ⟨T.toArray⟩, .agg #[.int .i64 kd, .int .u64 fa]]) ?_ rfl ⟨rfl, (HEND.out.setCell (by simp) _).setCell (by simp) _⟩
 rw [results_tmp_cell rfl]; simp [go_sem, s0, s1]
def isW (n : Int) : Bool := decide (n = 1) || decide (n = 2) || decide (n = 4) || decide (n = 8)
theorem isWidth34 (n : Int) (w : World) : Calls Tryz.prog 194 #[.int .i64 n] w fun e w' => e = .returned (.bool (isW n)) /\ w' = w := by
 by_cases h1 : n = 1
 ·subst h1; go_enter Tryz.func194, Tryz.ntmps194; go_wp2; go_ret; exact ⟨rfl, rfl⟩
 by_cases h2 : n = 2
 ·subst h2; go_enter Tryz.func194, Tryz.ntmps194; go_wp2; go_ret; exact ⟨rfl, rfl⟩
 by_cases h4 : n = 4
 ·subst h4; go_enter Tryz.func194, Tryz.ntmps194; go_wp2; go_ret; exact ⟨rfl, rfl⟩
 by_cases h8 : n = 8
 ·subst h8; go_enter Tryz.func194, Tryz.ntmps194; go_wp2; go_ret; exact ⟨rfl, rfl⟩
 have HF : Hid (isW n = false) := by show _ = _; simp [isW, h1, h2, h4, h8]
 have e1 : (n == 1) = false := by simpa using h1
 have e2 : (n == 2) = false := by simpa using h2
 have e4 : (n == 4) = false := by simpa using h4
 have e8 : (n == 8) = false := by simpa using h8
 go_enter Tryz.func194, Tryz.ntmps194
 go_wp2
 go_ret
 exact ⟨by rw [HF.out]; rfl, rfl⟩
end Go.Proofs.YtimfipkbddpdmaaGreatDoor.Gm
