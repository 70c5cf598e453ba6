/- What is proved here: a text's lines, each with its number: the program's lines and hasWords. -/
import Derived.Test.YtglkkeelocdanaaDoorOa
import Derived.Test.YtglkkeelocdanaaDoorNv
import Derived.Test.YtglkkeelocdanaaDoorNd
import Derived.Test.YtglkkeelocdanaaDoorPs
import Derived.LoopNIn
import Derived.LoopIn
import Derived.TacticsInMore
import Derived.OwnWalkIn
import Derived.Test.YtglkkeelocdanaaDoorOi
import Derived.Test.YtglkkeelocdanaaDoorEach
import Derived.Lib.AppendStr
import Derived.BigQuiet
namespace Go.Proofs.YtglkkeelocdanaaDoor
open Go.RowKit
set_option linter.unusedVariables false
set_option linter.unusedSimpArgs false
set_option maxRecDepth 100000
attribute [local go_sem] Oper.semAt_some
def encL (x : Nat × L8) : Array Value := #[.int .i64 (x.1 : Int), .string ⟨x.2.toArray⟩]
def LnNx (l : L8) (pre : List (Nat × L8)) (x : Nat × L8) : Prop := ∃ suf, pre ++ x :: suf = numd 0 (linesL l)
/-- What the iterator reads between rounds: the library's variable that Cut asks. -/
def MxK (A C : World) : Prop := C.cell? ⟨1, 0, none⟩ = A.cell? ⟨1, 0, none⟩
theorem cutm (s : ByteArray) (hs : s.size < 4294967281) (w : World) (hm : ∃ m : Int, w.cell? ⟨1, 0, none⟩ = some (.int .i64 m)) : Calls Tryd.prog 24 #[.string s, .string ⟨#[10]⟩] w fun e w' => e = .returned (.tuple #[.string ⟨(s.toList.takeWhile (· != 10)).toArray⟩, .string ⟨((s.toList.dropWhile (· != 10)).drop 1).toArray⟩, .bool (Lib.cut s.toList [10]).2.2]) ∧ Below w.heap.size w w' := by
  obtain ⟨m, hm⟩ := hm
  have h := Tryd.strings_Cut s ⟨#[10]⟩ m w hs hm
  refine h.mono ?_
  rintro e w' ⟨rfl, n, rfl⟩
  obtain ⟨c1, c2⟩ := cut1 10 s.toList
  rw [ByteArray.toList_eq] at c1 c2
  refine ⟨?_, below_drewN (Below.refl _ _) n⟩
  rw [ByteArray.toList_eq]
  rw [← c1, ← c2]
theorem lines26 (p : ByteArray) (w : World) : Calls Tryd.prog 9 #[.string p] w fun e w' => e = .returned (.func (.func 23) #[] #[.pointer (some ⟨w.heap.size, 0, none⟩)]) ∧ w' = w.alloc (.cells #[.string p] 9) := by
  go_enter Tryd.func9, Tryd.ntmps9
  go_wp2
  go_ret
  exact ⟨rfl, rfl⟩
theorem hasWords27 (s : L8) (w : World) : Calls Tryd.prog 10 #[.string ⟨s.toArray⟩] w fun e w' => e = .returned (.bool (hasW s)) ∧ w' = w := by
  cases s with
  | nil =>
    go_enter Tryd.func10, Tryd.ntmps10
    go_wp2
    go_ret
    exact ⟨rfl, rfl⟩
  | cons c t =>
    obtain ⟨S, hS⟩ : ∃ z : ByteArray, z = ⟨(c :: t).toArray⟩ := ⟨_, rfl⟩
    have hl : S.toList = c :: t := by rw [hS]; exact bal _
    have hsz : S.size = t.length + 1 := by rw [← bt_len, hl]; rfl
    have h0 : 0 < S.size := by omega
    have h0i : (0 : Int) < (S.size : Int) := by omega
    have hne : (S.toList == []) = false := by rw [hl]; rfl
    have hne2 : S.toList.isEmpty = false := by rw [hl]; rfl
    have hix : S[0] = c := by rw [bt_get S 0 h0 (by rw [bt_len]; exact h0)]; simp only [hl]; rfl
    obtain ⟨cn, hcn⟩ : ∃ z : Nat, z = c.toNat := ⟨_, rfl⟩
    have hix2 : S[0].toNat = cn := by rw [hix, hcn]
    obtain ⟨B, hB⟩ : ∃ z, z = hasW (c :: t) := ⟨_, rfl⟩
    have HB : Hid (B = ((cn : Int) != 35)) := by
      show _ = _
      rw [hB]
      show (c != 35) = _
      rw [hcn]
      by_cases h : c = 35
      · subst h; rfl
      · have h1 : (c != 35) = true := by simpa using h
        have h2 : ((c.toNat : Int) == 35) = false := by
          simp
          intro e
          exact h (UInt8.toNat_inj.1 (by show c.toNat = 35; omega))
        rw [h1, bne, h2]; rfl
    rw [← hS, ← hB]
    clear hS hl hsz hix hcn hB
    go_enter Tryd.func10, Tryd.ntmps10
    go_wp2
    go_ret
    exact ⟨by rw [HB.out]; rfl, rfl⟩
theorem lns_fuel : ∀ (f g : Nat) (x : L8), x.length ≤ f → x.length ≤ g → lnsF f x = lnsF g x
  | 0, g, x, h, _ => by
    have : x = [] := List.length_eq_zero_iff.1 (by omega)
    subst this
    rw [lnsF_nil, lnsF_nil]
  | f + 1, 0, x, _, h => by
    have : x = [] := List.length_eq_zero_iff.1 (by omega)
    subst this
    rw [lnsF_nil, lnsF_nil]
  | f + 1, g + 1, x, h1, h2 => by
    by_cases hx : x = []
    · subst hx
      rw [lnsF_nil, lnsF_nil]
    · have hd := drop_less x hx
      rw [lnsF, lnsF, if_neg hx, if_neg hx, lns_fuel f g _ (by omega) (by omega)]
set_option maxHeartbeats 1000000 in
theorem lines61_in (m : Nat) (hm : 2 ≤ m) (l' Bp : Nat) (p : ByteArray) (l : L8) (hl : l = p.toList) (hp : p.size ≤ 100000) (J Jx : List (Nat × L8) → World → Prop)
    (hY : ∀ pre x W, J pre W → LnNx l pre x → YieldAt Fence.wide (m - 1) Tryd.prog l' (encL x) W fun e W' =>
      (e = .returned (.bool true) ∧ J (pre ++ [x]) W' ∧ MxK W W') ∨ (e = .returned (.bool false) ∧ Jx (pre ++ [x]) W'))
    (hJ : ∀ pre A C, J pre A → Below A.heap.size A C → J pre C)
    (W : World) (hc : W.cell? ⟨Bp, 0, none⟩ = some (.string p)) (hmx : ∃ m : Int, W.cell? ⟨1, 0, none⟩ = some (.int .i64 m)) (h0 : J [] W) :
    CallsIn Fence.wide m Tryd.prog 23 #[.func (.yield l') #[] #[], .pointer (some ⟨Bp, 0, none⟩)] W fun e W' => (∃ v, e = .returned v) ∧ ((∃ xs, xs = numd 0 (linesL l) ∧ J xs W') ∨ (∃ pre, True ∧ Jx pre W')) := by
  have HL : Hid (l.length = p.size ∧ l = p.toList) := ⟨by rw [hl]; exact bt_len p, hl⟩
  have HY : Hid _ := hY
  have HJ : Hid (∀ pre A C, J pre A → Below A.heap.size A C → J pre C) := hJ
  clear hY hl hJ
  refine callsIn_of_wp Tryd.func23 rfl trivial ?_ rfl
  simp only [Tryd.ntmps23, List.size_toArray, List.length_cons, List.length_nil, Nat.reduceAdd, Nat.reduceSub, Array.replicate_succ, Array.replicate_zero, List.push_toArray, List.append_toArray, List.nil_append, List.cons_append]
  gi_wp2
  gi_loopw [3, 4] (fun x y wr => ∃ (L : ByteArray) (n : Nat) (pre : List (Nat × L8)), x = .string L ∧ y = .int .i64 (n : Int) ∧ n + L.size ≤ p.size ∧ pre ++ numd n (lnsF L.size L.toList) = numd 0 (linesL l) ∧ J pre wr ∧ ∃ m : Int, wr.cell? ⟨1, 0, none⟩ = some (.int .i64 m)) (fun _ y _ => p.size + 1 - (intOf y).toNat)
  case atStart => exact ⟨p, 0, [], rfl, rfl, by omega, by rw [List.nil_append, ← HL.out.2, ← HL.out.1]; rfl, h0, hmx⟩
  case round =>
    obtain ⟨L, n, pre, rfl, rfl, hnp, hpre, hJ, hmx⟩ := hrel
    have hLs : L.toList.length = L.size := bt_len L
    by_cases hem : L.toList = []
    · have hem2 : L.toList.isEmpty = true := by rw [hem]; rfl
      have HE : Hid (pre = numd 0 (linesL l)) := by
        show _ = _
        rw [← hpre, hem, lnsF_nil]
        simp [numd]
      clear hLs hpre hmx hc h0 hem
      gi_wp2
      go_end0
      exact ⟨⟨_, rfl⟩, .inl ⟨pre, HE.out, hJ⟩⟩
    · have hem2 : L.toList.isEmpty = false := by cases hh : L.toList with
        | nil => exact absurd hh hem
        | cons a b => rfl
      have KC := cutm L (by omega) wr hmx
      obtain ⟨A, hA⟩ : ∃ z, z = L.toList.takeWhile (· != 10) := ⟨_, rfl⟩
      obtain ⟨B, hB⟩ : ∃ z, z = (L.toList.dropWhile (· != 10)).drop 1 := ⟨_, rfl⟩
      rw [← hA, ← hB] at KC
      have hBl : B.length < L.size := by rw [hB, ← hLs]; exact drop_less _ hem
      have hnext : pre ++ (n, A) :: numd (n + 1) (lnsF (L.size - 1) B) = numd 0 (linesL l) := by
        rw [← hpre, hA, hB]
        obtain ⟨f, hf⟩ : ∃ f, L.size = f + 1 := ⟨L.size - 1, by omega⟩
        rw [hf, lnsF, if_neg hem]
        rfl
      rw [lns_fuel (L.size - 1) B.length B (by omega) (Nat.le_refl _)] at hnext
      obtain ⟨BB, hBB⟩ : ∃ z : ByteArray, z = ⟨B.toArray⟩ := ⟨_, rfl⟩
      have HBB : Hid (BB.size = B.length ∧ BB.toList = B ∧ B.length < L.size) := ⟨by rw [hBB]; show Array.size _ = _; simp, by rw [hBB]; exact bal B, hBl⟩
      obtain ⟨AB, hAB⟩ : ∃ z : ByteArray, z = ⟨A.toArray⟩ := ⟨_, rfl⟩
      rw [← hBB, ← hAB] at KC
      have HNX : Hid (pre ++ (n, A) :: numd (n + 1) (lnsF B.length B) = numd 0 (linesL l)) := hnext
      have HAB : Hid (AB = ⟨A.toArray⟩) := hAB
      have HJW : Hid (J pre wr) := hJ
      have HMX : Hid (∃ m : Int, wr.cell? ⟨1, 0, none⟩ = some (.int .i64 m)) := hmx
      generalize (Lib.cut L.toList [10]).2.2 = fb at KC
      have hn100 : n ≤ 100000 := by omega
      clear hLs hpre hJ hmx hc h0 hem hA hB hBl hnext hBB hAB
      gi_wp2
      refine ⟨trivial, fun _ => by omega, (callsIn_wide.2 KC).mono ?_⟩
      rintro e w1 ⟨rfl, hb1⟩
      obtain ⟨fn, tmps, assign, body, hy, hRd⟩ := HY.out pre (n, A) w1 (HJ.out _ _ _ HJW.out hb1) ⟨_, HNX.out⟩
      simp only [encL] at hy
      rw [← HAB.out] at hy
      have HM1 : Hid (∃ m : Int, w1.cell? ⟨1, 0, none⟩ = some (.int .i64 m)) := by obtain ⟨m, h⟩ := HMX.out; exact ⟨m, keep_cell hb1 h⟩
      clear KC hb1
      gi_wp2
      refine ⟨fun _ => by omega, hRd.mono ?_⟩
      rintro e W3 (⟨rfl, hJ3, hk3⟩ | ⟨rfl, hJx3⟩)
      · have HM3 : Hid (∃ m : Int, W3.cell? ⟨1, 0, none⟩ = some (.int .i64 m)) := by obtain ⟨m, h⟩ := HM1.out; exact ⟨m, hk3.trans h⟩
        clear hRd hy hk3
        gi_wp2
        go_roundw
        case rel => exact ⟨BB, n + 1, pre ++ [(n, A)], rfl, by simp, by have := HBB.out; omega, by rw [HBB.out.1, HBB.out.2.1, List.append_assoc]; exact HNX.out, hJ3, HM3.out⟩
        case measure => have := HBB.out; simp [intOf]; omega
      · clear hRd hy
        gi_wp2
        refine bodyPost_ret (results_none rfl _ _ _) rfl ?_
        exact ⟨⟨_, rfl⟩, .inr ⟨_, trivial, hJx3⟩⟩
theorem lines_next (m : Nat) (hm : 2 ≤ m) (p : ByteArray) (l : L8) (hl : l = p.toList) (hp : p.size ≤ 100000) (Bp : Nat) (w0 : World) (hc : w0.cell? ⟨Bp, 0, none⟩ = some (.string p)) (hmx : ∃ m : Int, w0.cell? ⟨1, 0, none⟩ = some (.int .i64 m)) :
    SeqNx m Tryd.prog 23 #[.pointer (some ⟨Bp, 0, none⟩)] encL MxK (LnNx l) (fun xs => xs = numd 0 (linesL l)) (fun _ => True) w0 := by
  intro l' J Jx W hb hJ _ hY h0
  obtain ⟨mm, hmm⟩ := hmx
  exact lines61_in m hm l' Bp p l hl hp J Jx hY (fun pre A C h hb' => hJ pre A C none h (grown_of hb') (fun r e => by cases e)) W (keep_cell hb hc) ⟨mm, keep_cell hb hmm⟩ h0
end Go.Proofs.YtglkkeelocdanaaDoor
namespace Go.Proofs.YtglkkeelocdanaaDoor
open Go.RowKit
set_option linter.unusedVariables false
set_option linter.unusedSimpArgs false
set_option maxRecDepth 100000
attribute [local go_sem] Oper.semAt_some
/-- What stands between two lines. -/
def AsI (w : World) (S : ByteArray) (BP B3 : Nat) (pre : List (Nat × L8)) (Wx : World) : Prop := ∃ o vs, (∀ suf, asmN (pre ++ suf) [] = asmN suf o) ∧ o.length ≤ 4 * pre.length ∧ Boxed Wx w.heap.size 34 vs ∧ Wx.ownsRow w.heap.size 5 1 vs o.length (cellsB o) ∧ Boxed Wx (w.heap.size + 1) 3 (.int .i64 0) ∧ Boxed Wx (w.heap.size + 2) 23 (.int .i64 0) ∧ Boxed Wx BP 9 (.string S) ∧ Below w.heap.size w Wx ∧ B3 ≤ Wx.heap.size
/-- What stands where a line is wrong. -/
def AsX (w : World) (S : ByteArray) (BP B3 : Nat) (l : L8) (c : Code) (Wx : World) : Prop := c = .exit 0 ∧ ∃ n : Nat, asmL l = ([], n, 110) ∧ Boxed Wx w.heap.size 34 (.slice none 0 0) ∧ Boxed Wx (w.heap.size + 1) 3 (.int .i64 (n : Int)) ∧ Boxed Wx (w.heap.size + 2) 23 (.int .i64 110) ∧ Below w.heap.size w Wx ∧ B3 ≤ Wx.heap.size
theorem code_len {s b : L8} (h : codeR s = some b) : b.length ≤ 4 := by
  unfold codeR at h
  split at h
  · unfold bytesR at h
    split at h
    · rename_i hh
      have := raw_len _ _ _ (Nat.le_refl _) h
      omega
    · cases h
  · obtain ⟨i, h1, h2⟩ := Option.map_eq_some_iff.1 h
    rw [← h2, bt_len, pb_len]
    exact Nat.le_refl _
theorem lns_len : ∀ (f : Nat) (l : L8), (lnsF f l).length ≤ f
  | 0, l => by simp [lnsF]
  | f + 1, l => by
    rw [lnsF]
    split
    · simp
    · have := lns_len f ((l.dropWhile (· != 10)).drop 1)
      simp only [List.length_cons]
      omega
theorem numd_len : ∀ (n : Nat) (xs : List L8), (numd n xs).length = xs.length
  | _, [] => rfl
  | n, x :: xs => by rw [numd, List.length_cons, List.length_cons, numd_len]
theorem lns_line : ∀ (f : Nat) (l x : L8), x ∈ lnsF f l → x.length ≤ l.length
  | 0, l, x, h => by simp [lnsF] at h
  | f + 1, l, x, h => by
    rw [lnsF] at h
    split at h
    · cases h
    · rcases List.mem_cons.1 h with rfl | h
      · exact (List.takeWhile_prefix _).length_le
      · have h1 := lns_line f _ x h
        have h2 := (List.dropWhile_suffix (l := l) (· != 10)).length_le
        rw [List.length_drop] at h1
        omega
theorem numd_mem : ∀ (n : Nat) (xs : List L8) (x : Nat × L8), x ∈ numd n xs → x.2 ∈ xs ∧ x.1 < n + xs.length
  | n, [], x, h => by cases h
  | n, y :: xs, x, h => by
    rw [numd] at h
    rcases List.mem_cons.1 h with rfl | h
    · exact ⟨by simp, by simp⟩
    · have := numd_mem (n + 1) xs x h
      exact ⟨List.mem_cons_of_mem _ this.1, by have := this.2; simp only [List.length_cons]; omega⟩
theorem ln_next {l : L8} {pre : List (Nat × L8)} {x : Nat × L8} (h : LnNx l pre x) : x.2.length ≤ l.length ∧ x.1 < l.length ∧ pre.length < l.length := by
  obtain ⟨suf, h⟩ := h
  have hm : x ∈ numd 0 (linesL l) := by rw [← h]; simp
  have h1 := numd_mem 0 _ x hm
  have h2 := lns_len l.length l
  have h3 : (numd 0 (linesL l)).length ≤ l.length := by rw [numd_len]; exact h2
  rw [← h] at h3
  simp only [List.length_append, List.length_cons] at h3
  have h4 : (linesL l).length ≤ l.length := h2
  exact ⟨lns_line _ _ _ h1.1, by have := h1.2; omega, by omega⟩
theorem wpListIn_append_str {F : Fence} {m : Nat} {P : Program} (w : World) {ops : Array Oper} {rest : List Oper} {o : Oper} {a : Act} {Q : Exit → Act → World → Prop} (hg : o.guard = none)
    (s x : Operand) (t u : TypeId) (hop : o.op = Op.call { callee := Callee.builtin Builtin.append, args := #[s, x], argTypes := #[t, u] })
    (base : Nat) (e : TypeId) (i : TypeInfo) (h1 : P.underlying t = some (.slice e)) (hu : P.underlying u = some .string) (h2 : P.info? e = some i) (hz : i.zero = some (.int .u8 0)) (h4 : i.size = 1) (h5 : i.bytes = 1)
    (v : Value) (n : Nat) (xs : List Value) (hs : a.eval s = v) (hown : w.ownsRow base e 1 v n xs) (str : ByteArray) (hx : a.eval x = .string str) (hb : n + str.size ≤ 140737488355328) (hbase : base ≤ w.heap.size)
    (hK : ∀ v' w', w'.ownsRow base e 1 v' (n + str.size) (xs ++ Go.Lib.strCells str) → w.grownBy w' v.ownBlock → wpListIn F m P ops Q rest (a.put o.dst v') w') : wpListIn F m P ops Q (o :: rest) a w := by
  refine wpListIn_plain hg fun K hK' => ?_
  exact wpIn_append_own_str w s x t u hop base e i h1 hu h2 hz h4 h5 v n xs hs hown str hx hb hbase (fun v' w' q1 q2 => hK' _ _ (hK v' w' q1 q2))
def asmV (l : L8) : Value := .tuple #[.string ⟨(asmL l).1.toArray⟩, .int .i64 ((asmL l).2.1 : Int), .int .i64 (asmL l).2.2]
set_option maxHeartbeats 2000000 in
theorem assemble11 (l : L8) (hn : l.length ≤ 100000) (w : World) (hl : Lw w) : Calls Tryd.prog 5 #[.string ⟨l.toArray⟩] w fun e w' => e = .returned (asmV l) ∧ Below w.heap.size w w' := by
  obtain ⟨i0, hi0, hz0, hz1, hz2⟩ := info_parts info5
  have HI : Hid (Tryd.prog.info? 5 = some i0 ∧ i0.zero = some (.int .u8 0) ∧ i0.size = 1 ∧ i0.bytes = 1) := ⟨hi0, hz0, hz1, hz2⟩
  obtain ⟨S, hS⟩ : ∃ z : ByteArray, z = ⟨l.toArray⟩ := ⟨_, rfl⟩
  have hSl : l = S.toList := by rw [hS, bal]
  have hSz : S.size ≤ 100000 := by rw [← bt_len, ← hSl]; omega
  rw [← hS]
  obtain ⟨FR, hFR⟩ : ∃ z, z = asmV l := ⟨_, rfl⟩
  have HFR : Hid (FR = .tuple #[.string ⟨(asmL l).1.toArray⟩, .int .i64 ((asmL l).2.1 : Int), .int .i64 (asmL l).2.2]) := hFR
  rw [← hFR]
  obtain ⟨W2, hW2⟩ : ∃ z, ((w.alloc (.cells #[.slice none 0 0] 34)).alloc (.cells #[.int .i64 0] 3)).alloc (.cells #[.int .i64 0] 23) = z := ⟨_, rfl⟩
  have hb2 : Below w.heap.size w W2 := by rw [← hW2]; exact (((Below.refl _ _).alloc (Nat.le_refl _) _).alloc (by simp) _).alloc (by simp only [World.size_alloc]; omega) _
  have hs2 : W2.heap.size = w.heap.size + 3 := by rw [← hW2]; simp
  have x5 : Boxed W2 w.heap.size 34 (.slice none 0 0) := by rw [← hW2]; exact ((Boxed.new w 34 _).alloc _).alloc _
  have x6 : Boxed W2 (w.heap.size + 1) 3 (.int .i64 0) := by
    have := Boxed.new (w.alloc (.cells #[.slice none 0 0] 34)) 3 (.int .i64 0)
    rw [World.size_alloc] at this
    rw [← hW2]; exact this.alloc _
  have x7 : Boxed W2 (w.heap.size + 2) 23 (.int .i64 0) := by
    have := Boxed.new ((w.alloc (.cells #[.slice none 0 0] 34)).alloc (.cells #[.int .i64 0] 3)) 23 (.int .i64 0)
    rw [World.size_alloc, World.size_alloc] at this
    rw [← hW2]; exact this
  have c6 := x6.cell
  have f6 := x6.frozen
  obtain ⟨W2a, hW2a⟩ : ∃ z, W2.setCell ⟨w.heap.size + 1, 0, none⟩ (.int .i64 0) = z := ⟨_, rfl⟩
  have g2a := grown_set W2 (w.heap.size + 1) (.int .i64 0)
  have y6 := Boxed.set (.int .i64 0) x6
  rw [hW2a] at g2a y6
  have y5 := x5.kept g2a (by intro e; injection e with e; omega)
  have y7 := x7.kept g2a (by intro e; injection e with e; omega)
  have c7 := y7.cell
  have f7 := y7.frozen
  obtain ⟨W2b, hW2b⟩ : ∃ z, W2a.setCell ⟨w.heap.size + 2, 0, none⟩ (.int .i64 0) = z := ⟨_, rfl⟩
  have g2b := grown_set W2a (w.heap.size + 2) (.int .i64 0)
  have x7 := Boxed.set (.int .i64 0) y7
  rw [hW2b] at g2b x7
  have x5 := y5.kept g2b (by intro e; injection e with e; omega)
  have x6 := y6.kept g2b (by intro e; injection e with e; omega)
  have hb2a : Below w.heap.size w W2a := hb2.grown g2a hb2.size (fun r e => by injection e with e; omega)
  have hb2 : Below w.heap.size w W2b := hb2a.grown g2b hb2a.size (fun r e => by injection e with e; omega)
  have hs2 : W2b.heap.size = w.heap.size + 3 := by
    rw [← hW2b, ← hW2a, World.size_setCell, World.size_setCell]; exact hs2
  clear g2a g2b y5 y6 y7 hb2a
  have K26 := lines26 S W2b
  have HL : Hid (Lw w) := hl
  have H2 : Hid (Below w.heap.size w W2b ∧ W2b.heap.size = w.heap.size + 3 ∧ Boxed W2b w.heap.size 34 (.slice none 0 0) ∧ Boxed W2b (w.heap.size + 1) 3 (.int .i64 0) ∧ Boxed W2b (w.heap.size + 2) 23 (.int .i64 0) ∧ l = S.toList ∧ l.length ≤ 100000) := ⟨hb2, hs2, x5, x6, x7, hSl, hn⟩
  have HM : Hid (∀ W', Below w.heap.size w W' → ∃ m : Int, w.cell? ⟨1, 0, none⟩ = some (.int .i64 m) ∧ W'.cell? ⟨1, 0, none⟩ = some (.int .i64 m)) := fun W' h => by
    obtain ⟨m, hm⟩ := hl.mx
    exact ⟨m, hm, keep_cell h hm⟩
  have H1 : Hid (1 < w.heap.size) := by
    obtain ⟨m, hm⟩ := hl.mx
    exact World.block_lt_of_cell? w ⟨1, 0, none⟩ hm
  clear hFR hi0 hz0 hz1 hz2 hS hl hb2 x5 x6 x7 hn
  refine callsIn_wide.1 (callsIn_of_wp_marks (F := Fence.wide) (n := 3) Tryd.func5 rfl trivial ?_ rfl)
  simp only [Tryd.ntmps5, List.size_toArray, List.length_cons, List.length_nil, Nat.reduceAdd, Nat.reduceSub, Array.replicate_succ, Array.replicate_zero, List.push_toArray, List.append_toArray, List.nil_append, List.cons_append]
  refine wpIn_wide.2 ?_
  go_wp2
  go_step3
  go_wp2
  go_step3
  go_wp2_with fail
  refine K26.mono ?_
  rintro e w3 ⟨rfl, rfl⟩
  clear K26
  obtain ⟨W3, hW3⟩ : ∃ z, W2b.alloc (.cells #[.string S] 9) = z := ⟨_, rfl⟩
  have hb3 : Below W2b.heap.size W2b W3 := by rw [← hW3]; exact (Below.refl _ _).alloc (Nat.le_refl _) _
  have xP : Boxed W3 W2b.heap.size 9 (.string S) := by rw [← hW3]; exact Boxed.new W2b 9 _
  obtain ⟨BP, hBP⟩ : ∃ z, W2b.heap.size = z := ⟨_, rfl⟩
  rw [hBP] at xP
  have HW3 : Hid (Below w.heap.size w W3 ∧ BP = w.heap.size + 3 ∧ BP < W3.heap.size ∧ Boxed W3 w.heap.size 34 (.slice none 0 0) ∧ Boxed W3 (w.heap.size + 1) 3 (.int .i64 0) ∧ Boxed W3 (w.heap.size + 2) 23 (.int .i64 0) ∧ Boxed W3 BP 9 (.string S)) := by
    obtain ⟨a1, a2, a3, a4, a5, _⟩ := H2.out
    exact ⟨below_tr a1 hb3, by omega, xP.lt, (hb3.block _ a3.lt).trans a3, (hb3.block _ a4.lt).trans a4, (hb3.block _ a5.lt).trans a5, xP⟩
  have hseq := lines_next (3 - 1) (by omega) S l hSl hSz BP W3 xP.cell (by obtain ⟨m, _, h⟩ := HM.out W3 HW3.out.1; exact ⟨m, h⟩)
  clear xP hb3 hs2 hSl hSz
  go_wp2
  try rw [hW3]
  try rw [hBP]
  clear hW3 hBP hW2 hW2a hW2b c6 f6 c7 f7
  refine wpIn_wide.1 (wpIn_range_next (n := 3) (by omega) (gf := 23) rfl (enters_of Tryd.func23 (by kernel_rfl) rfl)
    hseq (fun h1 h2 => h2.trans h1) (fun W' l' o o' hl' _ _ _ => ?hkb) (Below.refl _ _) (fun _ => rfl)
    (fun pre Wx => AsI w S BP W3.heap.size pre Wx)
    (fun c pre Wx => AsX w S BP W3.heap.size l c Wx)
    (fun pre A C row hh hgr hrr => ?hI)
    (fun c pre A C row hh hgr hrr => ?hIX)
    ⟨[], .slice none 0 0, fun _ => rfl, by simp, HW3.out.2.2.2.1, World.ownsRow_nil _ _ _ _, HW3.out.2.2.2.2.1, HW3.out.2.2.2.2.2.1, HW3.out.2.2.2.2.2.2, HW3.out.1, Nat.le_refl _⟩
    (fun x a' Wx => ∃ v0 v1 v2 v3 v4 v12 v13 v14 v15, a' = { tmps := #[v0, v1, v2, v3, v4, .pointer (some ⟨w.heap.size, 0, none⟩), .pointer (some ⟨w.heap.size + 1, 0, none⟩), .pointer (some ⟨w.heap.size + 2, 0, none⟩), .int .i64 (x.1 : Int), .string ⟨x.2.toArray⟩, undef, undef, v12, v13, v14, v15, undef, undef, undef, undef, undef, undef, undef, undef, undef, undef, undef, undef, undef, undef, undef, undef, undef, undef, undef], defers := [] })
    (fun x a' s A C row hh hgr hrr => hh) ?assign ?body ?done ?stop)
  case hkb => exact World.cell?_of_block (World.putObj_heap_other (by have := HW3.out.1.size; have := H1.out; simp; omega))
  case hI =>
    obtain ⟨o, vs, e1, e2, e3, e4, e5, e6, e7, e8, e9⟩ := hh
    exact ⟨o, vs, e1, e2, e3.kept hgr (not_cells_row e3 (fun r e => (hrr r e).2)), own_row1 e4 hgr (fun r e => (hrr r e).2), e5.kept hgr (not_cells_row e5 (fun r e => (hrr r e).2)), e6.kept hgr (not_cells_row e6 (fun r e => (hrr r e).2)), e7.kept hgr (not_cells_row e7 (fun r e => (hrr r e).2)), e8.grown hgr e8.size (fun r e => by have := (hrr r e).1; have := HW3.out.1.size; omega), Nat.le_trans e9 hgr.size⟩
  case hIX =>
    obtain ⟨e0, n, e1, e3, e5, e6, e8, e9⟩ := hh
    exact ⟨e0, n, e1, e3.kept hgr (not_cells_row e3 (fun r e => (hrr r e).2)), e5.kept hgr (not_cells_row e5 (fun r e => (hrr r e).2)), e6.kept hgr (not_cells_row e6 (fun r e => (hrr r e).2)), e8.grown hgr e8.size (fun r e => by have := (hrr r e).1; have := HW3.out.1.size; omega), Nat.le_trans e9 hgr.size⟩
  case assign =>
    intro lp pre x Wx K hnx hi hK
    simp only [encL]
    gi_wp2
    exact hK _ _ (KeepsFrom.refl _ _) rfl hi ⟨_, _, _, _, _, _, _, _, _, rfl⟩
  case body =>
    rintro lp pre x a' Wx hnx ⟨o, vs, e1, e2, e3, e4, e5, e6, e7, e8, e9⟩ ⟨v0, v1, v2, v3, v4, v12, v13, v14, v15, rfl⟩
    obtain ⟨hx2, hx1, hpl⟩ := ln_next hnx
    obtain ⟨sa, sc, rfl⟩ := own_shape1 e4
    have K27 := hasWords27 x.2 Wx
    have HL28 : Hid (∀ w', Below w.heap.size w w' → Calls Tryd.prog 11 #[.string ⟨x.2.toArray⟩, .func (.func 12) #[] #[]] w' fun e w'' => e = .returned (codV x.2) ∧ Below w'.heap.size w' w'') := fun w' h => read28 x.2 (by have := H2.out.2.2.2.2.2.2; omega) w' (HL.out.keep h)
    have HII : Hid ((∀ suf, asmN (pre ++ suf) [] = asmN suf o) ∧ o.length ≤ 4 * pre.length ∧ Boxed Wx w.heap.size 34 (.slice sa o.length sc) ∧ Wx.ownsRow w.heap.size 5 1 (.slice sa o.length sc) o.length (cellsB o) ∧ Boxed Wx (w.heap.size + 1) 3 (.int .i64 0) ∧ Boxed Wx (w.heap.size + 2) 23 (.int .i64 0) ∧ Boxed Wx BP 9 (.string S) ∧ Below w.heap.size w Wx ∧ W3.heap.size ≤ Wx.heap.size) := ⟨e1, e2, e3, e4, e5, e6, e7, e8, e9⟩
    have HNX : Hid (LnNx l pre x ∧ pre.length < l.length ∧ x.1 < l.length) := ⟨hnx, hpl, hx1⟩
    obtain ⟨LB, hLB⟩ : ∃ z : ByteArray, z = ⟨x.2.toArray⟩ := ⟨_, rfl⟩
    rw [← hLB] at K27 HL28 ⊢
    clear e1 e2 e3 e4 e5 e6 e7 e8 e9 hx2 hpl hnx hLB
    obtain ⟨xn, hxn⟩ : ∃ z, z = x.1 := ⟨_, rfl⟩
    rw [← hxn]
    have HXN : Hid (xn = x.1) := hxn
    clear hxn hx1
    cases hw : hasW x.2 with
    | false =>
      rw [hw] at K27
      have HEE : Hid (KeepsFrom W3.heap.size Wx Wx ∧ MxK Wx Wx ∧ (fun (pre : List (Nat × L8)) (Wx : World) => AsI w S BP W3.heap.size pre Wx) (pre ++ [x]) Wx) := by
        obtain ⟨e1, e2, e3, e4, e5, e6, e7, e8, e9⟩ := HII.out
        refine ⟨KeepsFrom.refl _ _, rfl, o, _, fun suf => ?_, ?_, e3, e4, e5, e6, e7, e8, e9⟩
        · rw [List.append_assoc, e1]
          show asmN (x :: suf) o = _
          rw [asmN, hw, if_neg (by decide)]
        · simp; omega
      clear hw
      gi_wp2
      refine ⟨trivial, (CallsIn.inRound lp (callsIn_wide.2 K27)).mono ?_⟩
      rintro e w5 ⟨rfl, hw5⟩
      obtain rfl : Wx = w5 := hw5.symm
      clear K27 hw5
      gi_wp2
      exact HEE.out
    | true =>
      rw [hw] at K27
      have HW : Hid (hasW x.2 = true) := hw
      have K28 := HL28.out Wx HII.out.2.2.2.2.2.2.2.1
      unfold codV at K28
      clear hw HL28
      gi_wp2
      refine ⟨trivial, (CallsIn.inRound lp (callsIn_wide.2 K27)).mono ?_⟩
      rintro e w5 ⟨rfl, hw5⟩
      obtain rfl : Wx = w5 := hw5.symm
      clear K27 hw5
      cases hc : codeR x.2 with
      | none =>
        rw [hc] at K28
        have HC : Hid (codeR x.2 = none) := hc
        have K28 : Calls Tryd.prog 11 #[.string LB, .func (.func 12) #[] #[]] Wx fun e w'' => e = .returned (.tuple #[.string ⟨#[]⟩, .int .i64 110]) ∧ Below Wx.heap.size Wx w'' := K28
        clear hc
        gi_wp2
        refine ⟨trivial, (CallsIn.inRound lp (callsIn_wide.2 K28)).mono ?_⟩
        rintro e w6 ⟨rfl, hb6⟩
        clear K28
        obtain ⟨e1, e2, e3, e4, e5, e6, e7, e8, e9⟩ := HII.out
        have k5 : Boxed w6 w.heap.size 34 (.slice sa o.length sc) := (hb6.block _ e3.lt).trans e3
        have k6 : Boxed w6 (w.heap.size + 1) 3 (.int .i64 0) := (hb6.block _ e5.lt).trans e5
        have k7 : Boxed w6 (w.heap.size + 2) 23 (.int .i64 0) := (hb6.block _ e6.lt).trans e6
        have kb := below_tr e8 hb6
        have p0 := k5.cell
        have p1 := k5.frozen
        have g1 := grown_set w6 w.heap.size (.slice none 0 0)
        obtain ⟨W7, hW7⟩ : ∃ z, w6.setCell ⟨w.heap.size, 0, none⟩ (.slice none 0 0) = z := ⟨_, rfl⟩
        have m5 := Boxed.set (.slice none 0 0) k5
        rw [hW7] at g1 m5
        have m6 := k6.kept g1 (by intro e; injection e with e; omega)
        have m7 := k7.kept g1 (by intro e; injection e with e; omega)
        have mb : Below w.heap.size w W7 := kb.grown g1 kb.size (fun r e => by injection e with e; omega)
        have q0 := m6.cell
        have q1 := m6.frozen
        have g2 := grown_set W7 (w.heap.size + 1) (.int .i64 (xn : Int))
        obtain ⟨W8, hW8⟩ : ∃ z, W7.setCell ⟨w.heap.size + 1, 0, none⟩ (.int .i64 (xn : Int)) = z := ⟨_, rfl⟩
        have n6 := Boxed.set (.int .i64 (xn : Int)) m6
        rw [hW8] at g2 n6
        have n5 := m5.kept g2 (by intro e; injection e with e; omega)
        have n7 := m7.kept g2 (by intro e; injection e with e; omega)
        have nb : Below w.heap.size w W8 := mb.grown g2 mb.size (fun r e => by injection e with e; omega)
        have r0 := n7.cell
        have r1 := n7.frozen
        have g3 := grown_set W8 (w.heap.size + 2) (.int .i64 110)
        obtain ⟨W9, hW9⟩ : ∃ z, W8.setCell ⟨w.heap.size + 2, 0, none⟩ (.int .i64 110) = z := ⟨_, rfl⟩
        have s7 := Boxed.set (.int .i64 110) n7
        rw [hW9] at g3 s7
        have HEE : Hid (KeepsFrom W3.heap.size Wx W9 ∧ (fun (c : Code) (Wx : World) => AsX w S BP W3.heap.size l c Wx) (.exit 0) W9) := by
          have s5 := n5.kept g3 (by intro e; injection e with e; omega)
          have s6 := n6.kept g3 (by intro e; injection e with e; omega)
          have z1 := hb6.size
          have z2 := g1.size
          have z3 := g2.size
          have z4 := g3.size
          have t7 : KeepsOthers w6 W7 := by rw [← hW7]; exact KeepsOthers.setCell _ _ _
          have t8 : KeepsOthers W7 W8 := by rw [← hW8]; exact KeepsOthers.setCell _ _ _
          have t9 : KeepsOthers W8 W9 := by rw [← hW9]; exact KeepsOthers.setCell _ _ _
          refine ⟨((((KeepsOthers.of_below hb6).trans t7).trans t8).trans t9).from _, rfl, xn, ?_, s5, s6, s7, nb.grown g3 nb.size (fun r e => by injection e with e; omega), by omega⟩
          obtain ⟨suf, hs⟩ := HNX.out.1
          show asmN (numd 0 (linesL l)) [] = _
          rw [← hs, e1, asmN, HW.out, if_pos rfl, HC.out, HXN.out]
        clear e1 e2 e3 e4 e5 e6 e7 e8 e9 k5 k6 k7 kb g1 m5 m6 m7 mb g2 n5 n6 n7 nb g3 s7 hb6
        gi_wp2
        exact HEE.out

      | some b =>
        rw [hc] at K28
        have HC : Hid (codeR x.2 = some b) := hc
        have K28 : Calls Tryd.prog 11 #[.string LB, .func (.func 12) #[] #[]] Wx fun e w'' => e = .returned (.tuple #[.string ⟨b.toArray⟩, .int .i64 0]) ∧ Below Wx.heap.size Wx w'' := K28
        clear hc
        gi_wp2
        refine ⟨trivial, (CallsIn.inRound lp (callsIn_wide.2 K28)).mono ?_⟩
        rintro e w6 ⟨rfl, hb6⟩
        clear K28
        obtain ⟨e1, e2, e3, e4, e5, e6, e7, e8, e9⟩ := HII.out
        have hcl := code_len HC.out
        obtain ⟨BB, hBB⟩ : ∃ z : ByteArray, z = ⟨b.toArray⟩ := ⟨_, rfl⟩
        have hBs : BB.size = b.length := by rw [hBB]; show Array.size _ = _; simp
        have HBB : Hid (BB = ⟨b.toArray⟩ ∧ BB.size = b.length ∧ b.length ≤ 4) := ⟨hBB, hBs, hcl⟩
        rw [← hBB]
        have k5 : Boxed w6 w.heap.size 34 (.slice sa o.length sc) := (hb6.block _ e3.lt).trans e3
        have k6 : Boxed w6 (w.heap.size + 1) 3 (.int .i64 0) := (hb6.block _ e5.lt).trans e5
        have k7 : Boxed w6 (w.heap.size + 2) 23 (.int .i64 0) := (hb6.block _ e6.lt).trans e6
        have kP : Boxed w6 BP 9 (.string S) := (hb6.block _ e7.lt).trans e7
        have kb := below_tr e8 hb6
        have how := own_keep1 e4 hb6
        have o5 := k5.cell
        obtain ⟨n0, hn0⟩ : ∃ z, z = o.length := ⟨_, rfl⟩
        rw [← hn0] at o5 k5 how
        have HN0 : Hid (n0 = o.length ∧ n0 + BB.size ≤ 140737488355328) := ⟨hn0, by have h1 := HNX.out.2.1; have h2 := H2.out.2.2.2.2.2.2; omega⟩
        have HKK : Hid (Boxed w6 w.heap.size 34 (.slice sa n0 sc) ∧ Boxed w6 (w.heap.size + 1) 3 (.int .i64 0) ∧ Boxed w6 (w.heap.size + 2) 23 (.int .i64 0) ∧ Boxed w6 BP 9 (.string S) ∧ Below w.heap.size w w6 ∧ w6.ownsRow w.heap.size 5 1 (.slice sa n0 sc) n0 (cellsB o) ∧ Below Wx.heap.size Wx w6) := ⟨k5, k6, k7, kP, kb, how, hb6⟩
        clear e1 e2 e3 e4 e5 e6 e7 e8 e9 hcl hBB hBs k5 k6 k7 kP kb how hb6 hn0
        gi_wp2_with (refine wpListIn_append_str w6 rfl (.tmp 28) (.tmp 29) 34 9 rfl w.heap.size 5 i0 Tryd.underlying34 Tryd.underlying9 HI.out.1 HI.out.2.1 HI.out.2.2.1 HI.out.2.2.2 _ n0 _ rfl HKK.out.2.2.2.2.2.1 BB rfl HN0.out.2 HKK.out.2.2.2.2.1.size ?_)
        intro v' w2 how2 hgr2
        obtain ⟨k5, k6, k7, kP, kb, how, hb6⟩ := HKK.out
        obtain ⟨sa2, sc2, rfl⟩ := own_shape1 how2
        have m5 := k5.kept hgr2 (not_own how k5 (by decide))
        have m6 := k6.kept hgr2 (not_own how k6 (by decide))
        have m7 := k7.kept hgr2 (not_own how k7 (by decide))
        have mP := kP.kept hgr2 (not_own how kP (by decide))
        have mb : Below w.heap.size w w2 := kb.grown hgr2 kb.size (fun r e => own_ge1 how r e)
        have g3 := grown_set w2 w.heap.size (.slice sa2 (n0 + BB.size) sc2)
        have q0 := m5.cell
        have q1 := m5.frozen
        obtain ⟨w9, hw9⟩ : ∃ z, w2.setCell ⟨w.heap.size, 0, none⟩ (.slice sa2 (n0 + BB.size) sc2) = z := ⟨_, rfl⟩
        have r5 := Boxed.set (.slice sa2 (n0 + BB.size) sc2) m5
        rw [hw9] at g3 r5
        have HEE : Hid (KeepsFrom W3.heap.size Wx w9 ∧ MxK Wx w9 ∧ (fun (pre : List (Nat × L8)) (Wx : World) => AsI w S BP W3.heap.size pre Wx) (pre ++ [x]) w9) := by
          have r6 := m6.kept g3 (by intro e; injection e with e; omega)
          have r7 := m7.kept g3 (by intro e; injection e with e; omega)
          have rP := mP.kept g3 (by intro e; injection e with e; have := HW3.out.2.1; omega)
          have rw9 := own_block1 how2 m5 (by decide) g3
          have rb : Below w.heap.size w w9 := mb.grown g3 mb.size (fun r e => by injection e with e; omega)
          have hko : KeepsOthers Wx w9 := ((KeepsOthers.of_below hb6).trans (KeepsOthers.of_grownBy hgr2 (fun jj ob e ho => own_kind1 how e ho))).trans (by rw [← hw9]; exact KeepsOthers.setCell _ _ _)
          obtain ⟨e1, e2, _, _, _, _, _, e8, e9⟩ := HII.out
          obtain ⟨h1, h2, h3⟩ := HBB.out
          refine ⟨hko.from _, ?_, o ++ b, _, fun suf => ?_, ?_, r5, ?_, r6, r7, rP, rb, ?_⟩
          · obtain ⟨m1, z1, z2⟩ := HM.out _ e8
            obtain ⟨m2, y1, y2⟩ := HM.out _ rb
            rw [z1] at y1
            injection y1 with y1
            show w9.cell? _ = Wx.cell? _
            rw [y2, z2, y1]
          · rw [List.append_assoc, e1]
            show asmN (x :: suf) o = _
            rw [asmN, HW.out, if_pos rfl, HC.out]
          · simp only [List.length_append, List.length_cons, List.length_nil]
            omega
          · rw [List.length_append, ← h2, ← HN0.out.1]
            have e : cellsB (o ++ b) = cellsB o ++ Go.Lib.strCells BB := by
              rw [h1, str_cells]
              unfold cellsB
              rw [List.map_append]
            rw [e]
            exact rw9
          · have z1 := hb6.size; have z2 := hgr2.size; have z3 := g3.size
            omega
        clear how how2 k5 k6 k7 kP kb m5 m6 m7 mP mb g3 r5 hgr2 hb6
        gi_wp2
        exact HEE.out

  case done =>
    rintro D xs Wx hD rfl ⟨o, vs, e1, e2, e3, e4, e5, e6, e7, e8, e9⟩ hK
    have hres : asmL l = (o, 0, 0) := by
      have h := e1 []
      rw [List.append_nil] at h
      exact h
    have HFR2 : Hid (FR = .tuple #[.string ⟨o.toArray⟩, .int .i64 0, .int .i64 0]) := by show _ = _; rw [HFR.out, hres]; rfl
    have o5 := e3.cell
    have o6 := e5.cell
    have o7 := e6.cell
    have hcv := own_text e4.drew
    have HB8 : Hid (Below w.heap.size w Wx ∧ w.heap.size ≤ D) := ⟨e8, by have := HW3.out.1.size; omega⟩
    generalize (⟨o.toArray⟩ : ByteArray) = OB at hcv HFR2
    clear hres e1 e2 e3 e4 e5 e6 e7 e8 e9
    go_wp2
    go_region
    go_wp2
    rw [Exit.noGoto_ret]
    refine ⟨by simp, .inl ⟨_, _, rfl, run_takeDeferred hK, ?_⟩⟩
    refine ⟨FR, ?_, rfl, ?_⟩
    · rw [HFR2.out]; simp [results, Tryd.results5, go_sem]
    · exact (Below.drew HB8.out.1).trans (belowK_b (w := w) (Nat.le_refl _) Wx.drew D _ _ HB8.out.2 hK rfl rfl)

  case stop =>
    rintro D c pre Wx hD _ ⟨rfl, n, ha, e3, e5, e6, e8, e9⟩ hK
    have HFR2 : Hid (FR = .tuple #[.string ⟨#[]⟩, .int .i64 (n : Int), .int .i64 110]) := by show _ = _; rw [HFR.out, ha]
    have o5 := e3.cell
    have o6 := e5.cell
    have o7 := e6.cell
    have hcv : (convert 34 9 (.slice none 0 0)).run Tryd.prog Wx.drew = .ok (.string ⟨#[]⟩) Wx.drew := own_text (base := 0) (l := []) (World.ownsRow_nil _ _ _ _)
    have HB8 : Hid (Below w.heap.size w Wx ∧ w.heap.size ≤ D) := ⟨e8, by have := HW3.out.1.size; omega⟩
    clear ha e3 e5 e6 e8 e9
    refine wpIn_wide.2 ?_
    go_wp2
    go_region
    go_wp2
    rw [Exit.noGoto_ret]
    refine ⟨by simp, .inl ⟨_, _, rfl, run_takeDeferred hK, ?_⟩⟩
    refine ⟨FR, ?_, rfl, ?_⟩
    · rw [HFR2.out]; simp [results, Tryd.results5, go_sem]
    · exact (Below.drew HB8.out.1).trans (belowK_b (w := w) (Nat.le_refl _) Wx.drew D _ _ HB8.out.2 hK rfl rfl)

end Go.Proofs.YtglkkeelocdanaaDoor
