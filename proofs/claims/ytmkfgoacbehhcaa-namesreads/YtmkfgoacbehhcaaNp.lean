/- What is proved here: a name's way: the program's iterator. -/
import Derived.Test.YtmkfgoacbehhcaaNx
import Derived.Test.YtmkfgoacbehhcaaNf
import Derived.Test.YtmkfgoacbehhcaaNk
namespace Go.Proofs.Ytmkfgoacbehhcaa
open Go.RowKit
set_option linter.unusedVariables false
set_option linter.unusedSimpArgs false
set_option maxRecDepth 100000
attribute [local go_sem] Oper.semAt_some
theorem wrap64_s (n : Nat) (h : n < 1000000) : wrap64 ((n : Int) + 1) = (n : Int) + 1 := by unfold wrap64; omega
theorem wrapI_n (n : Nat) (h : n < 4294967296) : IntKind.i64.wrap (n : Int) = (n : Int) := by rw [IntKind.wrap_i64]; omega
theorem wrap64_nat (n : Nat) (h : n < 4294967296) : wrap64 (n : Int) = (n : Int) := by unfold wrap64; omega
/-- What a way hands out. -/
def visL (hs : L8) (ways cnt : Nat) : Nat → Nat → List Nat
  | 0, _ => []
  | f + 1, o => if wAt hs (2 + o) = 0 ∨ cnt ≤ wAt hs (2 + o) then [] else wAt hs (2 + o) :: visL hs ways cnt f (ways + wAt hs (2 + o))
def wayL (hs : L8) (nm cnt : Nat) : List Nat := if wAt hs 0 = 0 then [] else visL hs (wAt hs 0) cnt cnt (nm % wAt hs 0)
theorem vis_lt (hs : L8) (ways cnt : Nat) : ∀ f o, ∀ x ∈ visL hs ways cnt f o, 0 < x ∧ x < cnt := by
  intro f
  induction f with
  | zero => intro o x hx; simp [visL] at hx
  | succ f ih =>
    intro o x hx
    rw [visL] at hx
    split at hx
    · simp at hx
    · rename_i h
      rcases List.mem_cons.1 hx with rfl | hx
      · omega
      · exact ih _ x hx
theorem way_lt (hs : L8) (nm cnt : Nat) : ∀ x ∈ wayL hs nm cnt, 0 < x ∧ x < cnt := by
  intro x hx
  unfold wayL at hx
  split at hx
  · simp at hx
  · exact vis_lt _ _ _ _ _ x hx
theorem go_find (hs : L8) (ways cnt : Nat) (p : Nat → Bool) : ∀ f o, goF hs ways cnt p f o = ((visL hs ways cnt f o).find? p).getD 0 := by
  intro f
  induction f with
  | zero => intro o; rfl
  | succ f ih =>
    intro o
    rw [goF, visL]
    split
    · rfl
    · rw [List.find?_cons]
      by_cases hp : p (wAt hs (2 + o)) = true
      · rw [if_pos hp, hp]; rfl
      · rw [if_neg hp, ih]
        have : p (wAt hs (2 + o)) = false := by simpa using hp
        rw [this]
theorem findIn_is (hs : L8) (l : List Sy) (name : L8) : findIn hs l name = ((wayL hs (hashL name) (l.length + 1)).find? (isIt l name)).getD 0 := by
  unfold findIn wayL
  split
  · rfl
  · exact go_find _ _ _ _ _ _
def WNx (V pre : List Nat) (x : Nat) : Prop := ∃ suf, pre ++ x :: suf = V
def encW (x : Nat) : Array Value := #[.int .i64 (x : Int)]
set_option maxHeartbeats 2000000 in
theorem way25 (s : ByteArray) (nm : Nat) (c : Int) (w : World) : Calls Try.prog 25 #[.string s, .int .u32 (nm : Int), .int .i64 c] w fun e w' => e = .returned (.func (.func 38) #[] #[.pointer (some ⟨w.heap.size, 0, none⟩), .pointer (some ⟨w.heap.size + 1, 0, none⟩), .pointer (some ⟨w.heap.size + 2, 0, none⟩)]) ∧ w' = ((w.alloc (.cells #[.string s] 9)).alloc (.cells #[.int .u32 (nm : Int)] 35)).alloc (.cells #[.int .i64 c] 3) := by
  go_enter Try.func25, Try.ntmps25
  go_wp2
  go_ret
  exact ⟨rfl, rfl⟩
set_option maxHeartbeats 2000000 in
theorem way38_in (m : Nat) (hm : 2 ≤ m) (l' Bh Bf n0 : Nat) (hs : L8) (hsl : hs.length ≤ 1000000) (nm cnt : Nat) (hnm : nm < 4294967296) (hcnt : cnt ≤ 1000000) (hB : Bh + 2 < n0) (hBf : Bf < Bh) (J Jx : List Nat → World → Prop)
    (hY : ∀ pre x W, J pre W → WNx (wayL hs nm cnt) pre x → YieldAt Fence.wide (m - 1) Try.prog l' (encW x) W fun e W' =>
      (e = .returned (.bool true) ∧ J (pre ++ [x]) W' ∧ But n0 Bf W W') ∨ (e = .returned (.bool false) ∧ Jx (pre ++ [x]) W'))
    (W : World) (hJ : AbidesFrom W.heap.size J) (hn0 : n0 ≤ W.heap.size)
    (c0 : W.cell? ⟨Bh, 0, none⟩ = some (.string ⟨hs.toArray⟩)) (c1 : W.cell? ⟨Bh + 1, 0, none⟩ = some (.int .u32 (nm : Int))) (c2 : W.cell? ⟨Bh + 2, 0, none⟩ = some (.int .i64 (cnt : Int))) (h0 : J [] W) :
    CallsIn Fence.wide m Try.prog 38 #[.func (.yield l') #[] #[], .pointer (some ⟨Bh, 0, none⟩), .pointer (some ⟨Bh + 1, 0, none⟩), .pointer (some ⟨Bh + 2, 0, none⟩)] W fun e W' => (∃ v, e = .returned v) ∧ ((∃ xs, xs = wayL hs nm cnt ∧ J xs W') ∨ (∃ pre, True ∧ Jx pre W')) := by
  have HJB : Hid (∀ s A C, J s A → Below A.heap.size A C → J s C) := fun s A B hs hb => hJ s A B none hs ⟨hb.os, hb.tape, hb.output, hb.size, fun k hk _ => hb.block k hk⟩ (fun r e => by cases e)
  have HY : Hid _ := hY
  obtain ⟨HS, hHS⟩ : ∃ z : ByteArray, z = ⟨hs.toArray⟩ := ⟨_, rfl⟩
  have HW : Hid (∀ k w', k < 18446744073709551616 → CallsIn Fence.wide (m - 1) Try.prog 32 #[.string HS, .int .u64 ((k : Nat) : Int)] w' fun e w'' => e = .returned (.int .u32 (wAt hs k : Int)) ∧ Below w'.heap.size w' w'') := fun k w' hk => by rw [hHS]; exact callsIn_wide.2 (wordAt32 hs k hk hsl w')
  have K0 : CallsIn Fence.wide (m - 1) Try.prog 32 #[.string HS, .int .u64 0] W fun e w'' => e = .returned (.int .u32 (wAt hs 0 : Int)) ∧ Below W.heap.size W w'' := HW.out 0 W (by decide)
  rw [← hHS] at c0
  have hwl := wAt_lt hs 0
  have HWY : Hid (wayL hs nm cnt = if wAt hs 0 = 0 then [] else visL hs (wAt hs 0) cnt cnt (nm % wAt hs 0)) := rfl
  generalize wayL hs nm cnt = V at HWY HY hY ⊢
  obtain ⟨ws, hws⟩ : ∃ z, z = wAt hs 0 := ⟨_, rfl⟩
  rw [← hws] at K0 hwl HWY
  have wl64 : (ws : Int) % 18446744073709551616 = (ws : Int) := by omega
  have wl64' : IntKind.u64.wrap (ws : Int) = (ws : Int) := by rw [IntKind.wrap_u64]; omega
  have nm64 : (nm : Int) % 18446744073709551616 = (nm : Int) := by omega
  have nm64' : IntKind.u64.wrap (nm : Int) = (nm : Int) := by rw [IntKind.wrap_u64]; omega
  have cn64 : (cnt : Int) % 18446744073709551616 = (cnt : Int) := by omega
  have cn64' : IntKind.u64.wrap (cnt : Int) = (cnt : Int) := by rw [IntKind.wrap_u64]; omega
  have HBD : Hid (ws < 4294967296 ∧ nm < 4294967296 ∧ cnt ≤ 1000000 ∧ n0 ≤ W.heap.size ∧ Bh + 2 < n0 ∧ Bf < Bh) := ⟨hwl, hnm, hcnt, hn0, hB, hBf⟩
  clear hY hJ hHS hws hwl hnm hcnt hn0 hB hBf hsl
  refine callsIn_of_wp Try.func38 rfl trivial ?_ rfl
  simp only [Try.ntmps38, List.size_toArray, List.length_cons, List.length_nil, Nat.reduceAdd, Nat.reduceSub, Array.replicate_succ, Array.replicate_zero, List.push_toArray, List.append_toArray, List.nil_append, List.cons_append]
  gi_wp2
  refine ⟨trivial, fun _ => by omega, K0.mono ?_⟩
  rintro e W1 ⟨rfl, hb1⟩
  have c0 := keep_cell hb1 c0
  have c1 := keep_cell hb1 c1
  have c2 := keep_cell hb1 c2
  have HJ1 : Hid (J [] W1 ∧ n0 ≤ W1.heap.size) := ⟨HJB.out _ _ _ h0 hb1, by have := HBD.out; have := hb1.size; omega⟩
  clear K0 hb1 h0
  by_cases hw0 : ws = 0
  · subst hw0
    have HE : Hid (V = []) := by show _ = _; rw [HWY.out, if_pos rfl]
    gi_wp2
    refine bodyPost_ret (results_none rfl _ _ _) rfl ?_
    exact ⟨⟨_, rfl⟩, .inl ⟨[], HE.out.symm, HJ1.out.1⟩⟩
  · have hw0i : ¬ (ws : Int) = 0 := by omega
    have hw0b : ((ws : Int) == 0) = false := by simpa using hw0
    obtain ⟨o1, ho1⟩ : ∃ z, z = nm % ws := ⟨_, rfl⟩
    have hrem : (nm : Int) % (ws : Int) = (o1 : Int) := by rw [ho1]; exact (Int.natCast_emod _ _).symm
    have hrem' : (nm : Int).tmod (ws : Int) = (o1 : Int) := by rw [ho1]; exact (Int.ofNat_tmod _ _).symm
    have HV : Hid (V = visL hs ws cnt cnt o1 ∧ o1 < 4294967296) := ⟨by rw [HWY.out, if_neg hw0, ho1], by have := Nat.mod_lt nm (show 0 < ws by omega); have := HBD.out; omega⟩
    clear ho1
    gi_wp2
    gi_loopw [6, 18] (fun x y wr => ∃ (k o : Nat) (pre : List Nat), x = .int .u64 (o : Int) ∧ y = .int .i64 (k : Int) ∧ k ≤ cnt ∧ o < 17179869184 ∧ pre ++ visL hs ws cnt (cnt - k) o = V ∧ J pre wr ∧ n0 ≤ wr.heap.size ∧ wr.cell? ⟨Bh, 0, none⟩ = some (.string HS) ∧ wr.cell? ⟨Bh + 1, 0, none⟩ = some (.int .u32 (nm : Int)) ∧ wr.cell? ⟨Bh + 2, 0, none⟩ = some (.int .i64 (cnt : Int))) (fun _ y _ => cnt - (intOf y).toNat)
    case atStart => exact ⟨0, o1, [], rfl, rfl, Nat.zero_le _, by have := HV.out.2; omega, by rw [Nat.sub_zero, List.nil_append]; exact HV.out.1.symm, HJ1.out.1, HJ1.out.2, c0, c1, c2⟩
    case round =>
      obtain ⟨k, o, pre, rfl, rfl, hk, ho, hpre, hJp, hnw, d0, d1, d2⟩ := hrel
      clear c0 c1 c2
      by_cases hlt : k < cnt
      · have hlti : (k : Int) < (cnt : Int) := by omega
        have HKI : Hid (k < 1000000) := by show k < 1000000; have := HBD.out.2.2.1; omega
        obtain ⟨fu, hfu⟩ : ∃ z, cnt - k = z + 1 := ⟨cnt - k - 1, by omega⟩
        rw [hfu] at hpre
        obtain ⟨o2, ho2⟩ : ∃ z, z = 2 + o := ⟨_, rfl⟩
        have eo2 : (2 : Int) + (o : Int) = (o2 : Int) := by omega
        have eo3 : (o2 : Int) % 18446744073709551616 = (o2 : Int) := by omega
        have eo4 : IntKind.u64.wrap (o2 : Int) = (o2 : Int) := by rw [IntKind.wrap_u64]; omega
        have KW := HW.out o2 wr (by omega)
        obtain ⟨x, hx⟩ : ∃ z, z = wAt hs o2 := ⟨_, rfl⟩
        have hxl : x < 4294967296 := by rw [hx]; exact wAt_lt _ _
        rw [← hx] at KW
        have HVS : Hid (visL hs ws cnt (fu + 1) o = if x = 0 ∨ cnt ≤ x then [] else x :: visL hs ws cnt fu (ws + x)) := by show _ = _; rw [hx, ho2]; rfl
        have HP : Hid (pre ++ visL hs ws cnt (fu + 1) o = V ∧ J pre wr ∧ n0 ≤ wr.heap.size ∧ cnt - (k + 1) = fu) := ⟨hpre, hJp, hnw, by omega⟩
        have ex3 : (x : Int) % 18446744073709551616 = (x : Int) := by omega
        have ex4 : IntKind.u64.wrap (x : Int) = (x : Int) := by rw [IntKind.wrap_u64]; omega
        have HXB : Hid (x < 4294967296) := hxl
        clear hpre hJp hnw ho2 hx hfu hk ho hxl
        gi_wp2
        refine ⟨trivial, fun _ => by omega, KW.mono ?_⟩
        rintro e w1 ⟨rfl, hb1⟩
        have d0 := keep_cell hb1 d0
        have d1 := keep_cell hb1 d1
        have d2 := keep_cell hb1 d2
        have HJ2 : Hid (J pre w1 ∧ n0 ≤ w1.heap.size) := ⟨HJB.out _ _ _ HP.out.2.1 hb1, by have := HP.out.2.2.1; have := hb1.size; omega⟩
        clear KW hb1
        by_cases hx0 : x = 0
        · have HE : Hid (pre = V) := by show _ = _; rw [← HP.out.1, HVS.out, if_pos (Or.inl hx0), List.append_nil]
          have hx0i : (x : Int) = 0 := by omega
          have hx0b : ((x : Int) == 0) = true := by simpa using hx0
          clear hx0
          gi_wp2
          refine ⟨fun f hf => (by first | trivial | (cases hf)), ?_⟩
          gi_wp2
          try simp only [Exit.inBlock, Exit.then]
          refine bodyPost_ret (results_none rfl _ _ _) rfl ?_
          exact ⟨⟨_, rfl⟩, .inl ⟨_, HE.out, HJ2.out.1⟩⟩
        · have hx0i : ¬ (x : Int) = 0 := by omega
          have hx0b : ((x : Int) == 0) = false := by simpa using hx0
          by_cases hxc : cnt ≤ x
          · have hxci : (cnt : Int) ≤ (x : Int) := by omega
            have dxc := decide_eq_true hxci
            have HE : Hid (pre = V) := by show _ = _; rw [← HP.out.1, HVS.out, if_pos (Or.inr hxc), List.append_nil]
            gi_wp2
            refine ⟨fun f hf => (by first | trivial | (cases hf)), ?_⟩
            gi_wp2
            try simp only [Exit.inBlock, Exit.then]
            refine bodyPost_ret (results_none rfl _ _ _) rfl ?_
            exact ⟨⟨_, rfl⟩, .inl ⟨_, HE.out, HJ2.out.1⟩⟩
          · have hxci : ¬ (cnt : Int) ≤ (x : Int) := by omega
            have dxc := decide_eq_false hxci
            have HNX : Hid (pre ++ x :: visL hs ws cnt fu (ws + x) = V) := by
              show _ = _
              rw [← HP.out.1, HVS.out, if_neg (by omega)]
            have HXL : Hid (x < 4294967296 ∧ x < cnt) := ⟨HXB.out, by omega⟩
            obtain ⟨fn, tmps, assign, body, hy, hRd⟩ := HY.out pre x w1 HJ2.out.1 ⟨_, HNX.out⟩
            simp only [encW] at hy
            have ex5 := wrapI_n x HXL.out.1
            clear HY hx0 hxc
            gi_wp2
            clear ex5
            refine ⟨fun _ => by omega, hRd.mono ?_⟩
            rintro e W3 (⟨rfl, hJ3, hk3⟩ | ⟨rfl, hJx3⟩)
            · have HB3 := HBD.out
              have d0 := hk3.cell (p := ⟨Bh, 0, none⟩) (by simp; omega) (by simp; omega) d0
              have d1 := hk3.cell (p := ⟨Bh + 1, 0, none⟩) (by simp; omega) (by simp; omega) d1
              have d2 := hk3.cell (p := ⟨Bh + 2, 0, none⟩) (by simp; omega) (by simp; omega) d2
              have HJ3 : Hid (J (pre ++ [x]) W3 ∧ n0 ≤ W3.heap.size) := ⟨hJ3, by have := HJ2.out.2; have := hk3.size; omega⟩
              obtain ⟨o4, ho4⟩ : ∃ z, z = ws + x := ⟨_, rfl⟩
              have HO4 : Hid (o4 = ws + x ∧ o4 < 17179869184) := ⟨ho4, by have := HXL.out; omega⟩
              have eo5 : (ws : Int) + (x : Int) = (o4 : Int) := by omega
              have eo6 : (o4 : Int) % 18446744073709551616 = (o4 : Int) := by have := HO4.out; omega
              have eo7 : IntKind.u64.wrap (o4 : Int) = (o4 : Int) := by rw [IntKind.wrap_u64]; have := HO4.out; omega
              have HK1 : Hid (k + 1 ≤ cnt) := hlt
              clear hJ3 hk3 hRd HB3 ho4
              have hc6 : cnt ≤ 1000000 := HBD.out.2.2.1
              gi_wp2
              go_roundw
              case rel => exact ⟨k + 1, o4, pre ++ [x], rfl, by go_num, HK1.out, HO4.out.2, by rw [HP.out.2.2.2, HO4.out.1, List.append_assoc]; exact HNX.out, HJ3.out.1, HJ3.out.2, d0, d1, d2⟩
              case measure => have := HK1.out; simp [intOf]; omega
            · have HX3 : Hid (Jx (pre ++ [x]) W3) := hJx3
              clear hJx3 hRd
              gi_wp2
              refine bodyPost_ret (results_none rfl _ _ _) rfl ?_
              exact ⟨⟨_, rfl⟩, .inr ⟨_, trivial, HX3.out⟩⟩
      · have hlti : ¬ (k : Int) < (cnt : Int) := by omega
        have HE : Hid (pre = V) := by
          show _ = _
          rw [← hpre, show cnt - k = 0 by omega]
          simp [visL]
        have HJQ : Hid (J pre wr) := hJp
        clear hpre hJp ho hk
        gi_wp2
        go_end0
        exact ⟨⟨_, rfl⟩, .inl (by rw [← HE.out]; exact HJQ.out)⟩
theorem way_next (m : Nat) (hm : 2 ≤ m) (Bh Bf n0 : Nat) (hs : L8) (hsl : hs.length ≤ 1000000) (nm cnt : Nat) (hnm : nm < 4294967296) (hcnt : cnt ≤ 1000000) (hB : Bh + 2 < n0) (hBf : Bf < Bh) (w : World) (hn0 : n0 ≤ w.heap.size)
    (c0 : w.cell? ⟨Bh, 0, none⟩ = some (.string ⟨hs.toArray⟩)) (c1 : w.cell? ⟨Bh + 1, 0, none⟩ = some (.int .u32 (nm : Int))) (c2 : w.cell? ⟨Bh + 2, 0, none⟩ = some (.int .i64 (cnt : Int))) :
    SeqNx m Try.prog 38 #[.pointer (some ⟨Bh, 0, none⟩), .pointer (some ⟨Bh + 1, 0, none⟩), .pointer (some ⟨Bh + 2, 0, none⟩)] encW (But n0 Bf) (WNx (wayL hs nm cnt)) (fun ys => ys = wayL hs nm cnt) (fun _ => True) w := fun l J Jx W hW hJ hJx hY h0 =>
  way38_in m hm l Bh Bf n0 hs hsl nm cnt hnm hcnt hB hBf J Jx hY W hJ (Nat.le_trans hn0 hW.size) (keep_cell hW c0) (keep_cell hW c1) (keep_cell hW c2) h0
end Go.Proofs.Ytmkfgoacbehhcaa
