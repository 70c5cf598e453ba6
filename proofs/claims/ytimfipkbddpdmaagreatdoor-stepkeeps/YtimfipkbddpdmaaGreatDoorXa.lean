import Derived.Test.YtimfipkbddpdmaaGreatDoorVals
import Derived.Test.YtimfipkbddpdmaaGreatDoorMf
import Derived.Test.YtimfipkbddpdmaaGreatDoorSm
import Derived.Test.YtimfipkbddpdmaaGreatDoorProg
import Derived.WalkKit
import Derived.WalkSpells
import Derived.WalkLawsBesides
import Derived.Below
import Derived.Laws.BitsLemmas
import Derived.BigQuiet
import Derived.Deep.QuietTactic
import Derived.RegionTactic
set_option linter.unusedVariables false
set_option linter.unusedSimpArgs false
set_option maxRecDepth 100000
open Go Go.RowKit
namespace Go.Proofs.YtimfipkbddpdmaaGreatDoor
def TellsC (g : Gv) (b : Nat) (w : World) (r : Except Ev Cp) (e : Ending) (w' : World) : Prop := w.grownBy w' (some b) /\ match r with
 | .ok c => e = .returned (.tuple #[]) /\ Mb c g b w'
 | .error ev => Thrown b w' ev e
def mvR (n : List UInt8) (c : Cp) (rt rd imm s t : Nat) : Except Ev Cp :=
 if n == [109, 102, 104, 105] then .ok (c.put rd c.hi) else if n == [109, 102, 108, 111] then .ok (c.put rd c.lo)
 else if (n == [109, 111, 118, 122] && t == 0) || (n == [109, 111, 118, 110] && t != 0) then .ok (c.put rd s)
 else if n == [114, 100, 104, 119, 114] then .ok (c.put rt (rg c 26)) else if n == [98, 114, 101, 97, 107] then .error ⟨2, imm, 0, 0, 0⟩ else .ok c
set_option maxHeartbeats 1000000 in
theorem move89_hi (c : Cp) (g : Gv) (b : Nat) (name : ByteArray) (rs sa : Int) (rt rd imm s t : Nat) (hc : c.Ok) (hrt : rt < 32) (hrd : rd < 32) (w : World) (h : Mb c g b w) (h0 : (name.toList == [109, 102, 104, 105]) = true) :
  Calls Tryz.prog 89 #[.pointer (some ⟨b, 0, none⟩), .agg #[.string name, .int .i64 rs, .int .i64 rt, .int .i64 rd, .int .i64 sa, .int .u32 imm], .int .u32 s, .int .u32 t] w (TellsC g b w (.ok (c.put rd c.hi))) := by
 obtain ⟨W, hW, hb, hz, d0, d1, d2, d3, d4, d5⟩ := box6 w (.string name) (.int .i64 rs) (.int .i64 rt) (.int .i64 rd) (.int .i64 sa) (.int .u32 imm) 55
 have hm := h.keep hb
 have HW : Hid (w.grownBy W (some b) /\ Mb c g b W) := ⟨grown_of hb, hm⟩
 have HL : Hid (c.r.length = 32) := hc.len
 obtain ⟨cx, _⟩ := hm.fields hc.len
 have K80 : Hid (∀ wx, Mb c g b wx -> Calls Tryz.prog 80 #[.pointer (some ⟨b, 0, none⟩), .int .i64 rd, .int .u32 c.hi] wx fun e w' => e = .returned (.tuple #[]) /\ Mb (c.put rd c.hi) g b w' /\ wx.grownBy w' (some b)) := fun wx hx => set80 c g b rd c.hi hc hrd wx hx
 clear h hm hb hz hc hrt hrd
 go_enter Tryz.func89, Tryz.ntmps89
 go_wp2
 refine wp_region_vals [.pointer (some ⟨b, 0, none⟩), .pointer (some ⟨w.heap.size, 3, none⟩), .int .i64 rd, .pointer (some ⟨b, 0, none⟩), .pointer (some ⟨b, 0, none⟩), .pointer (some ⟨b, 0, none⟩), .pointer (some ⟨b, 32, none⟩), .int .u32 c.hi] _ 8 (by kernel_rfl) rfl (by kernel_rfl) (by decide) (by kernel_rfl) (by kernel_rfl) (fun C hC => ?_)
 simp only [putVs, List.take_succ_cons, List.take_zero, Act.put, List.setIfInBounds_toArray, List.set_cons_zero, List.set_cons_succ] at hC
 subst hC
 refine ⟨?_, fun wy hR => ?_⟩
 ·repeat' refine And.intro ?_ ?_
  all_goals first | exact True.intro | intro wx hR
  all_goals try (refine yes ?_; have d2 := keep_cell hR d2; have d3 := keep_cell hR d3; have cx := keep_cell hR cx; simp [go_sem, d2, d3, cx]; exact lands)
 have HY : Hid (w.grownBy wy (some b) /\ Mb c g b wy) := ⟨gb_trans HW.out.1 (grown_of hR), HW.out.2.keep hR⟩
 clear hR
 refine ready1 8 fun K5 hK5 => yes ?_
 simp [go_sem]
 refine (K80.out wy HY.out.2).mono ?_
 rintro e w3 ⟨rfl, hm3, hg3⟩
 refine hK5 _ _ ?_
 refine wpAny_done (by kernel_rfl) ?_ _
 have H3 : Hid (w.grownBy w3 (some b) /\ Mb (c.put rd c.hi) g b w3) := ⟨gb_trans HY.out.1 hg3, hm3⟩
 clear hm3 hg3 HY
 go_wp2
 simp [bodyPost, results, Tryz.results89]
 exact ⟨H3.out.1, rfl, H3.out.2⟩
set_option maxHeartbeats 1000000 in
theorem move89_lo (c : Cp) (g : Gv) (b : Nat) (name : ByteArray) (rs sa : Int) (rt rd imm s t : Nat) (hc : c.Ok) (hrt : rt < 32) (hrd : rd < 32) (w : World) (h : Mb c g b w) (h0 : (name.toList == [109, 102, 104, 105]) = false) (h1 : (name.toList == [109, 102, 108, 111]) = true) :
  Calls Tryz.prog 89 #[.pointer (some ⟨b, 0, none⟩), .agg #[.string name, .int .i64 rs, .int .i64 rt, .int .i64 rd, .int .i64 sa, .int .u32 imm], .int .u32 s, .int .u32 t] w (TellsC g b w (.ok (c.put rd c.lo))) := by
 obtain ⟨W, hW, hb, hz, d0, d1, d2, d3, d4, d5⟩ := box6 w (.string name) (.int .i64 rs) (.int .i64 rt) (.int .i64 rd) (.int .i64 sa) (.int .u32 imm) 55
 have hm := h.keep hb
 have HW : Hid (w.grownBy W (some b) /\ Mb c g b W) := ⟨grown_of hb, hm⟩
 have HL : Hid (c.r.length = 32) := hc.len
 obtain ⟨_, cx, _⟩ := hm.fields hc.len
 have K80 : Hid (∀ wx, Mb c g b wx -> Calls Tryz.prog 80 #[.pointer (some ⟨b, 0, none⟩), .int .i64 rd, .int .u32 c.lo] wx fun e w' => e = .returned (.tuple #[]) /\ Mb (c.put rd c.lo) g b w' /\ wx.grownBy w' (some b)) := fun wx hx => set80 c g b rd c.lo hc hrd wx hx
 clear h hm hb hz hc hrt hrd
 go_enter Tryz.func89, Tryz.ntmps89
 go_wp2
 refine wp_region_vals [.pointer (some ⟨b, 0, none⟩), .pointer (some ⟨w.heap.size, 3, none⟩), .int .i64 rd, .pointer (some ⟨b, 0, none⟩), .pointer (some ⟨b, 0, none⟩), .pointer (some ⟨b, 0, none⟩), .pointer (some ⟨b, 33, none⟩), .int .u32 c.lo] _ 8 (by kernel_rfl) rfl (by kernel_rfl) (by decide) (by kernel_rfl) (by kernel_rfl) (fun C hC => ?_)
 simp only [putVs, List.take_succ_cons, List.take_zero, Act.put, List.setIfInBounds_toArray, List.set_cons_zero, List.set_cons_succ] at hC
 subst hC
 refine ⟨?_, fun wy hR => ?_⟩
 ·repeat' refine And.intro ?_ ?_
  all_goals first | exact True.intro | intro wx hR
  all_goals try (refine yes ?_; have d2 := keep_cell hR d2; have d3 := keep_cell hR d3; have cx := keep_cell hR cx; simp [go_sem, d2, d3, cx]; exact lands)
 have HY : Hid (w.grownBy wy (some b) /\ Mb c g b wy) := ⟨gb_trans HW.out.1 (grown_of hR), HW.out.2.keep hR⟩
 clear hR
 refine ready1 8 fun K5 hK5 => yes ?_
 simp [go_sem]
 refine (K80.out wy HY.out.2).mono ?_
 rintro e w3 ⟨rfl, hm3, hg3⟩
 refine hK5 _ _ ?_
 refine wpAny_done (by kernel_rfl) ?_ _
 have H3 : Hid (w.grownBy w3 (some b) /\ Mb (c.put rd c.lo) g b w3) := ⟨gb_trans HY.out.1 hg3, hm3⟩
 clear hm3 hg3 HY
 go_wp2
 simp [bodyPost, results, Tryz.results89]
 exact ⟨H3.out.1, rfl, H3.out.2⟩
set_option maxHeartbeats 1000000 in
theorem move89_hw (c : Cp) (g : Gv) (b : Nat) (name : ByteArray) (rs sa : Int) (rt rd imm s t : Nat) (hc : c.Ok) (hrt : rt < 32) (hrd : rd < 32) (w : World) (h : Mb c g b w) (h0 : (name.toList == [109, 102, 104, 105]) = false) (h1 : (name.toList == [109, 102, 108, 111]) = false) (h4 : (name.toList == [114, 100, 104, 119, 114]) = true) (hz2 : (name.toList == [109, 111, 118, 122]) = false) (hz3 : (name.toList == [109, 111, 118, 110]) = false) :
  Calls Tryz.prog 89 #[.pointer (some ⟨b, 0, none⟩), .agg #[.string name, .int .i64 rs, .int .i64 rt, .int .i64 rd, .int .i64 sa, .int .u32 imm], .int .u32 s, .int .u32 t] w (TellsC g b w (.ok (c.put rt (rg c 26)))) := by
 obtain ⟨W, hW, hb, hz, d0, d1, d2, d3, d4, d5⟩ := box6 w (.string name) (.int .i64 rs) (.int .i64 rt) (.int .i64 rd) (.int .i64 sa) (.int .u32 imm) 55
 have hm := h.keep hb
 have HW : Hid (w.grownBy W (some b) /\ Mb c g b W) := ⟨grown_of hb, hm⟩
 have HL : Hid (c.r.length = 32) := hc.len
 have l26 : 26 < c.r.length := by rw [hc.len]; decide
 have cx := hm.reg 26 l26
 have e26 : rg c 26 = c.r[26] := by unfold rg; rw [show ((26 : Int)).toNat = 26 from rfl, List.getD_eq_getElem?_getD, List.getElem?_eq_getElem l26]; rfl
 rw [<- e26] at cx
 obtain ⟨RV, hRV⟩ : ∃ x, x = rg c 26 := ⟨_, rfl⟩
 rw [<- hRV] at cx |-
 clear e26 hRV
 have K80 : Hid (∀ wx, Mb c g b wx -> Calls Tryz.prog 80 #[.pointer (some ⟨b, 0, none⟩), .int .i64 rt, .int .u32 RV] wx fun e w' => e = .returned (.tuple #[]) /\ Mb (c.put rt RV) g b w' /\ wx.grownBy w' (some b)) := fun wx hx => set80 c g b rt RV hc hrt wx hx
 clear h hm hb hz hc hrt hrd
 go_enter Tryz.func89, Tryz.ntmps89
 go_wp2
 refine wp_region_vals [.pointer (some ⟨b, 0, none⟩), .pointer (some ⟨w.heap.size, 2, none⟩), .int .i64 rt, .pointer (some ⟨b, 0, none⟩), .pointer (some ⟨b, 0, none⟩), .pointer (some ⟨b, 0, none⟩), .pointer (some ⟨b, 0, none⟩), .pointer (some ⟨b, 26, none⟩), .int .u32 RV] _ 9 (by kernel_rfl) rfl (by kernel_rfl) (by decide) (by kernel_rfl) (by kernel_rfl) (fun C hC => ?_)
 simp only [putVs, List.take_succ_cons, List.take_zero, Act.put, List.setIfInBounds_toArray, List.set_cons_zero, List.set_cons_succ] at hC
 subst hC
 refine ⟨?_, fun wy hR => ?_⟩
 ·repeat' refine And.intro ?_ ?_
  all_goals first | exact True.intro | intro wx hR
  all_goals try (refine yes ?_; have d2 := keep_cell hR d2; have d3 := keep_cell hR d3; have cx := keep_cell hR cx; simp [go_sem, d2, d3, cx]; exact lands)
 have HY : Hid (w.grownBy wy (some b) /\ Mb c g b wy) := ⟨gb_trans HW.out.1 (grown_of hR), HW.out.2.keep hR⟩
 clear hR
 refine ready1 9 fun K5 hK5 => yes ?_
 simp [go_sem]
 refine (K80.out wy HY.out.2).mono ?_
 rintro e w3 ⟨rfl, hm3, hg3⟩
 refine hK5 _ _ ?_
 refine wpAny_done (by kernel_rfl) ?_ _
 have H3 : Hid (w.grownBy w3 (some b) /\ Mb (c.put rt RV) g b w3) := ⟨gb_trans HY.out.1 hg3, hm3⟩
 clear hm3 hg3 HY
 go_wp2
 simp [bodyPost, results, Tryz.results89]
 exact ⟨H3.out.1, rfl, H3.out.2⟩
set_option maxHeartbeats 1000000 in
theorem move89_z (c : Cp) (g : Gv) (b : Nat) (name : ByteArray) (rs sa : Int) (rt rd imm s t : Nat) (hc : c.Ok) (hrt : rt < 32) (hrd : rd < 32) (w : World) (h : Mb c g b w) (h0 : (name.toList == [109, 102, 104, 105]) = false) (h1 : (name.toList == [109, 102, 108, 111]) = false) (h2 : (name.toList == [109, 111, 118, 122]) = true) (ht : t = 0) :
  Calls Tryz.prog 89 #[.pointer (some ⟨b, 0, none⟩), .agg #[.string name, .int .i64 rs, .int .i64 rt, .int .i64 rd, .int .i64 sa, .int .u32 imm], .int .u32 s, .int .u32 t] w (TellsC g b w (.ok (c.put rd s))) := by
 obtain ⟨W, hW, hb, hz, d0, d1, d2, d3, d4, d5⟩ := box6 w (.string name) (.int .i64 rs) (.int .i64 rt) (.int .i64 rd) (.int .i64 sa) (.int .u32 imm) 55
 have hm := h.keep hb
 have HW : Hid (w.grownBy W (some b) /\ Mb c g b W) := ⟨grown_of hb, hm⟩
 have HL : Hid (c.r.length = 32) := hc.len
 subst ht
 have K80 : Hid (∀ wx, Mb c g b wx -> Calls Tryz.prog 80 #[.pointer (some ⟨b, 0, none⟩), .int .i64 rd, .int .u32 s] wx fun e w' => e = .returned (.tuple #[]) /\ Mb (c.put rd s) g b w' /\ wx.grownBy w' (some b)) := fun wx hx => set80 c g b rd s hc hrd wx hx
 clear h hm hb hz hc hrt hrd
 go_enter Tryz.func89, Tryz.ntmps89
 go_wp2_with fail
 refine (K80.out W HW.out.2).mono ?_
 rintro e w3 ⟨rfl, hm3, hg3⟩
 have H3 : Hid (w.grownBy w3 (some b) /\ Mb (c.put rd s) g b w3) := ⟨gb_trans HW.out.1 hg3, hm3⟩
 clear hm3 hg3
 go_wp2
 simp [bodyPost, results, Tryz.results89]
 exact ⟨H3.out.1, rfl, H3.out.2⟩
set_option maxHeartbeats 1000000 in
theorem move89_n (c : Cp) (g : Gv) (b : Nat) (name : ByteArray) (rs sa : Int) (rt rd imm s t : Nat) (hc : c.Ok) (hrt : rt < 32) (hrd : rd < 32) (w : World) (h : Mb c g b w) (h0 : (name.toList == [109, 102, 104, 105]) = false) (h1 : (name.toList == [109, 102, 108, 111]) = false) (h2 : (name.toList == [109, 111, 118, 122]) = false) (h3 : (name.toList == [109, 111, 118, 110]) = true) (ht : t ≠ 0) :
  Calls Tryz.prog 89 #[.pointer (some ⟨b, 0, none⟩), .agg #[.string name, .int .i64 rs, .int .i64 rt, .int .i64 rd, .int .i64 sa, .int .u32 imm], .int .u32 s, .int .u32 t] w (TellsC g b w (.ok (c.put rd s))) := by
 obtain ⟨W, hW, hb, hz, d0, d1, d2, d3, d4, d5⟩ := box6 w (.string name) (.int .i64 rs) (.int .i64 rt) (.int .i64 rd) (.int .i64 sa) (.int .u32 imm) 55
 have hm := h.keep hb
 have HW : Hid (w.grownBy W (some b) /\ Mb c g b W) := ⟨grown_of hb, hm⟩
 have HL : Hid (c.r.length = 32) := hc.len
 have e1 : ¬ (t : Int) = 0 := by omega
 have e2 : ((t : Int) == 0) = false := by simpa using e1
 have e3 : ((t : Int) != 0) = true := by simpa using e1
 clear ht
 have K80 : Hid (∀ wx, Mb c g b wx -> Calls Tryz.prog 80 #[.pointer (some ⟨b, 0, none⟩), .int .i64 rd, .int .u32 s] wx fun e w' => e = .returned (.tuple #[]) /\ Mb (c.put rd s) g b w' /\ wx.grownBy w' (some b)) := fun wx hx => set80 c g b rd s hc hrd wx hx
 clear h hm hb hz hc hrt hrd
 go_enter Tryz.func89, Tryz.ntmps89
 go_wp2_with fail
 refine (K80.out W HW.out.2).mono ?_
 rintro e w3 ⟨rfl, hm3, hg3⟩
 have H3 : Hid (w.grownBy w3 (some b) /\ Mb (c.put rd s) g b w3) := ⟨gb_trans HW.out.1 hg3, hm3⟩
 clear hm3 hg3
 go_wp2
 simp [bodyPost, results, Tryz.results89]
 exact ⟨H3.out.1, rfl, H3.out.2⟩
set_option maxHeartbeats 1000000 in
theorem move89_z0 (c : Cp) (g : Gv) (b : Nat) (name : ByteArray) (rs sa : Int) (rt rd imm s t : Nat) (hc : c.Ok) (hrt : rt < 32) (hrd : rd < 32) (w : World) (h : Mb c g b w) (h0 : (name.toList == [109, 102, 104, 105]) = false) (h1 : (name.toList == [109, 102, 108, 111]) = false) (h2 : (name.toList == [109, 111, 118, 122]) = true) (h3 : (name.toList == [109, 111, 118, 110]) = false) (h4 : (name.toList == [114, 100, 104, 119, 114]) = false) (h5 : (name.toList == [98, 114, 101, 97, 107]) = false) (ht : t ≠ 0) :
  Calls Tryz.prog 89 #[.pointer (some ⟨b, 0, none⟩), .agg #[.string name, .int .i64 rs, .int .i64 rt, .int .i64 rd, .int .i64 sa, .int .u32 imm], .int .u32 s, .int .u32 t] w (TellsC g b w (.ok c)) := by
 obtain ⟨W, hW, hb, hz, d0, d1, d2, d3, d4, d5⟩ := box6 w (.string name) (.int .i64 rs) (.int .i64 rt) (.int .i64 rd) (.int .i64 sa) (.int .u32 imm) 55
 have hm := h.keep hb
 have HW : Hid (w.grownBy W (some b) /\ Mb c g b W) := ⟨grown_of hb, hm⟩
 have HL : Hid (c.r.length = 32) := hc.len
 have e1 : ¬ (t : Int) = 0 := by omega
 have e2 : ((t : Int) == 0) = false := by simpa using e1
 have e3 : ((t : Int) != 0) = true := by simpa using e1
 clear ht
 clear h hm hb hz hc hrt hrd
 go_enter Tryz.func89, Tryz.ntmps89
 go_wp2
 simp [bodyPost, results, Tryz.results89]
 exact ⟨HW.out.1, rfl, HW.out.2⟩
set_option maxHeartbeats 1000000 in
theorem move89_n0 (c : Cp) (g : Gv) (b : Nat) (name : ByteArray) (rs sa : Int) (rt rd imm s t : Nat) (hc : c.Ok) (hrt : rt < 32) (hrd : rd < 32) (w : World) (h : Mb c g b w) (h0 : (name.toList == [109, 102, 104, 105]) = false) (h1 : (name.toList == [109, 102, 108, 111]) = false) (h2 : (name.toList == [109, 111, 118, 122]) = false) (h3 : (name.toList == [109, 111, 118, 110]) = true) (h4 : (name.toList == [114, 100, 104, 119, 114]) = false) (h5 : (name.toList == [98, 114, 101, 97, 107]) = false) (ht : t = 0) :
  Calls Tryz.prog 89 #[.pointer (some ⟨b, 0, none⟩), .agg #[.string name, .int .i64 rs, .int .i64 rt, .int .i64 rd, .int .i64 sa, .int .u32 imm], .int .u32 s, .int .u32 t] w (TellsC g b w (.ok c)) := by
 obtain ⟨W, hW, hb, hz, d0, d1, d2, d3, d4, d5⟩ := box6 w (.string name) (.int .i64 rs) (.int .i64 rt) (.int .i64 rd) (.int .i64 sa) (.int .u32 imm) 55
 have hm := h.keep hb
 have HW : Hid (w.grownBy W (some b) /\ Mb c g b W) := ⟨grown_of hb, hm⟩
 have HL : Hid (c.r.length = 32) := hc.len
 subst ht
 clear h hm hb hz hc hrt hrd
 go_enter Tryz.func89, Tryz.ntmps89
 go_wp2
 simp [bodyPost, results, Tryz.results89]
 exact ⟨HW.out.1, rfl, HW.out.2⟩
set_option maxHeartbeats 1000000 in
theorem move89_no (c : Cp) (g : Gv) (b : Nat) (name : ByteArray) (rs sa : Int) (rt rd imm s t : Nat) (hc : c.Ok) (hrt : rt < 32) (hrd : rd < 32) (w : World) (h : Mb c g b w) (h0 : (name.toList == [109, 102, 104, 105]) = false) (h1 : (name.toList == [109, 102, 108, 111]) = false) (h2 : (name.toList == [109, 111, 118, 122]) = false) (h3 : (name.toList == [109, 111, 118, 110]) = false) (h4 : (name.toList == [114, 100, 104, 119, 114]) = false) (h5 : (name.toList == [98, 114, 101, 97, 107]) = false) :
  Calls Tryz.prog 89 #[.pointer (some ⟨b, 0, none⟩), .agg #[.string name, .int .i64 rs, .int .i64 rt, .int .i64 rd, .int .i64 sa, .int .u32 imm], .int .u32 s, .int .u32 t] w (TellsC g b w (.ok c)) := by
 obtain ⟨W, hW, hb, hz, d0, d1, d2, d3, d4, d5⟩ := box6 w (.string name) (.int .i64 rs) (.int .i64 rt) (.int .i64 rd) (.int .i64 sa) (.int .u32 imm) 55
 have hm := h.keep hb
 have HW : Hid (w.grownBy W (some b) /\ Mb c g b W) := ⟨grown_of hb, hm⟩
 have HL : Hid (c.r.length = 32) := hc.len
 clear h hm hb hz hc hrt hrd
 go_enter Tryz.func89, Tryz.ntmps89
 go_wp2
 simp [bodyPost, results, Tryz.results89]
 exact ⟨HW.out.1, rfl, HW.out.2⟩
set_option maxHeartbeats 1000000 in
theorem move89_br (c : Cp) (g : Gv) (b : Nat) (name : ByteArray) (rs sa : Int) (rt rd imm s t : Nat) (hc : c.Ok) (hrt : rt < 32) (hrd : rd < 32) (w : World) (h : Mb c g b w) (h0 : (name.toList == [109, 102, 104, 105]) = false) (h1 : (name.toList == [109, 102, 108, 111]) = false) (h2 : (name.toList == [109, 111, 118, 122]) = false) (h3 : (name.toList == [109, 111, 118, 110]) = false) (h4 : (name.toList == [114, 100, 104, 119, 114]) = false) (h5 : (name.toList == [98, 114, 101, 97, 107]) = true) :
  Calls Tryz.prog 89 #[.pointer (some ⟨b, 0, none⟩), .agg #[.string name, .int .i64 rs, .int .i64 rt, .int .i64 rd, .int .i64 sa, .int .u32 imm], .int .u32 s, .int .u32 t] w (TellsC g b w (.error ⟨2, imm, 0, 0, 0⟩)) := by
 obtain ⟨W, hW, hb, hz, d0, d1, d2, d3, d4, d5⟩ := box6 w (.string name) (.int .i64 rs) (.int .i64 rt) (.int .i64 rd) (.int .i64 sa) (.int .u32 imm) 55
 have hm := h.keep hb
 have HW : Hid (w.grownBy W (some b) /\ Mb c g b W) := ⟨grown_of hb, hm⟩
 have HL : Hid (c.r.length = 32) := hc.len
 clear h hm hb hz hc hrt hrd
 go_enter Tryz.func89, Tryz.ntmps89
 go_wp2
 exact ⟨rfl, HW.out.1, rfl, _, _, HW.out.2, HL.out⟩
theorem lit_ne {l m n : List UInt8} (h : (l == m) = true) (hn : (m == n) = false) : (l == n) = false := by rw [beq_iff_eq.1 h]; exact hn
theorem move89 (c : Cp) (g : Gv) (b : Nat) (name : ByteArray) (rs sa : Int) (rt rd imm s t : Nat) (hc : c.Ok) (hrt : rt < 32) (hrd : rd < 32) (w : World) (h : Mb c g b w) :
  Calls Tryz.prog 89 #[.pointer (some ⟨b, 0, none⟩), .agg #[.string name, .int .i64 rs, .int .i64 rt, .int .i64 rd, .int .i64 sa, .int .u32 imm], .int .u32 s, .int .u32 t] w (TellsC g b w (mvR name.toList c rt rd imm s t)) := by
 unfold mvR
 cases h0 : (name.toList == [109, 102, 104, 105]) with
 | true => rw [if_pos rfl]; exact move89_hi c g b name rs sa rt rd imm s t hc hrt hrd w h h0
 | false =>
 rw [if_neg (by decide)]
 cases h1 : (name.toList == [109, 102, 108, 111]) with
 | true => rw [if_pos rfl]; exact move89_lo c g b name rs sa rt rd imm s t hc hrt hrd w h h0 h1
 | false =>
 rw [if_neg (by decide)]
 cases h2 : (name.toList == [109, 111, 118, 122]) with
 | true =>
  have h3 := lit_ne h2 (show ([109, 111, 118, 122] == [109, 111, 118, 110]) = false by decide)
  have h4 := lit_ne h2 (show ([109, 111, 118, 122] == [114, 100, 104, 119, 114]) = false by decide)
  have h5 := lit_ne h2 (show ([109, 111, 118, 122] == [98, 114, 101, 97, 107]) = false by decide)
  rw [h3, h4, h5]
  by_cases ht : t = 0
  ·rw [if_pos (by rw [ht]; rfl)]; exact move89_z c g b name rs sa rt rd imm s t hc hrt hrd w h h0 h1 h2 ht
  ·rw [if_neg (by simp [ht]), if_neg (by decide), if_neg (by decide)]; exact move89_z0 c g b name rs sa rt rd imm s t hc hrt hrd w h h0 h1 h2 h3 h4 h5 ht
 | false =>
 cases h3 : (name.toList == [109, 111, 118, 110]) with
 | true =>
  have h4 := lit_ne h3 (show ([109, 111, 118, 110] == [114, 100, 104, 119, 114]) = false by decide)
  have h5 := lit_ne h3 (show ([109, 111, 118, 110] == [98, 114, 101, 97, 107]) = false by decide)
  rw [h4, h5]
  by_cases ht : t = 0
  ·rw [if_neg (by rw [ht]; decide), if_neg (by decide), if_neg (by decide)]; exact move89_n0 c g b name rs sa rt rd imm s t hc hrt hrd w h h0 h1 h2 h3 h4 h5 ht
  ·rw [if_pos (by simp [ht])]; exact move89_n c g b name rs sa rt rd imm s t hc hrt hrd w h h0 h1 h2 h3 ht
 | false =>
 rw [if_neg (by simp)]
 cases h4 : (name.toList == [114, 100, 104, 119, 114]) with
 | true => rw [if_pos rfl]; exact move89_hw c g b name rs sa rt rd imm s t hc hrt hrd w h h0 h1 h4 h2 h3
 | false =>
 rw [if_neg (by decide)]
 cases h5 : (name.toList == [98, 114, 101, 97, 107]) with
 | true => rw [if_pos rfl]; exact move89_br c g b name rs sa rt rd imm s t hc hrt hrd w h h0 h1 h2 h3 h4 h5
 | false => rw [if_neg (by decide)]; exact move89_no c g b name rs sa rt rd imm s t hc hrt hrd w h h0 h1 h2 h3 h4 h5
end Go.Proofs.YtimfipkbddpdmaaGreatDoor
namespace Go.Proofs.YtimfipkbddpdmaaGreatDoor.Wd
theorem below_tr {w w1 w2 : World} (h : Below w.heap.size w w1) (h' : Below w1.heap.size w1 w2) : Below w.heap.size w w2 := h.trans (h'.mono h.size)
theorem keep_cell {w w' : World} (h : Below w.heap.size w w') {a : Addr} {v : Value} (hc : w.cell? a = some v) : w'.cell? a = some v :=
 (h.cell (World.block_lt_of_cell? w a hc)).trans hc
def sg (v : Nat) : Int := if v < 2147483648 then (v : Int) else (v : Int) - 4294967296
theorem sg_wrap (v : Nat) (h : v < 4294967296) : wrap32 (v : Int) = sg v := by unfold wrap32 sg; split <;> omega
theorem sg_lo (v : Nat) (h : v < 4294967296) : -2147483648 <= sg v /\ sg v < 2147483648 := by unfold sg; split <;> omega
def outN (n : Int) : Nat := (n % 4294967296).toNat
theorem outN_is (n : Int) : ((outN n : Nat) : Int) = n % 4294967296 := by unfold outN; omega
theorem outN_lt (n : Int) : outN n < 4294967296 := by unfold outN; omega
def outW (n : Int) : Nat := (n % 18446744073709551616).toNat
theorem outW_is (n : Int) : ((outW n : Nat) : Int) = n % 18446744073709551616 := by unfold outW; omega
theorem outW_lt (n : Int) : outW n < 18446744073709551616 := by unfold outW; omega
theorem outW_wrap (n : Int) : IntKind.u64.wrap (wrap64 n) = ((outW n : Nat) : Int) := by rw [outW_is, IntKind.wrap_u64]; unfold wrap64; omega
theorem ret_int {k : IntKind} {a b : Int} (h : a = b) : Ending.returned (.int k a) = .returned (.int k b) := by rw [h]
theorem or_u64 (a b : Nat) (ha : a < 18446744073709551616) (hb : b < 18446744073709551616) : bits .or .u64 (a : Int) (b : Int) = ((a ||| b : Nat) : Int) := (bits_nat .u64 64 (by decide) (fun n h0 h1 => by rw [IntKind.wrap_u64]; omega) a b (by omega) (by omega)).2
theorem join_key (h l : Nat) (hh : h < 4294967296) (hl : l < 4294967296) : bits .or .u64 ((h : Int) * 4294967296) (l : Int) = ((h * 4294967296 + l : Nat) : Int) := by
 have e : (h : Int) * 4294967296 = ((h * 4294967296 : Nat) : Int) := by simp
 rw [e, or_u64 _ _ (by omega) (by omega)]
 have := Nat.two_pow_add_eq_or_of_lt (i := 32) (b := l) hl h
 rw [show h * 4294967296 = 2 ^ 32 * h from by omega, <- this]
def rd (sn : Bool) (v : Nat) : Int := if sn then sg v else (v : Int)
theorem rd_lo (sn : Bool) (v : Nat) (h : v < 4294967296) : -2147483648 <= rd sn v /\ rd sn v < 4294967296 := by
 have := sg_lo v h
 unfold rd; split <;> omega
theorem rd_zero (sn : Bool) (v : Nat) (h : v < 4294967296) : rd sn v = 0 ↔ v = 0 := by
 unfold rd sg; split
 ·split <;> omega
 ·omega
def rdF (sn : Bool) : Nat := if sn then 125 else 127
def prN (sn : Bool) (s t : Nat) : Nat := outW (rd sn s * rd sn t)
def dvN (sn : Bool) (s t : Nat) : Nat := if t = 0 then s * 4294967296 + 4294967295 else outN ((rd sn s).tmod (rd sn t)) * 4294967296 + outN ((rd sn s).tdiv (rd sn t))
theorem prN_lt (sn : Bool) (s t : Nat) : prN sn s t < 18446744073709551616 := outW_lt _
theorem dvN_lt (sn : Bool) (s t : Nat) (hs : s < 4294967296) : dvN sn s t < 18446744073709551616 := by
 unfold dvN
 have h1 := outN_lt ((rd sn s).tmod (rd sn t))
 have h2 := outN_lt ((rd sn s).tdiv (rd sn t))
 split <;> omega
theorem high52 (b : Nat) (hb : b < 18446744073709551616) (w : World) : Calls Tryz.prog 139 #[.int .u64 b] w fun e w' => e = .returned (.int .u32 ((b / 4294967296 : Nat) : Int)) /\ w' = w := by
 go_enter Tryz.func139, Tryz.ntmps139
 go_wp2
 go_ret
 exact ⟨ret_int (by omega), rfl⟩
theorem low50 (b : Nat) (hb : b < 18446744073709551616) (w : World) : Calls Tryz.prog 137 #[.int .u64 b] w fun e w' => e = .returned (.int .u32 ((b % 4294967296 : Nat) : Int)) /\ w' = w := by
 go_enter Tryz.func137, Tryz.ntmps137
 go_wp2
 go_ret
 exact ⟨ret_int (by omega), rfl⟩
theorem joined49 (h l : Nat) (hh : h < 4294967296) (hl : l < 4294967296) (w : World) : Calls Tryz.prog 136 #[.int .u32 h, .int .u32 l] w fun e w' => e = .returned (.int .u64 ((h * 4294967296 + l : Nat) : Int)) /\ w' = w := by
 have h1 : Hid _ := join_key h l hh hl
 go_enter Tryz.func136, Tryz.ntmps136
 go_wp2
 go_ret
 exact ⟨ret_int h1.out, rfl⟩
theorem signed38 (v : Nat) (hv : v < 4294967296) (w : World) : Calls Tryz.prog 125 #[.int .u32 v] w fun e w' => e = .returned (.int .i64 (sg v)) /\ w' = w := by
 have h1 := sg_wrap v hv
 have h2 : Hid (wrap64 (sg v) = sg v) := by have := sg_lo v hv; show _ = _; unfold wrap64; omega
 go_enter Tryz.func125, Tryz.ntmps125
 go_wp2
 go_ret
 exact ⟨ret_int h2.out, rfl⟩
theorem unsigned40 (v : Nat) (hv : v < 4294967296) (w : World) : Calls Tryz.prog 127 #[.int .u32 v] w fun e w' => e = .returned (.int .i64 v) /\ w' = w := by
 go_enter Tryz.func127, Tryz.ntmps127
 go_wp2
 go_ret
 exact ⟨rfl, rfl⟩
theorem enter_of {f : FuncId} {fn : Func} (hf : Tryz.prog.funcs[f]? = some fn) (hname : (fn.name == "runtime.NumGoroutine") = false) (hb : fn.body.isSome = true) (args : Array Value) (w : World) :
  (callFunc f args).run Tryz.prog w = .ok (.enter f args) w := by
 have h1 : fn.name ≠ "runtime.NumGoroutine" := by simpa using hname
 obtain ⟨c, hb⟩ := Option.isSome_iff_exists.1 hb
 simp [callFunc, hf, h1, hb]
theorem rd_any (sn : Bool) (v : Nat) (hv : v < 4294967296) (w : World) : Calls Tryz.prog (rdF sn) #[.int .u32 v] w fun e w' => e = .returned (.int .i64 (rd sn v)) /\ w' = w := by
 cases sn
 ·exact unsigned40 v hv w
 ·exact signed38 v hv w
theorem rd_enter (sn : Bool) (args : Array Value) (w : World) : (callFunc (rdF sn) args).run Tryz.prog w = .ok (.enter (rdF sn) args) w := by
 cases sn
 ·exact enter_of Tryz.func127 (by kernel_rfl) (by kernel_rfl) args w
 ·exact enter_of Tryz.func125 (by kernel_rfl) (by kernel_rfl) args w
theorem product37 (sn : Bool) (s t : Nat) (hs : s < 4294967296) (ht : t < 4294967296) (w : World) : Calls Tryz.prog 124 #[.int .u32 s, .int .u32 t, .func (.func (rdF sn)) #[] #[]] w fun e w' => e = .returned (.int .u64 ((prN sn s t : Nat) : Int)) /\ w' = w := by
 have K1 : Hid (∀ w, Calls Tryz.prog (rdF sn) #[.int .u32 s] w fun e w' => e = .returned (.int .i64 (rd sn s)) /\ w' = w) := rd_any sn s hs
 have K2 : Hid (∀ w, Calls Tryz.prog (rdF sn) #[.int .u32 t] w fun e w' => e = .returned (.int .i64 (rd sn t)) /\ w' = w) := rd_any sn t ht
 have hc := rd_enter sn
 unfold prN
 generalize rd sn s = a at *
 generalize rd sn t = b at *
 generalize rdF sn = fn at *
 have hk : Hid _ := outW_wrap (a * b)
 go_enter Tryz.func124, Tryz.ntmps124
 go_wp2_with fail
 refine (K1.out _).mono ?_
 rintro e w1 ⟨rfl, rfl⟩
 go_wp2_with fail
 refine (K2.out _).mono ?_
 rintro e w1 ⟨rfl, rfl⟩
 go_wp2
 go_ret
 exact ⟨ret_int hk.out, rfl⟩
set_option maxHeartbeats 1000000 in
theorem divided46 (sn : Bool) (s t : Nat) (hs : s < 4294967296) (ht : t < 4294967296) (w : World) : Calls Tryz.prog 133 #[.int .u32 s, .int .u32 t, .func (.func (rdF sn)) #[] #[]] w fun e w' => e = .returned (.int .u64 ((dvN sn s t : Nat) : Int)) /\ Below w.heap.size w w' := by
 by_cases h0 : t = 0
 ·subst h0
  have K : Hid (∀ w, Calls Tryz.prog 136 #[.int .u32 s, .int .u32 4294967295] w fun e w' => e = .returned (.int .u64 ((s * 4294967296 + 4294967295 : Nat) : Int)) /\ w' = w) := joined49 s 4294967295 hs (by decide)
  have e : dvN sn s 0 = s * 4294967296 + 4294967295 := if_pos rfl
  rw [e]
  generalize s * 4294967296 + 4294967295 = z at *
  go_enter Tryz.func133, Tryz.ntmps133
  go_wp2_with fail
  refine (K.out _).mono ?_
  rintro e w1 ⟨rfl, rfl⟩
  go_wp2
  go_ret
  exact ⟨rfl, Below.refl _ _⟩
 ·have hz : ((t : Int) == 0) = false := by rw [beq_eq_false_iff_ne]; omega
  have K1 : Hid (∀ w, Calls Tryz.prog (rdF sn) #[.int .u32 s] w fun e w' => e = .returned (.int .i64 (rd sn s)) /\ w' = w) := rd_any sn s hs
  have K2 : Hid (∀ w, Calls Tryz.prog (rdF sn) #[.int .u32 t] w fun e w' => e = .returned (.int .i64 (rd sn t)) /\ w' = w) := rd_any sn t ht
  have hc := rd_enter sn
  have hb0 : rd sn t ≠ 0 := fun h => h0 ((rd_zero sn t ht).1 h)
  have la := rd_lo sn s hs
  have lb := rd_lo sn t ht
  have e : dvN sn s t = outN ((rd sn s).tmod (rd sn t)) * 4294967296 + outN ((rd sn s).tdiv (rd sn t)) := if_neg h0
  rw [e]
  generalize rd sn s = a at *
  generalize rd sn t = b at *
  generalize rdF sn = fn at *
  have hq : a.tdiv b <= 4294967296 /\ -4294967296 <= a.tdiv b := by
   have := Int.natAbs_tdiv_le_natAbs a b
   omega
  have hr : a.tmod b <= 4294967296 /\ -4294967296 <= a.tmod b := by
   have := Int.natAbs_tmod a b
   have h2 := Nat.mod_le a.natAbs b.natAbs
   omega
  have K3 : Hid (∀ w, Calls Tryz.prog 136 #[.int .u32 ((outN (a.tmod b) : Nat) : Int), .int .u32 ((outN (a.tdiv b) : Nat) : Int)] w fun e w' => e = .returned (.int .u64 ((outN (a.tmod b) * 4294967296 + outN (a.tdiv b) : Nat) : Int)) /\ w' = w) := joined49 _ _ (outN_lt _) (outN_lt _)
  have e1 := outN_is (a.tmod b)
  have e2 := outN_is (a.tdiv b)
  have hw : wrap64 (a.tdiv b) = a.tdiv b := by unfold wrap64; omega
  have hw2 : wrap64 (a.tmod b) = a.tmod b := by unfold wrap64; omega
  have e1' : a.tmod b % 4294967296 = ((outN (a.tmod b) : Nat) : Int) := e1.symm
  have e2' : a.tdiv b % 4294967296 = ((outN (a.tdiv b) : Nat) : Int) := e2.symm
  generalize outN (a.tmod b) * 4294967296 + outN (a.tdiv b) = z at *
  generalize outN (a.tmod b) = x at *
  generalize outN (a.tdiv b) = y at *
  have hb1 : (b == 0) = false := by rw [beq_eq_false_iff_ne]; exact hb0
  clear e1 e2 la lb hq hr
  go_enter Tryz.func133, Tryz.ntmps133
  go_wp2_with fail
  refine (K1.out _).mono ?_
  rintro e w1 ⟨rfl, rfl⟩
  go_wp2_with fail
  refine (K2.out _).mono ?_
  rintro e w1 ⟨rfl, rfl⟩
  go_wp2
  go_quiet ((go_at_call 136; exact Calls.quiet_of_same (K3.out _)))
  go_wp2
  go_ret
  exact ⟨rfl, below_drewN (Below.refl _ _) _⟩
end Go.Proofs.YtimfipkbddpdmaaGreatDoor.Wd
