/- What is proved here: the program bears the bodies of slices.SortFunc over stretches, as the library's contract asks (its numbers, field by field). -/
import Derived.Shelf.SlLaysF0
import Derived.Test.YtkpmkgkfpikpfaaGreatProg
import Derived.Test.YtkpmkgkfpikpfaaGreatGs
import Derived.Shelf.SlSortCmp.WholeK
import Derived.Test.YtkpmkgkfpikpfaaGreatGp
namespace Go.Proofs.YtkpmkgkfpikpfaaGreat
open Go.Shelf
def sortSt_ren : Go.Shelf.Ren := ⟨fun | 6 => 94 | 15 => 112 | 14 => 111 | 28 => 131 | 29 => 132 | 20 => 123 | 21 => 124 | 22 => 125 | 23 => 126 | 24 => 127 | 25 => 128 | 26 => 129 | 27 => 130 | 46 => 135 | 47 => 136 | 48 => 137 | 49 => 138 | 50 => 139 | 57 => 140 | n => n, fun | 22 => 136 | 24 => 120 | 25 => 139 | 3 => 3 | 39 => 156 | 0 => 0 | 53 => 30 | 55 => 26 | 4 => 4 | 46 => 168 | 45 => 167 | 50 => 129 | 5 => 5 | 9 => 9 | 66 => 175 | 70 => 179 | 76 => 181 | 77 => 122 | n => n, fun | n => n⟩
theorem sortSt : Go.Proofs.SlLaysF0.n6 Tryz.prog sortSt_ren := {
 mixed := by kernel_rfl
 f6 := ⟨Tryz.f94.name, by decide, Tryz.func94.trans (congrArg some (by kernel_rfl))⟩
 f14 := ⟨Tryz.f111.name, by decide, Tryz.func111.trans (congrArg some (by kernel_rfl))⟩
 f15 := Tryz.func112.trans (congrArg some (by kernel_rfl))
 f20 := ⟨Tryz.f123.name, by decide, Tryz.func123.trans (congrArg some (by kernel_rfl))⟩
 f21 := ⟨Tryz.f124.name, by decide, Tryz.func124.trans (congrArg some (by kernel_rfl))⟩
 f22 := ⟨Tryz.f125.name, by decide, Tryz.func125.trans (congrArg some (by kernel_rfl))⟩
 f23 := ⟨Tryz.f126.name, by decide, Tryz.func126.trans (congrArg some (by kernel_rfl))⟩
 f24 := ⟨Tryz.f127.name, by decide, Tryz.func127.trans (congrArg some (by kernel_rfl))⟩
 f25 := ⟨Tryz.f128.name, by decide, Tryz.func128.trans (congrArg some (by kernel_rfl))⟩
 f26 := ⟨Tryz.f129.name, by decide, Tryz.func129.trans (congrArg some (by kernel_rfl))⟩
 f27 := ⟨Tryz.f130.name, by decide, Tryz.func130.trans (congrArg some (by kernel_rfl))⟩
 f28 := Tryz.func131.trans (congrArg some (by kernel_rfl))
 f29 := Tryz.func132.trans (congrArg some (by kernel_rfl))
 f46 := ⟨Tryz.f135.name, by decide, Tryz.func135.trans (congrArg some (by kernel_rfl))⟩
 f47 := Tryz.func136.trans (congrArg some (by kernel_rfl))
 f48 := Tryz.func137.trans (congrArg some (by kernel_rfl))
 f49 := ⟨Tryz.f138.name, by decide, Tryz.func138.trans (congrArg some (by kernel_rfl))⟩
 f50 := ⟨Tryz.f139.name, by decide, Tryz.func139.trans (congrArg some (by kernel_rfl))⟩
 f57 := ⟨Tryz.f140.name, by decide, Tryz.func140.trans (congrArg some (by kernel_rfl))⟩
 t0 := Tryz.underlying0
 a0 := Tryz.isAgg0
 z0 := Tryz.sizeOf0
 v0 := Tryz.zeroValue0
 t3 := Tryz.underlying3
 a3 := Tryz.isAgg3
 z3 := Tryz.sizeOf3
 v3 := Tryz.zeroValue3
 t4 := Tryz.underlying4
 a4 := Tryz.isAgg4
 z4 := Tryz.sizeOf4
 v4 := Tryz.zeroValue4
 t5 := Tryz.underlying5
 a5 := Tryz.isAgg5
 z5 := Tryz.sizeOf5
 v5 := Tryz.zeroValue5
 t9 := Tryz.underlying9
 a9 := Tryz.isAgg9
 z9 := Tryz.sizeOf9
 v9 := Tryz.zeroValue9
 t22 := Tryz.underlying136
 a22 := Tryz.isAgg136
 z22 := Tryz.sizeOf136
 v22 := Tryz.zeroValue136
 t25 := Tryz.underlying139
 a25 := Tryz.isAgg139
 z25 := Tryz.sizeOf139
 v25 := Tryz.zeroValue139
 t39 := Tryz.underlying156
 a39 := Tryz.isAgg156
 z39 := Tryz.sizeOf156
 v39 := Tryz.zeroValue156
 t45 := Tryz.underlying167
 a45 := Tryz.isAgg167
 z45 := Tryz.sizeOf167
 v45 := Tryz.zeroValue167
 t46 := Tryz.underlying168
 a46 := Tryz.isAgg168
 z46 := Tryz.sizeOf168
 v46 := Tryz.zeroValue168
 t50 := Tryz.underlying129
 a50 := Tryz.isAgg129
 z50 := Tryz.sizeOf129
 v50 := Tryz.zeroValue129
 t53 := Tryz.underlying30
 a53 := Tryz.isAgg30
 z53 := Tryz.sizeOf30
 v53 := Tryz.zeroValue30
 t55 := Tryz.underlying26
 a55 := Tryz.isAgg26
 z55 := Tryz.sizeOf26
 v55 := Tryz.zeroValue26
 t66 := Tryz.underlying175
 a66 := Tryz.isAgg175
 z66 := Tryz.sizeOf175
 v66 := Tryz.zeroValue175
 t70 := Tryz.underlying179
 a70 := Tryz.isAgg179
 z70 := Tryz.sizeOf179
 v70 := Tryz.zeroValue179
 t76 := Tryz.underlying181
 a76 := Tryz.isAgg181
 z76 := Tryz.sizeOf181
 v76 := Tryz.zeroValue181
 t77 := Tryz.underlying122
 a77 := Tryz.isAgg122
 z77 := Tryz.sizeOf122
 v77 := Tryz.zeroValue122 }
open Go.RowKit Go.Shelf Go.Lib Go.Sort
set_option linter.unusedVariables false
set_option linter.unusedSimpArgs false
set_option maxRecDepth 100000
def encSt (x : Nat × Nat) : List Value := [.int .u32 (x.1 : Int), .int .u32 (x.2 : Int)]
def cmpSt (x y : Nat × Nat) : Int := cmpN x.2 y.2
theorem ltSt (x y : Nat × Nat) : ltOf cmpSt x y = decide (x.2 < y.2) := by
 unfold ltOf cmpSt cmpN
 by_cases h1 : x.2 < y.2
 ·simp [h1]
 ·by_cases h2 : y.2 < x.2 <;> simp [h1, h2]
theorem swoSt : SWO (ltOf cmpSt) where
 irrefl x := by rw [ltSt]; simp
 trans x y z h1 h2 := by rw [ltSt] at *; simp at *; omega
 ntrans x y z h1 h2 := by rw [ltSt] at *; simp at *; omega
set_option maxHeartbeats 1000000 in
theorem closure95 (x y : Nat × Nat) (W : World) : Calls Tryz.prog 95 #[.agg #[.int .u32 (x.1 : Int), .int .u32 (x.2 : Int)], .agg #[.int .u32 (y.1 : Int), .int .u32 (y.2 : Int)]] W fun e w' => e = .returned (.int .i64 (cmpSt x y)) ∧ ∃ q os', w' = grow (W.drewN q) os' := by
 have hcon := fun W' => compare64 x.2 y.2 W'
 obtain ⟨r, hr⟩ : ∃ z, z = cmpN x.2 y.2 := ⟨_, rfl⟩
 rw [← hr] at hcon
 have HR : Hid (cmpSt x y = r) := hr.symm
 obtain ⟨x1, x2⟩ := x
 obtain ⟨y1, y2⟩ := y
 clear hr
 simp only at hcon ⊢
 go_enter Tryz.func95, Tryz.ntmps95
 go_wp2_with (go_at_call 96; refine (hcon _).mono ?_; rintro e w' ⟨rfl, rfl⟩)
 go_ret
 exact ⟨by rw [HR.out]; rfl, 0, _, by rw [alloc_eq_grow, alloc_eq_grow, grow_grow]; rfl⟩
theorem sort94 (blk off cap : Nat) (d : Array (Nat × Nat)) (w : World) (hH : HoldsK encSt 2 w blk off d) (hblk : blk < w.heap.size) (hsz : d.size < 4611686018427387904) :
  Calls Tryz.prog 94 #[.slice (some ⟨blk, off, none⟩) d.size cap, .func (.func 95) #[] #[]] w fun e w' => e = .returned (.tuple #[]) ∧ ∃ d' n os, PermIn 0 d.size d d' ∧ SortedIn (ltOf cmpSt) 0 d.size d' ∧ w' = sortWorldK encSt 2 w blk off n d' os := by
 have eg : ∀ args w, (callFunc 95 args).run Tryz.prog w = .ok (.enter 95 args) w := enters_of Tryz.func95 (by kernel_rfl) rfl
 exact AnyQ.slices_SortFunc sortSt 2 Tryz.isAgg120 Tryz.sizeOf120 encSt (fun _ => rfl) (fun x v hv => by simp [encSt] at hv; rcases hv with rfl | rfl <;> rfl) cmpSt swoSt 95 #[] blk off cap d w eg (fun _ _ _ _ x y => closure95 x y _) hH hblk hsz
open Go.RowKit
open Go.Sort Go.Shelf Go.Lib
def stRow (ts : List (Nat × Nat)) : List Value := ts.flatMap encSt
theorem stRow_snoc (ts : List (Nat × Nat)) (x : Nat × Nat) : stRow (ts ++ [x]) = stRow ts ++ [.int .u32 (x.1 : Int), .int .u32 (x.2 : Int)] := by simp [stRow, encSt]
theorem stRow_get : ∀ (l : List (Nat × Nat)) (i j : Nat) (h : i < l.length) (hj : j < 2), (stRow l)[i * 2 + j]? = (encSt l[i])[j]?
 | [], i, j, h, _ => absurd h (Nat.not_lt_zero _)
 | r :: l, 0, j, _, hj => by
  rw [stRow, List.flatMap_cons, List.getElem?_append_left (by show _ < 2; omega), Nat.zero_mul, Nat.zero_add]; rfl
 | r :: l, i + 1, j, h, hj => by
  rw [stRow, List.flatMap_cons, List.getElem?_append_right (by show 2 ≤ _; omega), show (i + 1) * 2 + j - (encSt r).length = i * 2 + j from by show _ - 2 = _; omega]
  exact stRow_get l i j (by simpa using h) hj
def StAt (w : World) (g : Nat) (ts : List (Nat × Nat)) : Prop := ∀ i (h : i < ts.length), w.cell? ⟨g, i * 2, none⟩ = some (.int .u32 (ts[i].1 : Int)) ∧ w.cell? ⟨g, i * 2 + 1, none⟩ = some (.int .u32 (ts[i].2 : Int))
theorem StAt.block {w w' : World} {g : Nat} {ts : List (Nat × Nat)} (h : StAt w g ts) (hb : w'.heap[g]? = w.heap[g]?) : StAt w' g ts := fun i hi => by
 have e : ∀ j, w'.cell? ⟨g, j, none⟩ = w.cell? ⟨g, j, none⟩ := fun j => by simp only [World.cell?]; rw [hb]
 rw [e, e]; exact h i hi
def RiseS (ts : List (Nat × Nat)) : Prop := ∀ i j (hi : i < j) (hj : j < ts.length), (ts[i]'(by omega)).2 ≤ ts[j].2
set_option maxHeartbeats 1000000 in
theorem sortL (g cap base : Nat) (ts : List (Nat × Nat)) (w : World) (hown : w.ownsRow base 120 2 (.slice (some ⟨g, 0, none⟩) ts.length cap) ts.length (stRow ts)) (hl : ts.length ≤ 1000) :
  Calls Tryz.prog 94 #[.slice (some ⟨g, 0, none⟩) ts.length cap, .func (.func 95) #[] #[]] w fun e w' => e = .returned (.tuple #[]) ∧ ∃ ts', ts'.Perm ts ∧ RiseS ts' ∧ StAt w' g ts' ∧ But w.heap.size g w w' := by
 rcases hown.2 with ⟨h, _⟩ | ⟨g', cap', cur, hv, hbg, hg, h1, h2, h3, h4⟩
 ·cases h
 ·obtain ⟨rfl, rfl⟩ : g = g' ∧ cap = cap' := by simp at hv; exact hv
  have hlt : g < w.heap.size := (Array.getElem?_eq_some_iff.1 hg).1
  have hc : ∀ j, w.cell? ⟨g, j, none⟩ = cur[j]? := fun j => by simp [World.cell?, hg]
  have hz : ∀ j, w.frozen? ⟨g, j, none⟩ = false := fun j => by simp [World.frozen?, hg]
  have hH : HoldsK encSt 2 w g 0 ts.toArray := fun j hj => by
   rw [size_flatK] at hj
   simp only [List.size_toArray] at hj
   rw [get_flatK _ _ _ _ (by simpa using hj)]
   refine ⟨?_, hz _⟩
   rw [hc, Nat.zero_add]
   have e1 : cur[j]? = (stRow ts)[j]? := by
    rw [← h4, List.getElem?_take_of_lt hj, Array.getElem?_toList]
   have hi : j / 2 < ts.length := by omega
   rw [e1, show j = j / 2 * 2 + j % 2 by omega, stRow_get ts (j / 2) (j % 2) hi (by omega)]
   have e2 : (j / 2 * 2 + j % 2) / 2 = j / 2 := by omega
   have e3 : (j / 2 * 2 + j % 2) % 2 = j % 2 := by omega
   rw [e2, e3]
   have e4 : ts.toArray[j / 2]! = ts[j / 2] := by simp [hi]
   rw [e4]
   have : j % 2 = 0 ∨ j % 2 = 1 := by omega
   rcases this with h | h <;> rw [h] <;> rfl
  have K := sort94 g 0 cap ts.toArray w hH hlt (by simp; omega)
  simp only [List.size_toArray] at K
  refine K.mono ?_
  rintro e w' ⟨rfl, d', n, os, hp, hs, rfl⟩
  obtain ⟨p1, p2, p3⟩ := hp
  simp only [List.size_toArray] at p1
  have hpe : d'.toList.Perm ts := by
   have : d'.extract 0 ts.length = d' := by rw [← p1]; simp
   rw [this] at p3
   simpa using p3
  have hln : d'.toList.length = ts.length := by simpa using p1
  have hHd : HoldsK encSt 2 (sortWorldK encSt 2 w g 0 n d' os) g 0 d' := holdsK_grow encSt 2 _ os g 0 d' (by simpa [putRowK, Sort.ahead] using hlt) (holdsK_putRowK encSt 2 _ g 0 ts.toArray d' (holdsK_ahead encSt 2 w n g 0 _ hH) (by simpa using p1))
  refine ⟨rfl, d'.toList, hpe, ?_, ?_, ?_⟩
  ·intro i j hij hj
   have hj' : j < ts.length := by omega
   have h := hs i j (Nat.zero_le _) hij hj'
   rw [ltSt] at h
   have ei : d'[i]! = d'.toList[i]'(by omega) := by rw [getElem!_pos d' i (by omega)]; simp
   have ej : d'[j]! = d'.toList[j] := by rw [getElem!_pos d' j (by omega)]; simp
   rw [ei, ej] at h
   simpa using h
  ·intro i hi
   have hi' : i < d'.size := by simpa using hi
   have c0 := (hHd.cell (i := i) (c := 0) hi' (by decide)).1
   have c1 := (hHd.cell (i := i) (c := 1) hi' (by decide)).1
   have ei : d'[i]! = d'.toList[i] := by rw [getElem!_pos d' i hi']; simp
   rw [ei] at c0 c1
   rw [Nat.zero_add] at c0 c1
   exact ⟨c0, c1⟩
  ·refine ⟨rfl, rfl, rfl, ?_, fun k hk hne => ?_⟩
   ·simp [sortWorldK, grow, putRowK, Sort.ahead]
   ·simp only [sortWorldK, grow, putRowK, putRow, mapBlock]
    rw [Array.getElem?_append_left (by simpa [Sort.ahead] using hk), Array.getElem?_modify, if_neg (Ne.symm hne)]
    rfl
end Go.Proofs.YtkpmkgkfpikpfaaGreat
