/- What is proved here: stretches are sorted by their ends. -/
import Derived.Test.YtkpmkgkfpikpfaaGreatSq
import Derived.Test.YtkpmkgkfpikpfaaGreatGs
import Derived.Shelf.SlSortCmp.WholeK
namespace Go.Proofs.YtkpmkgkfpikpfaaGreat
open Go.RowKit Go.Shelf Go.Lib Go.Sort
set_option linter.unusedVariables false
set_option linter.unusedSimpArgs false
set_option maxRecDepth 100000
/-- A stretch's two cells. -/
def encSt (x : Nat × Nat) : List Value := [.int .u32 (x.1 : Int), .int .u32 (x.2 : Int)]
def cmpSt (x y : Nat × Nat) : Int := cmpN x.2 y.2
theorem ltSt (x y : Nat × Nat) : ltOf cmpSt x y = decide (x.2 < y.2) := by
  unfold ltOf cmpSt cmpN
  by_cases h1 : x.2 < y.2
  · simp [h1]
  · by_cases h2 : y.2 < x.2 <;> simp [h1, h2]
theorem swoSt : SWO (ltOf cmpSt) where
  irrefl x := by rw [ltSt]; simp
  trans x y z h1 h2 := by rw [ltSt] at *; simp at *; omega
  ntrans x y z h1 h2 := by rw [ltSt] at *; simp at *; omega
set_option maxHeartbeats 1000000 in
theorem closure95 (x y : Nat × Nat) (W : World) : Calls Tryz.prog 95 #[.agg #[.int .u32 (x.1 : Int), .int .u32 (x.2 : Int)], .agg #[.int .u32 (y.1 : Int), .int .u32 (y.2 : Int)]] W fun e w' => e = .returned (.int .i64 (cmpSt x y)) ∧ ∃ q os', w' = grow (W.drewN q) os' := by
  have hcon := fun W' => compare64 x.2 y.2 W'
  obtain ⟨r, hr⟩ : ∃ z, z = cmpN x.2 y.2 := ⟨_, rfl⟩
  rw [← hr] at hcon
  have HR : Hid (cmpSt x y = r) := hr.symm
  obtain ⟨x1, x2⟩ := x
  obtain ⟨y1, y2⟩ := y
  clear hr
  simp only at hcon ⊢
  go_enter Tryz.func95, Tryz.ntmps95
  go_wp2_with (go_at_call 96; refine (hcon _).mono ?_; rintro e w' ⟨rfl, rfl⟩)
  go_ret
  exact ⟨by rw [HR.out]; rfl, 0, _, by rw [alloc_eq_grow, alloc_eq_grow, grow_grow]; rfl⟩
theorem sort94 (blk off cap : Nat) (d : Array (Nat × Nat)) (w : World) (hH : HoldsK encSt 2 w blk off d) (hblk : blk < w.heap.size) (hsz : d.size < 4611686018427387904) :
    Calls Tryz.prog 94 #[.slice (some ⟨blk, off, none⟩) d.size cap, .func (.func 95) #[] #[]] w fun e w' => e = .returned (.tuple #[]) ∧ ∃ d' n os, PermIn 0 d.size d d' ∧ SortedIn (ltOf cmpSt) 0 d.size d' ∧ w' = sortWorldK encSt 2 w blk off n d' os := by
  have eg : ∀ args w, (callFunc 95 args).run Tryz.prog w = .ok (.enter 95 args) w := enters_of Tryz.func95 (by kernel_rfl) rfl
  exact AnyQ.slices_SortFunc sortSt 2 Tryz.isAgg120 Tryz.sizeOf120 encSt (fun _ => rfl) (fun x v hv => by simp [encSt] at hv; rcases hv with rfl | rfl <;> rfl) cmpSt swoSt 95 #[] blk off cap d w eg (fun _ _ _ _ x y => closure95 x y _) hH hblk hsz
end Go.Proofs.YtkpmkgkfpikpfaaGreat
