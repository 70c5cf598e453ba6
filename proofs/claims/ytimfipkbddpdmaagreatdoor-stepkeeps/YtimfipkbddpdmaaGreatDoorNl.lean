import Derived.Test.YtimfipkbddpdmaaGreatDoorNc
import Derived.Test.YtimfipkbddpdmaaGreatDoorNk
set_option linter.unusedVariables false
set_option linter.unusedSimpArgs false
set_option maxRecDepth 100000
open Go Go.RowKit
namespace Go.Proofs.YtimfipkbddpdmaaGreatDoor
def nwC (pc : Nat) : Cp := ⟨List.replicate 32 0, 0, 0, pc, pc + 4, false, 0, false⟩
theorem nwC_len (pc : Nat) : (nwC pc).r.length = 32 := rfl
theorem built25 (pc : Nat) : Tryz.prog.built 25 [(3, .int .u32 pc), (4, .int .u32 ((pc + 4 : Nat) : Int))] = some (nwC pc).cells.toArray := by kernel_rfl
theorem allocC (w : World) : ∃ z, w.alloc (.cells #[.int .u32 0, .int .u32 0, .int .u32 0, .int .u32 0, .int .u32 0, .int .u32 0, .int .u32 0, .int .u32 0, .int .u32 0, .int .u32 0, .int .u32 0, .int .u32 0, .int .u32 0, .int .u32 0, .int .u32 0, .int .u32 0, .int .u32 0, .int .u32 0, .int .u32 0, .int .u32 0, .int .u32 0, .int .u32 0, .int .u32 0, .int .u32 0, .int .u32 0, .int .u32 0, .int .u32 0, .int .u32 0, .int .u32 0, .int .u32 0, .int .u32 0, .int .u32 0, .int .u32 0, .int .u32 0, .int .u32 0, .int .u32 0, .bool false, .int .u32 0, .bool false] 25) = z /\ Below w.heap.size w z /\ z.heap.size = w.heap.size + 1 /\ Cb c00 w.heap.size z :=
 ⟨_, rfl, (Below.refl _ _).alloc (Nat.le_refl _) _, by simp, heap_alloc_new w _⟩
theorem cb_set {c c' : Cp} {n k : Nat} {w : World} {v : Value} (h : Cb c n w) (e : c.cells.set k v = c'.cells) : Cb c' n (w.setCell ⟨n, k, none⟩ v) := by
 have := blk_set h k v
 rw [List.setIfInBounds_toArray, e] at this
 exact this
theorem cb_setRow {c c' : Cp} {n : Nat} {w : World} (h : Cb c n w) : Cb c' n (w.setRow n c'.cells.toArray) := setRow_heap w n _ _ 25 _ h
set_option maxHeartbeats 4000000 in
theorem new19 (pc : Nat) (hp : pc + 4 < 4294967296) (w : World) : Calls Tryz.prog 19 #[.int .u32 pc, .int .u32 0] w fun e w' => e = .returned (.agg (nwC pc).cells.toArray) /\ Below w.heap.size w w' := by
 obtain ⟨W, hW, b0, s0, kA⟩ := allocC w
 obtain ⟨W2, hW2, b1, s1, kB⟩ := allocC W
 have kA2 : Cb c00 w.heap.size W2 := kA.keep b1
 have hb := below_tr b0 b1
 have e4 : IntKind.u32.wrap ((pc : Int) + 4) = ((pc + 4 : Nat) : Int) := by rw [IntKind.wrap_u32]; omega
 have HB : Tryz.prog.built 25 [(3, .int .u32 pc), (4, .int .u32 ((pc : Int) + 4))] = some (nwC pc).cells.toArray := built25 pc
 have G3 := grown_setRow W2 W.heap.size (nwC pc).cells.toArray
 have k3 : Cb (nwC pc) W.heap.size (W2.setRow W.heap.size (nwC pc).cells.toArray) := cb_setRow kB
 have m3 : Cb c00 w.heap.size (W2.setRow W.heap.size (nwC pc).cells.toArray) := blk_row kA2 G3 (by omega)
 have b3 := Gm.below_tr hb (Below.refl W2.heap.size W2)
 have b3 := below_row hb G3 (by omega)
 obtain ⟨W3, hW3⟩ : ∃ z, W2.setRow W.heap.size (nwC pc).cells.toArray = z := ⟨_, rfl⟩
 rw [hW3] at k3 m3 b3
 have k4 : Cb (nwC pc) W.heap.size (W3.setCell ⟨W.heap.size, 29, none⟩ (.int .u32 0)) := cb_set k3 rfl
 have G4 := grown_setk W3 W.heap.size 29 (.int .u32 0)
 have m4 : Cb c00 w.heap.size (W3.setCell ⟨W.heap.size, 29, none⟩ (.int .u32 0)) := blk_row m3 G4 (by omega)
 have b4 := below_row b3 G4 (by omega)
 obtain ⟨W4, hW4⟩ : ∃ z, W3.setCell ⟨W.heap.size, 29, none⟩ (.int .u32 0) = z := ⟨_, rfl⟩
 rw [hW4] at k4 m4 b4
 have k5 : Cb (nwC pc) w.heap.size (W4.setRow w.heap.size (nwC pc).cells.toArray) := cb_setRow m4
 have b5 := below_row b4 (grown_setRow W4 w.heap.size (nwC pc).cells.toArray) (Nat.le_refl _)
 have c29 : W3.cell? ⟨W.heap.size, 29, none⟩ = some (.int .u32 0) := k3.reg 29 (by rw [nwC_len]; decide)
 have z29 : W3.frozen? ⟨W.heap.size, 29, none⟩ = false := by
  have h' : W3.heap[W.heap.size]? = _ := k3
  simp [World.frozen?, h']
 have HE : Hid (Cb (nwC pc) w.heap.size (W4.setRow w.heap.size (nwC pc).cells.toArray) /\ Below w.heap.size w (W4.setRow w.heap.size (nwC pc).cells.toArray) /\ Cb (nwC pc) W.heap.size W4 /\ Cb c00 w.heap.size W4 /\ Cb c00 W.heap.size W2) := ⟨k5, b5, k4, m4, kB⟩
 clear b0 s0 kA b1 s1 kB kA2 hb G3 k3 m3 b3 k4 G4 m4 b4 k5 b5 hp
 go_enter Tryz.func19, Tryz.ntmps19
 go_upto_region 1 with fail
 refine wp_region_list ?_
 refine BigFrame.wpList_want (by kernel_rfl) fun K hK => ?_
 simp [go_sem]
 refine hK _ _ ?_
 clear hK K
 refine BigFrame.wpList_want (by kernel_rfl) fun K hK => ?_
 simp [go_sem]
 refine hK _ _ ?_
 clear hK K
 refine BigFrame.wpList_want (by kernel_rfl) fun K hK => ?_
 simp [go_sem, e4]
 refine hK _ _ ?_
 clear hK K
 refine wpList_build rfl 25 _ rfl (by simp [Act.eval]; exact Option.isSome_iff_exists.2 ⟨_, HB⟩) ?_
 have HB' : ∀ (a : Act), a.eval (.tmp 6) = .int .u32 pc -> a.eval (.tmp 8) = .int .u32 ((pc : Int) + 4) -> (Tryz.prog.built 25 ((#[(3, Operand.tmp 6), (4, Operand.tmp 8)] : Array (Nat × Operand)).map fun (i, x) => (i, a.eval x)).toList).getD #[] = (nwC pc).cells.toArray := fun a h h' => by
  simp only [List.map_toArray, List.map_cons, List.map_nil, h, h']
  rw [HB]; rfl
 rw [HB' _ (by simp [Act.eval]) (by simp [Act.eval])]
 clear HB'
 simp only [Act.put]
 refine BigFrame.wpList_want (by kernel_rfl) fun K hK => ?_
 simp [go_sem]
 refine hK _ _ ?_
 clear hK K
 rw [hW2]
 refine wpList_store_row rfl 25 (.tmp 5) (.tmp 9) rfl W.heap.size (nwC pc).cells.toArray (by simp [Act.eval]) (by simp [Act.eval]) 25 _ HE.out.2.2.2.2 (size25 (nwC pc) (nwC_len pc)) (by rw [List.size_toArray, List.size_toArray, cells_len _ (nwC_len pc), cells_len _ c00_len]) (one_c (nwC pc)) ?_
 simp only [Act.put]
 rw [hW3]
 refine wpList_nil ?_
 go_upto_region 3 with fail
 refine wp_region_list ?_
 refine wpList_load_row rfl 25 (.tmp 5) rfl W.heap.size (by simp [Act.eval]) 25 (nwC pc).cells.toArray (0, 0) _ HE.out.2.2.1 (by rfl) (by rfl) (size25 (nwC pc) (nwC_len pc)) ?_
 simp only [Act.put]
 refine wpList_store_row rfl 25 (.tmp 4) (.tmp 13) rfl w.heap.size (nwC pc).cells.toArray (by simp [Act.eval]) (by simp [Act.eval]) 25 _ HE.out.2.2.2.1 (size25 (nwC pc) (nwC_len pc)) (by rw [List.size_toArray, List.size_toArray, cells_len _ (nwC_len pc), cells_len _ c00_len]) (one_c (nwC pc)) ?_
 simp only [Act.put]
 refine wpList_nil ?_
 go_wp2
 (try simp only [Exit.inBlock, Exit.then])
 refine bodyPost_ret (v := .agg (nwC pc).cells.toArray) ?_ rfl ⟨rfl, HE.out.2.1⟩
 have r1 := loadC (nwC_len pc) HE.out.1
 simp [results, Tryz.results19, asAddr, r1]
end Go.Proofs.YtimfipkbddpdmaaGreatDoor
