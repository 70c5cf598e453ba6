/- What is proved here: a segment that cannot be; what is taken off a file. -/
import Derived.Test.YthhallhmolgpbaaSm
namespace Go.Proofs.Ythhallhmolgpbaa
open Go.RowKit
set_option linter.unusedVariables false
set_option linter.unusedSimpArgs false
set_option maxRecDepth 100000
def Sg.val (g : Sg) : Value := .agg #[.int .i64 (g.kind : Int), .int .u32 (g.off : Int), .int .u32 (g.at_ : Int), .int .u32 (g.size : Int), .int .u32 (g.room : Int), .int .i64 (g.prot : Int), .int .u32 (g.align : Int)]
def Sg.cells (g : Sg) : List Value := [.int .i64 (g.kind : Int), .int .u32 (g.off : Int), .int .u32 (g.at_ : Int), .int .u32 (g.size : Int), .int .u32 (g.room : Int), .int .i64 (g.prot : Int), .int .u32 (g.align : Int)]
/-- A new block of seven cells. -/
theorem box7 (w : World) (g : Sg) : ∃ W, w.alloc (.cells #[.int .i64 (g.kind : Int), .int .u32 (g.off : Int), .int .u32 (g.at_ : Int), .int .u32 (g.size : Int), .int .u32 (g.room : Int), .int .i64 (g.prot : Int), .int .u32 (g.align : Int)] 39) = W ∧ Below w.heap.size w W ∧ W.heap.size = w.heap.size + 1 ∧
    (W.cell? ⟨w.heap.size, 0, none⟩ = some (.int .i64 (g.kind : Int)) ∧ W.cell? ⟨w.heap.size, 1, none⟩ = some (.int .u32 (g.off : Int)) ∧ W.cell? ⟨w.heap.size, 2, none⟩ = some (.int .u32 (g.at_ : Int)) ∧ W.cell? ⟨w.heap.size, 3, none⟩ = some (.int .u32 (g.size : Int)) ∧ W.cell? ⟨w.heap.size, 4, none⟩ = some (.int .u32 (g.room : Int)) ∧ W.cell? ⟨w.heap.size, 5, none⟩ = some (.int .i64 (g.prot : Int)) ∧ W.cell? ⟨w.heap.size, 6, none⟩ = some (.int .u32 (g.align : Int))) := by
  refine ⟨_, rfl, (Below.refl _ _).alloc (Nat.le_refl _) _, by simp, ?_, ?_, ?_, ?_, ?_, ?_, ?_⟩ <;> exact cell_newA _ _ _ _ _ _ rfl rfl
theorem bt_len (p : ByteArray) : p.toList.length = p.size := by rw [ByteArray.toList_eq]; rfl
theorem bal (l : L8) : (⟨l.toArray⟩ : ByteArray).toList = l := by rw [ByteArray.toList_eq]
theorem ext_list (p : ByteArray) (f k : Nat) : p.extract f k = ⟨((p.toList.take k).drop f).toArray⟩ := by
  rw [ByteArray.toList_eq]
  have h : (p.extract f k).data = p.data.extract f k := ByteArray.data_extract
  have e : (p.data.extract f k).toList = (p.data.toList.take k).drop f := by
    rw [Array.toList_extract, List.extract_eq_drop_take']
  have : p.extract f k = ⟨(p.extract f k).data⟩ := rfl
  rw [this, h, ← e]
theorem grown_of {w w' : World} {row : Option Nat} (hb : Below w.heap.size w w') : w.grownBy w' row := ⟨hb.os, hb.tape, hb.output, hb.size, fun k hk _ => hb.block k hk⟩
theorem gb_trans {a b c : World} {row : Option Nat} (h : a.grownBy b row) (k : b.grownBy c row) : a.grownBy c row := ⟨k.os.trans h.os, k.tape.trans h.tape, k.output.trans h.output, Nat.le_trans h.size k.size, fun i hi hr => (k.block i (Nat.lt_of_lt_of_le hi h.size) hr).trans (h.block i hi hr)⟩
theorem gb_refl (a : World) (row : Option Nat) : a.grownBy a row := grown_of (Below.refl _ _)
theorem grown_set (w : World) (b : Nat) (v : Value) : w.grownBy (w.setCell ⟨b, 0, none⟩ v) (some b) :=
  ⟨rfl, rfl, rfl, (KeepsWalks.setCell w _ v).size, fun j _ hk => Below.heap_setCell _ _ _ j (fun e => hk (by rw [e]))⟩
/-- The reader's block: what is left of the file. -/
abbrev Rd (R : Nat) (w : World) (l : L8) : Prop := Boxed w R 48 (.string ⟨l.toArray⟩)
set_option maxHeartbeats 1000000 in
theorem take35_ok (R : Nat) (l : L8) (n : Nat) (hn : n ≤ l.length) (hl : l.length ≤ 1000000) (w : World) (hr : Rd R w l) :
    Calls Try.prog 35 #[.pointer (some ⟨R, 0, none⟩), .int .i64 (n : Int)] w fun e w' => e = .returned (.string ⟨(l.take n).toArray⟩) ∧ Rd R w' (l.drop n) ∧ w.grownBy w' (some R) := by
  obtain ⟨S, hS⟩ : ∃ S : ByteArray, S = ⟨l.toArray⟩ := ⟨_, rfl⟩
  have hSl : S.toList = l := by rw [hS]; exact bal l
  have hsz : S.size = l.length := by rw [← hSl, bt_len]
  have c0 : w.cell? ⟨R, 0, none⟩ = some (.string S) := by rw [hS]; exact hr.cell
  have z0 := hr.frozen
  have hx : S.extract 0 n = ⟨(l.take n).toArray⟩ := by rw [ext_list, hSl, List.drop_zero]
  have hy : S.extract n S.size = ⟨(l.drop n).toArray⟩ := by rw [ext_list, hSl, hsz, List.take_length]
  have HE : Hid (Rd R (w.setCell ⟨R, 0, none⟩ (.string ⟨(l.drop n).toArray⟩)) (l.drop n) ∧ w.grownBy (w.setCell ⟨R, 0, none⟩ (.string ⟨(l.drop n).toArray⟩)) (some R)) := ⟨Boxed.set _ hr, grown_set _ _ _⟩
  have hn' : n ≤ S.size := by omega
  have hm : S.size ≤ 1000000 := by omega
  have hi : (n : Int) ≤ (S.size : Int) := by omega
  have hng : ¬ ((S.size : Int) < (n : Int)) := by omega
  generalize (⟨(l.take n).toArray⟩ : ByteArray) = X at hx ⊢
  generalize (⟨(l.drop n).toArray⟩ : ByteArray) = Y at hy HE ⊢
  clear hr hS hSl hsz hn hl
  go_enter Try.func35, Try.ntmps35
  go_wp2
  go_ret
  exact ⟨rfl, HE.out⟩
theorem take35_no (R : Nat) (l : L8) (n : Nat) (hn : l.length < n) (hl : l.length ≤ 1000000) (w : World) (hr : Rd R w l) :
    Calls Try.prog 35 #[.pointer (some ⟨R, 0, none⟩), .int .i64 (n : Int)] w fun e w' => e = .panicked (thrown 101) ∧ w' = w := by
  obtain ⟨S, hS⟩ : ∃ S : ByteArray, S = ⟨l.toArray⟩ := ⟨_, rfl⟩
  have hSl : S.toList = l := by rw [hS]; exact bal l
  have hsz : S.size = l.length := by rw [← hSl, bt_len]
  have c0 : w.cell? ⟨R, 0, none⟩ = some (.string S) := by rw [hS]; exact hr.cell
  have hi : (S.size : Int) < (n : Int) := by omega
  clear hr hS hSl hsz hn hl
  go_enter Try.func35, Try.ntmps35
  go_wp2
  exact ⟨rfl, rfl, rfl⟩
theorem beS_take (l : L8) (n : Nat) (h : n ≤ 8) : W.beS ⟨(l.take n).toArray⟩ = W.beL (l.take n) := by
  unfold W.beS
  rw [if_pos]
  show (l.take n).toArray.size ≤ 8
  simp; omega
theorem half49 (R : Nat) (l : L8) (hn : 2 ≤ l.length) (hl : l.length ≤ 1000000) (w : World) (hr : Rd R w l) :
    Calls Try.prog 49 #[.pointer (some ⟨R, 0, none⟩)] w fun e w' => e = .returned (.int .u32 (hf l 0 : Int)) ∧ Rd R w' (l.drop 2) ∧ w.grownBy w' (some R) := by
  have K := take35_ok R l 2 hn hl w hr
  have KB : Hid (∀ w', Calls Try.prog 54 #[.string ⟨(l.take 2).toArray⟩] w' fun e w'' => e = .returned (.int .u64 (hf l 0 : Int)) ∧ Below w'.heap.size w' w'') := fun w' => by
    have := W.be_any ⟨(l.take 2).toArray⟩ w'
    rw [beS_take _ _ (by decide)] at this
    exact this
  have hlt := hf_lt l 0
  have hw : (hf l 0 : Int) % 4294967296 = (hf l 0 : Int) := by omega
  generalize hf l 0 = V at KB hw ⊢
  generalize (⟨(l.take 2).toArray⟩ : ByteArray) = X at K KB ⊢
  clear hr hn hl hlt
  go_enter Try.func49, Try.ntmps49
  go_wp2_with fail
  refine K.mono ?_
  rintro e w1 ⟨rfl, hr1, hg1⟩
  clear K
  have HR : Hid (Rd R w1 (l.drop 2) ∧ w.grownBy w1 (some R)) := ⟨hr1, hg1⟩
  clear hr1 hg1
  go_wp2_with fail
  refine (KB.out w1).mono ?_
  rintro e w2 ⟨rfl, hb2⟩
  go_wp2
  go_ret
  exact ⟨rfl, HR.out.1.kept (grown_of (row := none) hb2) (by simp), gb_trans HR.out.2 (grown_of hb2)⟩
theorem word51 (R : Nat) (l : L8) (hn : 4 ≤ l.length) (hl : l.length ≤ 1000000) (w : World) (hr : Rd R w l) :
    Calls Try.prog 51 #[.pointer (some ⟨R, 0, none⟩)] w fun e w' => e = .returned (.int .u32 (wd l 0 : Int)) ∧ Rd R w' (l.drop 4) ∧ w.grownBy w' (some R) := by
  have K := take35_ok R l 4 hn hl w hr
  have KB : Hid (∀ w', Calls Try.prog 54 #[.string ⟨(l.take 4).toArray⟩] w' fun e w'' => e = .returned (.int .u64 (wd l 0 : Int)) ∧ Below w'.heap.size w' w'') := fun w' => by
    have := W.be_any ⟨(l.take 4).toArray⟩ w'
    rw [beS_take _ _ (by decide)] at this
    exact this
  have hlt := wd_lt l 0
  have hw : (wd l 0 : Int) % 4294967296 = (wd l 0 : Int) := by omega
  generalize wd l 0 = V at KB hw ⊢
  generalize (⟨(l.take 4).toArray⟩ : ByteArray) = X at K KB ⊢
  clear hr hn hl hlt
  go_enter Try.func51, Try.ntmps51
  go_wp2_with fail
  refine K.mono ?_
  rintro e w1 ⟨rfl, hr1, hg1⟩
  clear K
  have HR : Hid (Rd R w1 (l.drop 4) ∧ w.grownBy w1 (some R)) := ⟨hr1, hg1⟩
  clear hr1 hg1
  go_wp2_with fail
  refine (KB.out w1).mono ?_
  rintro e w2 ⟨rfl, hb2⟩
  go_wp2
  go_ret
  exact ⟨rfl, HR.out.1.kept (grown_of (row := none) hb2) (by simp), gb_trans HR.out.2 (grown_of hb2)⟩
theorem skip50_ok (R : Nat) (l x : L8) (hx : l.take x.length = x) (hn : x.length ≤ l.length) (hl : l.length ≤ 1000000) (w : World) (hr : Rd R w l) :
    Calls Try.prog 50 #[.pointer (some ⟨R, 0, none⟩), .string ⟨x.toArray⟩] w fun e w' => e = .returned (.tuple #[]) ∧ Rd R w' (l.drop x.length) ∧ w.grownBy w' (some R) := by
  have K := take35_ok R l x.length hn hl w hr
  rw [hx] at K
  have hsz : ((⟨x.toArray⟩ : ByteArray).size : Int) = (x.length : Int) := by show ((x.toArray.size : Nat) : Int) = _; simp
  have hq : ∀ X : ByteArray, (X.toList == X.toList) = true := fun X => beq_self_eq_true _
  have M : Hid (∀ w', Calls Try.prog 38 #[.bool true] w' fun e w'' => e = .returned (.tuple #[]) ∧ w'' = w') := must38_ok
  generalize l.drop x.length = Y at K ⊢
  generalize x.length = n at K hsz
  generalize (⟨x.toArray⟩ : ByteArray) = X at K hsz ⊢
  clear hr hn hl hx
  go_enter Try.func50, Try.ntmps50
  go_wp2_with fail
  refine K.mono ?_
  rintro e w1 ⟨rfl, hr1, hg1⟩
  have HR : Hid (Rd R w1 Y ∧ w.grownBy w1 (some R)) := ⟨hr1, hg1⟩
  clear hr1 hg1 K
  go_wp2_with fail
  refine (M.out w1).mono ?_
  rintro e w2 ⟨rfl, rfl⟩
  go_wp2
  simp [bodyPost, results, Try.results50]
  exact HR.out
theorem skip50_no (R : Nat) (l x : L8) (hx : l.take x.length ≠ x) (hn : x.length ≤ l.length) (hl : l.length ≤ 1000000) (w : World) (hr : Rd R w l) :
    Calls Try.prog 50 #[.pointer (some ⟨R, 0, none⟩), .string ⟨x.toArray⟩] w fun e w' => e = .panicked (thrown 103) ∧ w.grownBy w' (some R) := by
  have K := take35_ok R l x.length hn hl w hr
  have hsz : ((⟨x.toArray⟩ : ByteArray).size : Int) = (x.length : Int) := by show ((x.toArray.size : Nat) : Int) = _; simp
  have hq : ((⟨(l.take x.length).toArray⟩ : ByteArray).toList == (⟨x.toArray⟩ : ByteArray).toList) = false := by rw [bal, bal]; simpa using hx
  have M : Hid (∀ w', Calls Try.prog 38 #[.bool false] w' fun e w'' => e = .panicked (thrown 103) ∧ w'' = w') := must38_no
  generalize l.drop x.length = Y at K
  generalize (⟨(l.take x.length).toArray⟩ : ByteArray) = Z at K hq
  generalize x.length = n at K hsz
  generalize (⟨x.toArray⟩ : ByteArray) = X at hsz hq ⊢
  clear hr hn hl hx
  go_enter Try.func50, Try.ntmps50
  go_wp2_with fail
  refine K.mono ?_
  rintro e w1 ⟨rfl, hr1, hg1⟩
  have HR : Hid (w.grownBy w1 (some R)) := hg1
  clear hr1 hg1 K
  go_wp2_with fail
  refine (M.out w1).mono ?_
  rintro e w2 ⟨rfl, rfl⟩
  exact ⟨rfl, rfl, HR.out⟩
end Go.Proofs.Ythhallhmolgpbaa
