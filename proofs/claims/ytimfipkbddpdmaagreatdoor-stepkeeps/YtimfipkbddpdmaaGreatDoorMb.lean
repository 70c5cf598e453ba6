import Derived.Test.YtimfipkbddpdmaaGreatDoorVals
import Derived.Laws.ResultCell
import Derived.BigRegion
set_option linter.unusedVariables false
set_option linter.unusedSimpArgs false
set_option maxRecDepth 100000
open Go Go.RowKit
namespace Go.Proofs.YtimfipkbddpdmaaGreatDoor
structure Cp where
 r : List Nat
 hi : Nat
 lo : Nat
 pc : Nat
 next : Nat
 slot : Bool
 link : Nat
 linked : Bool
structure Cp.Ok (c : Cp) : Prop where
 len : c.r.length = 32
 all : ∀ x ∈ c.r, x < 4294967296
 hi : c.hi < 4294967296
 lo : c.lo < 4294967296
 pc : c.pc < 4294967296
 next : c.next < 4294967296
 link : c.link < 4294967296
structure Gv where
 vm : Value
 vc : Value
 bs : Nat
 vp : Value
def Cp.tail (c : Cp) : List Value := [.int .u32 c.hi, .int .u32 c.lo, .int .u32 c.pc, .int .u32 c.next, .bool c.slot, .int .u32 c.link, .bool c.linked]
def Cp.regs (c : Cp) : List Value := c.r.map fun (x : Nat) => Value.int .u32 x
def Gv.cells (g : Gv) : List Value := [g.vm, g.vc, .int .u64 g.bs, g.vp]
def mcells (c : Cp) (g : Gv) : List Value := c.regs ++ (c.tail ++ g.cells)
def Mb (c : Cp) (g : Gv) (b : Nat) (w : World) : Prop := w.heap[b]? = some (.cells (mcells c g).toArray 66 (0, 0))
theorem Mb.lt {c : Cp} {g : Gv} {b : Nat} {w : World} (h : Mb c g b w) : b < w.heap.size := (Array.getElem?_eq_some_iff.1 h).1
theorem Mb.frozen {c : Cp} {g : Gv} {b : Nat} {w : World} (h : Mb c g b w) (k : Nat) : w.frozen? ⟨b, k, none⟩ = false := by
 have h' : w.heap[b]? = _ := h
 simp [World.frozen?, h']
theorem Mb.row {c : Cp} {g : Gv} {b : Nat} {w w' : World} {row : Option Nat} (h : Mb c g b w) (hg : w.grownBy w' row) (hr : some b ≠ row) : Mb c g b w' := (hg.block b h.lt hr).trans h
theorem Mb.keep {c : Cp} {g : Gv} {b : Nat} {w w' : World} (h : Mb c g b w) (hb : Below w.heap.size w w') : Mb c g b w' := (hb.block b h.lt).trans h
theorem Mb.at_ {c : Cp} {g : Gv} {b : Nat} {w : World} (h : Mb c g b w) (k : Nat) {v : Value} (hv : (mcells c g)[k]? = some v) : w.cell? ⟨b, k, none⟩ = some v := by
 have h' : w.heap[b]? = _ := h
 simp [World.cell?, h', hv]
theorem mc_reg (c : Cp) (g : Gv) (k : Nat) (hk : k < c.r.length) : (mcells c g)[k]? = some (.int .u32 (c.r[k] : Int)) := by
 unfold mcells Cp.regs
 rw [List.getElem?_append_left (by simpa using hk), List.getElem?_map, List.getElem?_eq_getElem hk]
 rfl
theorem mc_tail (c : Cp) (g : Gv) (hl : c.r.length = 32) (k : Nat) : (mcells c g)[32 + k]? = (c.tail ++ g.cells)[k]? := by
 unfold mcells
 rw [List.getElem?_append_right (by unfold Cp.regs; simp [hl])]
 unfold Cp.regs
 simp [hl]
theorem Mb.reg {c : Cp} {g : Gv} {b : Nat} {w : World} (h : Mb c g b w) (k : Nat) (hk : k < c.r.length) : w.cell? ⟨b, k, none⟩ = some (.int .u32 (c.r[k] : Int)) := h.at_ k (mc_reg c g k hk)
theorem Mb.fields {c : Cp} {g : Gv} {b : Nat} {w : World} (h : Mb c g b w) (hl : c.r.length = 32) : w.cell? ⟨b, 32, none⟩ = some (.int .u32 c.hi) /\ w.cell? ⟨b, 33, none⟩ = some (.int .u32 c.lo) /\ w.cell? ⟨b, 34, none⟩ = some (.int .u32 c.pc) /\ w.cell? ⟨b, 35, none⟩ = some (.int .u32 c.next) /\ w.cell? ⟨b, 36, none⟩ = some (.bool c.slot) /\ w.cell? ⟨b, 37, none⟩ = some (.int .u32 c.link) /\ w.cell? ⟨b, 38, none⟩ = some (.bool c.linked) /\ w.cell? ⟨b, 39, none⟩ = some g.vm /\ w.cell? ⟨b, 40, none⟩ = some g.vc /\ w.cell? ⟨b, 41, none⟩ = some (.int .u64 g.bs) /\ w.cell? ⟨b, 42, none⟩ = some g.vp := by
 have key : ∀ k v, (c.tail ++ g.cells)[k]? = some v -> w.cell? ⟨b, 32 + k, none⟩ = some v := fun k v hv => h.at_ _ (by rw [mc_tail c g hl]; exact hv)
 exact ⟨key 0 _ rfl, key 1 _ rfl, key 2 _ rfl, key 3 _ rfl, key 4 _ rfl, key 5 _ rfl, key 6 _ rfl, key 7 _ rfl, key 8 _ rfl, key 9 _ rfl, key 10 _ rfl⟩
theorem blk_set {w : World} {b : Nat} {cs : Array Value} {t : Nat} (h : w.heap[b]? = some (.cells cs t (0, 0))) (k : Nat) (v : Value) : (w.setCell ⟨b, k, none⟩ v).heap[b]? = some (.cells (cs.setIfInBounds k v) t (0, 0)) := by
 obtain ⟨hlt, hk⟩ := Array.getElem?_eq_some_iff.1 h
 show (w.heap.modify b _)[b]? = _
 rw [Array.getElem?_eq_getElem (by rw [Array.size_modify]; exact hlt), Array.getElem_modify_self, hk]
 simp
theorem Mb.put {c c' : Cp} {g g' : Gv} {b : Nat} {w : World} (h : Mb c g b w) (k : Nat) (v : Value) (e : (mcells c g).set k v = mcells c' g') : Mb c' g' b (w.setCell ⟨b, k, none⟩ v) := by
 have := blk_set h k v
 rw [List.setIfInBounds_toArray, e] at this
 exact this
theorem set_reg (c : Cp) (g : Gv) (k x : Nat) (hk : k < c.r.length) : (mcells c g).set k (.int .u32 x) = mcells { c with r := c.r.set k x } g := by
 unfold mcells Cp.regs
 rw [List.set_append_left _ _ (by simpa using hk), <- List.map_set]
 rfl
theorem set_tail (c : Cp) (g : Gv) (hl : c.r.length = 32) (k : Nat) (v : Value) : (mcells c g).set (32 + k) v = c.regs ++ (c.tail ++ g.cells).set k v := by
 unfold mcells
 rw [List.set_append_right _ _ (by unfold Cp.regs; simp [hl])]
 unfold Cp.regs
 simp [hl]
theorem Mb.setReg {c : Cp} {g : Gv} {b : Nat} {w : World} (h : Mb c g b w) (k x : Nat) (hk : k < c.r.length) : Mb { c with r := c.r.set k x } g b (w.setCell ⟨b, k, none⟩ (.int .u32 x)) := h.put k _ (set_reg c g k x hk)
theorem Mb.setHi {c : Cp} {g : Gv} {b : Nat} {w : World} (h : Mb c g b w) (hl : c.r.length = 32) (x : Nat) : Mb { c with hi := x } g b (w.setCell ⟨b, 32, none⟩ (.int .u32 x)) := h.put 32 _ ((set_tail c g hl 0 _).trans rfl)
theorem Mb.setLo {c : Cp} {g : Gv} {b : Nat} {w : World} (h : Mb c g b w) (hl : c.r.length = 32) (x : Nat) : Mb { c with lo := x } g b (w.setCell ⟨b, 33, none⟩ (.int .u32 x)) := h.put 33 _ ((set_tail c g hl 1 _).trans rfl)
theorem Mb.setPc {c : Cp} {g : Gv} {b : Nat} {w : World} (h : Mb c g b w) (hl : c.r.length = 32) (x : Nat) : Mb { c with pc := x } g b (w.setCell ⟨b, 34, none⟩ (.int .u32 x)) := h.put 34 _ ((set_tail c g hl 2 _).trans rfl)
theorem Mb.setNext {c : Cp} {g : Gv} {b : Nat} {w : World} (h : Mb c g b w) (hl : c.r.length = 32) (x : Nat) : Mb { c with next := x } g b (w.setCell ⟨b, 35, none⟩ (.int .u32 x)) := h.put 35 _ ((set_tail c g hl 3 _).trans rfl)
theorem Mb.setSlot {c : Cp} {g : Gv} {b : Nat} {w : World} (h : Mb c g b w) (hl : c.r.length = 32) (x : Bool) : Mb { c with slot := x } g b (w.setCell ⟨b, 36, none⟩ (.bool x)) := h.put 36 _ ((set_tail c g hl 4 _).trans rfl)
theorem Mb.setLink {c : Cp} {g : Gv} {b : Nat} {w : World} (h : Mb c g b w) (hl : c.r.length = 32) (x : Nat) : Mb { c with link := x } g b (w.setCell ⟨b, 37, none⟩ (.int .u32 x)) := h.put 37 _ ((set_tail c g hl 5 _).trans rfl)
theorem Mb.setLinked {c : Cp} {g : Gv} {b : Nat} {w : World} (h : Mb c g b w) (hl : c.r.length = 32) (x : Bool) : Mb { c with linked := x } g b (w.setCell ⟨b, 38, none⟩ (.bool x)) := h.put 38 _ ((set_tail c g hl 6 _).trans rfl)
theorem grown_of {w w' : World} {row : Option Nat} (hb : Below w.heap.size w w') : w.grownBy w' row := ⟨hb.os, hb.tape, hb.output, hb.size, fun k hk _ => hb.block k hk⟩
theorem gb_trans {a b c : World} {row : Option Nat} (h : a.grownBy b row) (k : b.grownBy c row) : a.grownBy c row := ⟨k.os.trans h.os, k.tape.trans h.tape, k.output.trans h.output, Nat.le_trans h.size k.size, fun i hi hr => (k.block i (Nat.lt_of_lt_of_le hi h.size) hr).trans (h.block i hi hr)⟩
theorem gb_refl (a : World) (row : Option Nat) : a.grownBy a row := grown_of (Below.refl _ _)
theorem grown_setk (w : World) (b k : Nat) (v : Value) : w.grownBy (w.setCell ⟨b, k, none⟩ v) (some b) :=
 ⟨rfl, rfl, rfl, Nat.le_of_eq (by show _ = (w.heap.modify b _).size; rw [Array.size_modify]), fun j _ hk => Below.heap_setCell _ _ _ j (fun e => hk (by rw [e]))⟩
def Cp.put (c : Cp) (k x : Nat) : Cp := if k = 0 then c else { c with r := c.r.set k x }
theorem Cp.put_ok {c : Cp} (h : c.Ok) (k x : Nat) (hx : x < 4294967296) : (c.put k x).Ok := by
 unfold Cp.put
 split
 ·exact h
 ·refine ⟨by simpa using h.len, fun y hy => ?_, h.hi, h.lo, h.pc, h.next, h.link⟩
  rcases List.mem_or_eq_of_mem_set hy with hy | rfl
  ·exact h.all y hy
  ·exact hx
set_option maxHeartbeats 1000000 in
theorem set80 (c : Cp) (g : Gv) (b k x : Nat) (hc : c.Ok) (hk : k < 32) (w : World) (h : Mb c g b w) :
  Calls Tryz.prog 80 #[.pointer (some ⟨b, 0, none⟩), .int .i64 k, .int .u32 x] w fun e w' => e = .returned (.tuple #[]) /\ Mb (c.put k x) g b w' /\ w.grownBy w' (some b) := by
 by_cases h0 : k = 0
 ·subst h0
  have e : c.put 0 x = c := by unfold Cp.put; rw [if_pos rfl]
  rw [e]
  have HM : Hid (Mb c g b w /\ w.grownBy w (some b)) := ⟨h, gb_refl _ _⟩
  clear h
  go_enter Tryz.func80, Tryz.ntmps80
  go_wp2
  simp [bodyPost, results, Tryz.results80]
  exact HM.out
 ·have e : c.put k x = { c with r := c.r.set k x } := by unfold Cp.put; rw [if_neg h0]
  rw [e]
  have hkl : k < c.r.length := by rw [hc.len]; exact hk
  have c0 := h.reg k hkl
  have z0 := h.frozen k
  have HM : Hid (Mb { c with r := c.r.set k x } g b (w.setCell ⟨b, k, none⟩ (.int .u32 x)) /\ w.grownBy (w.setCell ⟨b, k, none⟩ (.int .u32 x)) (some b)) := ⟨h.setReg k x hkl, grown_setk _ _ _ _⟩
  have hne : ¬ (k : Int) = 0 := by omega
  have hki : (k : Int) < 32 := by omega
  generalize c.r[k] = y at c0
  clear h e hkl
  go_enter Tryz.func80, Tryz.ntmps80
  go_wp2
  simp [bodyPost, results, Tryz.results80]
  exact HM.out
def Cp.on (c : Cp) : Cp := { c with pc := c.next, next := (c.next + 4) % 4294967296, slot := false }
theorem Cp.on_ok {c : Cp} (h : c.Ok) : c.on.Ok := ⟨h.len, h.all, h.hi, h.lo, h.next, Nat.mod_lt _ (by decide), h.link⟩
set_option maxHeartbeats 1000000 in
theorem goOn61 (c : Cp) (g : Gv) (b : Nat) (hc : c.Ok) (w : World) (h : Mb c g b w) :
  Calls Tryz.prog 61 #[.pointer (some ⟨b, 0, none⟩)] w fun e w' => e = .returned (.tuple #[]) /\ Mb c.on g b w' /\ w.grownBy w' (some b) := by
 obtain ⟨_, _, c34, c35, c36, _, _, _, _, _, _⟩ := h.fields hc.len
 have z34 := h.frozen 34
 have z35 := h.frozen 35
 have z36 := h.frozen 36
 obtain ⟨NX, hNX⟩ : ∃ n, n = (c.next + 4) % 4294967296 := ⟨_, rfl⟩
 have eW : IntKind.u32.wrap ((c.next : Int) + 4) = (NX : Int) := by rw [IntKind.wrap_u32]; omega
 have HM : Hid (Mb c.on g b (((w.setCell ⟨b, 34, none⟩ (.int .u32 c.next)).setCell ⟨b, 35, none⟩ (.int .u32 NX)).setCell ⟨b, 36, none⟩ (.bool false)).drew /\ w.grownBy (((w.setCell ⟨b, 34, none⟩ (.int .u32 c.next)).setCell ⟨b, 35, none⟩ (.int .u32 NX)).setCell ⟨b, 36, none⟩ (.bool false)).drew (some b)) := by
  have h1 := h.setPc hc.len c.next
  have h2 := h1.setNext hc.len NX
  have h3 := h2.setSlot hc.len false
  refine ⟨?_, gb_trans (gb_trans (gb_trans (grown_setk _ b 34 _) (grown_setk _ b 35 _)) (grown_setk _ b 36 _)) (grown_of (Below.refl _ _).drew)⟩
  have h4 := h3.keep (Below.refl _ _).drew
  rw [hNX] at h4 |-
  exact h4
 clear h hNX
 go_enter Tryz.func61, Tryz.ntmps61
 go_wp2
 go_region
 all_goals go_wp2
 all_goals simp [bodyPost, results, Tryz.results61]
 all_goals exact HM.out
structure Ev where
 kind : Int
 code : Nat
 at_ : Nat
 fk : Int
 fa : Nat
def Ev.val (e : Ev) : Value := .agg #[.int .i64 e.kind, .int .u32 e.code, .int .u32 e.at_, .int .i64 e.fk, .int .u64 e.fa]
abbrev thrownE (e : Ev) : List PanicEntry := [{ v := .iface 40 e.val, recovered := false }]
theorem aligned70_ok (a n : Nat) (hn : n ≠ 0) (h : a % n = 0) (w : World) : Calls Tryz.prog 70 #[.int .u32 a, .int .u32 n] w fun e w' => e = .returned (.tuple #[]) /\ w' = w := by
 have hn0 : ¬ (n : Int) = 0 := by omega
 have e : (a : Int).tmod (n : Int) = 0 := by rw [<- Int.ofNat_tmod, h]; rfl
 go_enter Tryz.func70, Tryz.ntmps70
 go_wp2
 simp [bodyPost, results, Tryz.results70]
theorem aligned70_no (a n : Nat) (hn : n ≠ 0) (h : a % n ≠ 0) (w : World) : Calls Tryz.prog 70 #[.int .u32 a, .int .u32 n] w fun e w' => e = .panicked (thrownE ⟨5, 0, a, 0, 0⟩) /\ w' = w := by
 have hn0 : ¬ (n : Int) = 0 := by omega
 have e : (a : Int).tmod (n : Int) = ((a % n : Nat) : Int) := by rw [<- Int.ofNat_tmod]
 obtain ⟨r, hr⟩ : ∃ r, r = a % n := ⟨_, rfl⟩
 rw [<- hr] at h e
 have hne : ¬ (r : Int) = 0 := by omega
 clear hr h
 go_enter Tryz.func70, Tryz.ntmps70
 go_wp2
 exact ⟨rfl, rfl, rfl⟩
theorem allowed72_ok (a : Nat) (w : World) : Calls Tryz.prog 72 #[.agg #[.int .i64 0, .int .u64 a]] w fun e w' => e = .returned (.tuple #[]) /\ Below w.heap.size w w' := by
 go_enter Tryz.func72, Tryz.ntmps72
 go_wp2
 simp [bodyPost, results, Tryz.results72]
 exact (Below.refl _ _).alloc (Nat.le_refl _) _
theorem allowed72_no (k : Int) (hk : k ≠ 0) (a : Nat) (w : World) : Calls Tryz.prog 72 #[.agg #[.int .i64 k, .int .u64 a]] w fun e w' => e = .panicked (thrownE ⟨6, 0, 0, k, a⟩) /\ Below w.heap.size w w' := by
 go_enter Tryz.func72, Tryz.ntmps72
 go_wp2
 exact ⟨rfl, rfl, (Below.refl _ _).alloc (Nat.le_refl _) _⟩
structure Wy where
 to : Nat
 goes : Bool
 link : Nat
def Wy.val (y : Wy) : Value := .agg #[.int .u32 y.to, .bool y.goes, .int .i64 y.link]
def Cp.turn (c : Cp) (y : Wy) : Cp := let d := (c.put y.link ((c.pc + 8) % 4294967296)).on; { d with slot := true, next := if y.goes then y.to else d.next }
theorem box3 (w : World) (a b c : Value) (t : Nat) : ∃ W, w.alloc (.cells #[a, b, c] t) = W /\ Below w.heap.size w W /\ W.heap.size = w.heap.size + 1 /\
  W.cell? ⟨w.heap.size, 0, none⟩ = some a /\ W.cell? ⟨w.heap.size, 1, none⟩ = some b /\ W.cell? ⟨w.heap.size, 2, none⟩ = some c := by
 refine ⟨_, rfl, (Below.refl _ _).alloc (Nat.le_refl _) _, by simp, ?_, ?_, ?_⟩ <;> exact cell_newA w _ _ _ _ _ rfl rfl
theorem row_cell {w w' : World} {a : Addr} {v : Value} {b : Nat} (hg : w.grownBy w' (some b)) (hc : w.cell? a = some v) (hne : a.block ≠ b) : w'.cell? a = some v :=
 (World.cell?_of_block (a := a) (hg.block a.block (World.block_lt_of_cell? w a hc) (by intro e; injection e with e; exact hne e))).trans hc
set_option maxHeartbeats 2000000 in
theorem turn59 (c : Cp) (g : Gv) (b : Nat) (y : Wy) (hc : c.Ok) (hl : y.link < 32) (w : World) (h : Mb c g b w) :
  Calls Tryz.prog 59 #[.pointer (some ⟨b, 0, none⟩), y.val] w fun e w' => e = .returned (.tuple #[]) /\ Mb (c.turn y) g b w' /\ w.grownBy w' (some b) := by
 obtain ⟨W, hW, hbl, hz, q0, q1, q2⟩ := box3 w (.int .u32 y.to) (.bool y.goes) (.int .i64 y.link) 114
 have hm := h.keep hbl
 obtain ⟨_, _, c34, _, _, _, _, _, _, _, _⟩ := hm.fields hc.len
 obtain ⟨PP, hPP⟩ : ∃ p, p = (c.pc + 8) % 4294967296 := ⟨_, rfl⟩
 have eW : IntKind.u32.wrap ((c.pc : Int) + 8) = (PP : Int) := by rw [IntKind.wrap_u32]; omega
 have eW2 : ((c.pc : Int) + 8) % 4294967296 = (PP : Int) := by omega
 have hlt := h.lt
 have hP := Cp.put_ok hc y.link PP (by omega)
 have HC : Hid (c.turn y = { (c.put y.link PP).on with slot := true, next := if y.goes then y.to else (c.put y.link PP).on.next }) := by show _ = _; rw [hPP]; rfl
 have K80 : Hid (∀ wx, Mb c g b wx -> Calls Tryz.prog 80 #[.pointer (some ⟨b, 0, none⟩), .int .i64 y.link, .int .u32 PP] wx fun e w' => e = .returned (.tuple #[]) /\ Mb (c.put y.link PP) g b w' /\ wx.grownBy w' (some b)) := fun wx hx => set80 c g b y.link PP hc hl wx hx
 have K61 : Hid (∀ wx, Mb (c.put y.link PP) g b wx -> Calls Tryz.prog 61 #[.pointer (some ⟨b, 0, none⟩)] wx fun e w' => e = .returned (.tuple #[]) /\ Mb (c.put y.link PP).on g b w' /\ wx.grownBy w' (some b)) := fun wx hx => goOn61 _ g b hP wx hx
 have HL : Hid (((c.put y.link PP).on).r.length = 32) := (Cp.on_ok hP).len
 have HW : Hid (w.grownBy W (some b) /\ Mb c g b W /\ b < w.heap.size) := ⟨grown_of hbl, hm, hlt⟩
 obtain ⟨D, hD⟩ : ∃ d, d = (c.put y.link PP).on := ⟨_, rfl⟩
 rw [<- hD] at HC K61 HL
 unfold Wy.val
 clear h hm hPP hP hD hbl hz hlt hc hl
 go_enter Tryz.func59, Tryz.ntmps59
 go_wp2
 refine wp_region_vals [.pointer (some ⟨b, 0, none⟩), .pointer (some ⟨w.heap.size, 2, none⟩), .int .i64 y.link, .pointer (some ⟨b, 0, none⟩), .pointer (some ⟨b, 0, none⟩), .pointer (some ⟨b, 0, none⟩), .pointer (some ⟨b, 34, none⟩), .int .u32 c.pc, .int .u32 PP] _ 9 (by kernel_rfl) rfl (by kernel_rfl) (by decide) (by kernel_rfl) (by kernel_rfl) (fun C hC => ?_)
 simp only [putVs, List.take_succ_cons, List.take_zero, Act.put, List.setIfInBounds_toArray, List.set_cons_zero, List.set_cons_succ] at hC
 subst hC
 refine ⟨?_, fun wy hR => ?_⟩
 ·repeat' refine And.intro ?_ ?_
  all_goals first | exact True.intro | intro wx hR
  all_goals try (refine yes ?_; have q2 := keep_cell hR q2; have c34 := keep_cell hR c34; simp [go_sem, eW, eW2, q2, c34]; exact lands)
 have HY : Hid (w.grownBy wy (some b) /\ Mb c g b wy /\ wy.cell? ⟨w.heap.size, 0, none⟩ = some (.int .u32 y.to) /\ wy.cell? ⟨w.heap.size, 1, none⟩ = some (.bool y.goes)) := ⟨gb_trans HW.out.1 (grown_of hR), HW.out.2.1.keep hR, keep_cell hR q0, keep_cell hR q1⟩
 have HBN : Hid (w.heap.size ≠ b) := by have := HW.out.2.2; show _ ≠ _; omega
 clear hR q0 q1 q2 c34 hW eW eW2
 refine ready1 9 fun K5 hK5 => yes ?_
 simp [go_sem]
 refine (K80.out wy HY.out.2.1).mono ?_
 rintro e w3 ⟨rfl, hm3, hg3⟩
 refine hK5 _ _ ?_
 refine wpAny_done (by kernel_rfl) ?_ _
 have H3 : Hid (w.grownBy w3 (some b) /\ Mb (c.put y.link PP) g b w3 /\ w3.cell? ⟨w.heap.size, 0, none⟩ = some (.int .u32 y.to) /\ w3.cell? ⟨w.heap.size, 1, none⟩ = some (.bool y.goes)) := ⟨gb_trans HY.out.1 hg3, hm3, row_cell hg3 HY.out.2.2.1 HBN.out, row_cell hg3 HY.out.2.2.2 HBN.out⟩
 clear hm3 hg3 HY
 go_wp2_with fail
 refine (K61.out w3 H3.out.2.1).mono ?_
 rintro e w4 ⟨rfl, hm4, hg4⟩
 have q0 := row_cell hg4 H3.out.2.2.1 HBN.out
 have q1 := row_cell hg4 H3.out.2.2.2 HBN.out
 have hms := hm4.setSlot HL.out true
 have hgs := grown_setk w4 b 36 (.bool true)
 obtain ⟨W5, hW5⟩ : ∃ z, w4.setCell ⟨b, 36, none⟩ (.bool true) = z := ⟨_, rfl⟩
 rw [hW5] at hms hgs
 obtain ⟨_, _, _, _, d36, _, _, _, _, _, _⟩ := hm4.fields HL.out
 have z36 := hm4.frozen 36
 have p0 := row_cell hgs q0 HBN.out
 have p1 := row_cell hgs q1 HBN.out
 obtain ⟨_, _, _, d35, _, _, _, _, _, _, _⟩ := hms.fields HL.out
 have z35 := hms.frozen 35
 have hmn := hms.setNext HL.out y.to
 have hgn := grown_setk W5 b 35 (.int .u32 y.to)
 have H5 : Hid (w.grownBy W5 (some b) /\ Mb { D with slot := true } g b W5 /\ Mb { D with slot := true, next := y.to } g b (W5.setCell ⟨b, 35, none⟩ (.int .u32 y.to)) /\ W5.grownBy (W5.setCell ⟨b, 35, none⟩ (.int .u32 y.to)) (some b)) := ⟨gb_trans (gb_trans H3.out.1 hg4) hgs, hms, hmn, hgn⟩
 clear hms hgs hmn hgn hm4 hg4 H3
 cases hgo : y.goes with
 | true =>
  rw [hgo] at HC p1 q1
  go_wp2
  simp [bodyPost, results, Tryz.results59]
  rw [HC.out]
  exact ⟨H5.out.2.2.1, gb_trans H5.out.1 H5.out.2.2.2⟩
 | false =>
  rw [hgo] at HC p1 q1
  go_wp2
  simp [bodyPost, results, Tryz.results59]
  rw [HC.out]
  exact ⟨H5.out.2.1, H5.out.1⟩
end Go.Proofs.YtimfipkbddpdmaaGreatDoor
