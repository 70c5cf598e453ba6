import Derived.Test.YtimfipkbddpdmaaGreatDoorVals
import Derived.Test.YtimfipkbddpdmaaGreatDoorMv
import Derived.BigRegion
set_option linter.unusedVariables false
set_option linter.unusedSimpArgs false
set_option maxRecDepth 100000
open Go Go.RowKit
namespace Go.Proofs.YtimfipkbddpdmaaGreatDoor
def noEv : Ev := ⟨0, 0, 0, 0, 0⟩
def insR (M : Mem) (c : Cp) (cs : List (Nat × Int)) : Except Ev (Ev × (Cp × List (Nat × Int))) := match fetR M cs c.pc with
 | .error e => .error e
 | .ok x =>
  if !(isWord x) || ((wayN (decN x) c).isSome && c.slot) then .error ⟨7, x, 0, 0, 0⟩ else match wayN (decN x) c with
  | some y => .ok (noEv, (c.turn y, cs))
  | none => match workR M c cs (decN x) (rg c (decN x).rs) (rg c (decN x).rt) with
   | .error e => .error e
   | .ok z => .ok (if (decN x).name.toList == [115, 121, 115, 99, 97, 108, 108] then ⟨1, (decN x).imm, 0, 0, 0⟩ else noEv, (z.1.on, z.2))
def TellsE (M : Mem) (b : Nat) (w : World) (r : Except Ev (Ev × (Cp × List (Nat × Int)))) (e : Ending) (w' : World) : Prop := w.grownBy w' (some b) /\ match r with
 | .ok x => e = .returned x.1.val /\ ∃ g, MS M x.2.1 x.2.2 g b w'
 | .error ev => Thrown b w' ev e
def Eb (v : Ev) (r : Nat) (w : World) : Prop := w.heap[r]? = some (.cells #[.int .i64 v.kind, .int .u32 v.code, .int .u32 v.at_, .int .i64 v.fk, .int .u64 v.fa] 40 (0, 0))
theorem Eb.lt {v : Ev} {r : Nat} {w : World} (h : Eb v r w) : r < w.heap.size := (Array.getElem?_eq_some_iff.1 h).1
theorem Eb.keep {v : Ev} {r : Nat} {w w' : World} (h : Eb v r w) (hb : Below w.heap.size w w') : Eb v r w' := (hb.block r h.lt).trans h
theorem Eb.row {v : Ev} {r b : Nat} {w w' : World} (h : Eb v r w) (hg : w.grownBy w' (some b)) (hn : r ≠ b) : Eb v r w' := (hg.block r h.lt (by intro e; injection e with e; exact hn e)).trans h
theorem Eb.cells {v : Ev} {r : Nat} {w : World} (h : Eb v r w) : w.cell? ⟨r, 0, none⟩ = some (.int .i64 v.kind) /\ w.cell? ⟨r, 1, none⟩ = some (.int .u32 v.code) /\ w.cell? ⟨r, 2, none⟩ = some (.int .u32 v.at_) /\ w.cell? ⟨r, 3, none⟩ = some (.int .i64 v.fk) /\ w.cell? ⟨r, 4, none⟩ = some (.int .u64 v.fa) := by
 have h' : w.heap[r]? = _ := h
 simp [World.cell?, h']
theorem Eb.frozen {v : Ev} {r : Nat} {w : World} (h : Eb v r w) (k : Nat) : w.frozen? ⟨r, k, none⟩ = false := by
 have h' : w.heap[r]? = _ := h
 simp [World.frozen?, h']
def setE (w : World) (r : Nat) (v : Ev) : World := ((((w.setCell ⟨r, 0, none⟩ (.int .i64 v.kind)).setCell ⟨r, 1, none⟩ (.int .u32 v.code)).setCell ⟨r, 2, none⟩ (.int .u32 v.at_)).setCell ⟨r, 3, none⟩ (.int .i64 v.fk)).setCell ⟨r, 4, none⟩ (.int .u64 v.fa)
theorem Eb.set {u v : Ev} {r : Nat} {w : World} (h : Eb u r w) : Eb v r (setE w r v) := by
 have h1 := blk_set h 0 (.int .i64 v.kind)
 have h2 := blk_set h1 1 (.int .u32 v.code)
 have h3 := blk_set h2 2 (.int .u32 v.at_)
 have h4 := blk_set h3 3 (.int .i64 v.fk)
 exact blk_set h4 4 (.int .u64 v.fa)
theorem grown_setE (w : World) (r : Nat) (v : Ev) : w.grownBy (setE w r v) (some r) :=
 gb_trans (gb_trans (gb_trans (gb_trans (grown_setk _ r 0 _) (grown_setk _ r 1 _)) (grown_setk _ r 2 _)) (grown_setk _ r 3 _)) (grown_setk _ r 4 _)
theorem gb_new {w w1 w2 : World} {b r : Nat} (h : w.grownBy w1 (some b)) (hg : w1.grownBy w2 (some r)) (hr : w.heap.size <= r) : w.grownBy w2 (some b) := by
 refine ⟨hg.os.trans h.os, hg.tape.trans h.tape, hg.output.trans h.output, Nat.le_trans h.size hg.size, fun k hk hne => ?_⟩
 exact (hg.block k (Nat.lt_of_lt_of_le hk h.size) (by intro e; injection e with e; omega)).trans (h.block k hk hne)
theorem boxE (w : World) : ∃ W, w.alloc (.cells #[.int .i64 0, .int .u32 0, .int .u32 0, .int .i64 0, .int .u64 0] 40) = W /\ Below w.heap.size w W /\ W.heap.size = w.heap.size + 1 /\ Eb noEv w.heap.size W := by
 refine ⟨_, rfl, (Below.refl _ _).alloc (Nat.le_refl _) _, by simp, ?_⟩
 show (w.heap.push _)[w.heap.size]? = _
 simp [noEv]
theorem box3F (w : World) (x y z : Value) (t : Nat) : ∃ W, w.alloc (.cells #[x, y, z] t) = W /\ Below w.heap.size w W /\ W.heap.size = w.heap.size + 1 /\ Fr3 W w.heap.size := by
 refine ⟨_, rfl, (Below.refl _ _).alloc (Nat.le_refl _) _, by simp, ⟨⟨x, ?_⟩, ?_⟩, ⟨⟨y, ?_⟩, ?_⟩, ⟨⟨z, ?_⟩, ?_⟩⟩
 all_goals first | exact cell_newA w _ _ _ _ _ rfl rfl | (rw [World.frozen?_alloc_at _ _ _ _ rfl])
theorem fet_lt {M : Mem} {cs : List (Nat × Int)} {pc x : Nat} (h : fetR M cs pc = .ok x) : x < 4294967296 := by
 unfold fetR at h
 split at h
 ·split at h
  ·injection h with h; rw [<- h]; exact Nat.mod_lt _ (by decide)
  ·injection h
 ·injection h
theorem rg_lt {c : Cp} (hc : c.Ok) (k : Int) : rg c k < 4294967296 := by
 unfold rg
 rw [List.getD_eq_getElem?_getD]
 by_cases h : k.toNat < c.r.length
 ·rw [List.getElem?_eq_getElem h]; exact hc.all _ (List.getElem_mem h)
 ·rw [List.getElem?_eq_none (by omega)]; decide
theorem way_small {n : List UInt8} {s t far near rd : Nat} {y : Wy} (hs : s < 4294967296) (hf : far < 4294967296) (hn : near < 4294967296) (hr : rd < 32) (h : wayB n s t far near rd = some y) : y.link < 32 /\ y.to < 4294967296 := by
 unfold wayB at h
 cases h0 : (n == [106]) with
 | true => rw [h0, if_pos rfl] at h; injection h with h; subst h; exact ⟨by first | exact (by decide : 0 < 32) | exact (by decide : 31 < 32) | exact hr, by assumption⟩
 | false =>
 rw [h0, if_neg (by decide)] at h
 cases h1 : (n == [106, 97, 108]) with
 | true => rw [h1, if_pos rfl] at h; injection h with h; subst h; exact ⟨by first | exact (by decide : 0 < 32) | exact (by decide : 31 < 32) | exact hr, by assumption⟩
 | false =>
 rw [h1, if_neg (by decide)] at h
 cases h2 : (n == [106, 114]) with
 | true => rw [h2, if_pos rfl] at h; injection h with h; subst h; exact ⟨by first | exact (by decide : 0 < 32) | exact (by decide : 31 < 32) | exact hr, by assumption⟩
 | false =>
 rw [h2, if_neg (by decide)] at h
 cases h3 : (n == [106, 97, 108, 114]) with
 | true => rw [h3, if_pos rfl] at h; injection h with h; subst h; exact ⟨by first | exact (by decide : 0 < 32) | exact (by decide : 31 < 32) | exact hr, by assumption⟩
 | false =>
 rw [h3, if_neg (by decide)] at h
 cases h4 : (n == [98, 101, 113]) with
 | true => rw [h4, if_pos rfl] at h; injection h with h; subst h; exact ⟨by first | exact (by decide : 0 < 32) | exact (by decide : 31 < 32) | exact hr, by assumption⟩
 | false =>
 rw [h4, if_neg (by decide)] at h
 cases h5 : (n == [98, 110, 101]) with
 | true => rw [h5, if_pos rfl] at h; injection h with h; subst h; exact ⟨by first | exact (by decide : 0 < 32) | exact (by decide : 31 < 32) | exact hr, by assumption⟩
 | false =>
 rw [h5, if_neg (by decide)] at h
 cases h6 : (n == [98, 108, 101, 122]) with
 | true => rw [h6, if_pos rfl] at h; injection h with h; subst h; exact ⟨by first | exact (by decide : 0 < 32) | exact (by decide : 31 < 32) | exact hr, by assumption⟩
 | false =>
 rw [h6, if_neg (by decide)] at h
 cases h7 : (n == [98, 103, 116, 122]) with
 | true => rw [h7, if_pos rfl] at h; injection h with h; subst h; exact ⟨by first | exact (by decide : 0 < 32) | exact (by decide : 31 < 32) | exact hr, by assumption⟩
 | false =>
 rw [h7, if_neg (by decide)] at h
 cases h8 : (n == [98, 108, 116, 122]) with
 | true => rw [h8, if_pos rfl] at h; injection h with h; subst h; exact ⟨by first | exact (by decide : 0 < 32) | exact (by decide : 31 < 32) | exact hr, by assumption⟩
 | false =>
 rw [h8, if_neg (by decide)] at h
 cases h9 : (n == [98, 103, 101, 122]) with
 | true => rw [h9, if_pos rfl] at h; injection h with h; subst h; exact ⟨by first | exact (by decide : 0 < 32) | exact (by decide : 31 < 32) | exact hr, by assumption⟩
 | false =>
 rw [h9, if_neg (by decide)] at h
 cases h10 : (n == [98, 108, 116, 122, 97, 108]) with
 | true => rw [h10, if_pos rfl] at h; injection h with h; subst h; exact ⟨by first | exact (by decide : 0 < 32) | exact (by decide : 31 < 32) | exact hr, by assumption⟩
 | false =>
 rw [h10, if_neg (by decide)] at h
 cases h11 : (n == [98, 103, 101, 122, 97, 108]) with
 | true => rw [h11, if_pos rfl] at h; injection h with h; subst h; exact ⟨by first | exact (by decide : 0 < 32) | exact (by decide : 31 < 32) | exact hr, by assumption⟩
 | false =>
 rw [h11, if_neg (by decide)] at h
 cases h
theorem wayN_small {i : In} {c : Cp} (hc : c.Ok) (hi : Sm5 i) {y : Wy} (h : wayN i c = some y) : y.link < 32 /\ y.to < 4294967296 :=
 way_small (rg_lt hc _) (by unfold farN; have := hi.imm; omega) (Nat.mod_lt _ (by decide)) (by have := hi.rd; omega) h
theorem dec_sm (x : Nat) : Sm5 (decN x) := by
 by_cases h : isWord x = true
 ·obtain ⟨h1, h2, h3, _, h5⟩ := dec_small h
  exact ⟨h1, h2, h3, h5⟩
 ·have e : decN x = ⟨⟨#[]⟩, 0, 0, 0, 0, 0⟩ := by rw [decN, if_neg h]
  rw [e]
  exact ⟨by decide, by decide, by decide, by decide⟩
theorem put_len (c : Cp) (k x : Nat) : (c.put k x).r.length = c.r.length := by
 unfold Cp.put
 split
 ·rfl
 ·simp
theorem lput_len {r : Except Ev Nat} {c c' : Cp} {k : Nat} {f : Nat -> Nat} (h : lput r c k f = .ok c') : c'.r.length = c.r.length := by
 cases r with
 | ok v => injection h with h; rw [<- h]; exact put_len _ _ _
 | error e => injection h
theorem onC_len {r : Except Ev Cp} {cs : List (Nat × Int)} {z : Cp × List (Nat × Int)} {n : Nat} (hr : ∀ c, r = .ok c -> c.r.length = n) (h : onC r cs = .ok z) : z.1.r.length = n := by
 cases r with
 | ok v => injection h with h; rw [<- h]; exact hr v rfl
 | error e => injection h
theorem mv_len {n : List UInt8} {c c' : Cp} {rt rd imm s t : Nat} (h : mvR n c rt rd imm s t = .ok c') : c'.r.length = c.r.length := by
 unfold mvR at h
 cases h0 : (n == [109, 102, 104, 105]) with
 | true => rw [h0, if_pos rfl] at h; injection h with h; rw [<- h]; exact put_len _ _ _
 | false =>
 rw [h0, if_neg (by decide)] at h
 cases h1 : (n == [109, 102, 108, 111]) with
 | true => rw [h1, if_pos rfl] at h; injection h with h; rw [<- h]; exact put_len _ _ _
 | false =>
 rw [h1, if_neg (by decide)] at h
 cases h2 : (n == [109, 111, 118, 122] && t == 0 || n == [109, 111, 118, 110] && t != 0) with
 | true => rw [h2, if_pos rfl] at h; injection h with h; rw [<- h]; exact put_len _ _ _
 | false =>
 rw [h2, if_neg (by decide)] at h
 cases h3 : (n == [114, 100, 104, 119, 114]) with
 | true => rw [h3, if_pos rfl] at h; injection h with h; rw [<- h]; exact put_len _ _ _
 | false =>
 rw [h3, if_neg (by decide)] at h
 cases h4 : (n == [98, 114, 101, 97, 107]) with
 | true => rw [h4, if_pos rfl] at h; injection h
 | false => rw [h4, if_neg (by decide)] at h; injection h with h; rw [<- h]
theorem reach_len {M : Mem} {c : Cp} {cs : List (Nat × Int)} {n : List UInt8} {rt t A : Nat} {z : Cp × List (Nat × Int)} (hc : c.Ok) (h : reachB M c cs n rt t A = .ok z) : z.1.r.length = 32 := by
 have hl := hc.len
 have h1 : ∀ {r : Except Ev Nat} {f : Nat -> Nat}, onC (lput r c rt f) cs = .ok z -> z.1.r.length = 32 := fun h => onC_len (fun c' h' => (lput_len h').trans hl) h
 have h2 : ∀ {a m v : Nat}, stR M c cs a m v = .ok z -> z.1.r.length = 32 := fun h => (st_ok hc h).len
 have h3 : ∀ {r : Except Ev Nat} {f : Nat -> Nat} {a m : Nat}, swR r (fun v => stR M c cs a m (f v)) = .ok z -> z.1.r.length = 32 := fun {r f a m} h => by
  cases r with
  | ok v => exact h2 h
  | error e => injection h
 unfold reachB at h
 cases g0 : (n == [108, 98]) with
 | true => rw [g0, if_pos rfl] at h; exact h1 h
 | false =>
 rw [g0, if_neg (by decide)] at h
 cases g1 : (n == [108, 98, 117]) with
 | true => rw [g1, if_pos rfl] at h; exact h1 h
 | false =>
 rw [g1, if_neg (by decide)] at h
 cases g2 : (n == [108, 104]) with
 | true => rw [g2, if_pos rfl] at h; exact h1 h
 | false =>
 rw [g2, if_neg (by decide)] at h
 cases g3 : (n == [108, 104, 117]) with
 | true => rw [g3, if_pos rfl] at h; exact h1 h
 | false =>
 rw [g3, if_neg (by decide)] at h
 cases g4 : (n == [108, 119]) with
 | true => rw [g4, if_pos rfl] at h; exact h1 h
 | false =>
 rw [g4, if_neg (by decide)] at h
 cases g5 : (n == [108, 108]) with
 | true =>
  rw [g5, if_pos rfl] at h
  refine onC_len (fun c' h' => ?_) h
  generalize ldR M cs A 4 = r at h'
  cases r with
  | ok v => injection h' with h'; rw [<- h']; exact (put_len _ _ _).trans hl
  | error e => injection h'
 | false =>
 rw [g5, if_neg (by decide)] at h
 cases g6 : (n == [108, 119, 108]) with
 | true => rw [g6, if_pos rfl] at h; exact h1 h
 | false =>
 rw [g6, if_neg (by decide)] at h
 cases g7 : (n == [108, 119, 114]) with
 | true => rw [g7, if_pos rfl] at h; exact h1 h
 | false =>
 rw [g7, if_neg (by decide)] at h
 cases g8 : (n == [115, 98]) with
 | true => rw [g8, if_pos rfl] at h; exact h2 h
 | false =>
 rw [g8, if_neg (by decide)] at h
 cases g9 : (n == [115, 104]) with
 | true => rw [g9, if_pos rfl] at h; exact h2 h
 | false =>
 rw [g9, if_neg (by decide)] at h
 cases g10 : (n == [115, 119]) with
 | true => rw [g10, if_pos rfl] at h; exact h2 h
 | false =>
 rw [g10, if_neg (by decide)] at h
 cases g11 : (n == [115, 99]) with
 | true =>
  rw [g11, if_pos rfl] at h
  cases hs : slR M c cs A t with
  | ok y => rw [hs] at h; injection h with h; rw [<- h]; exact (put_len _ _ _).trans (sl_ok hc hs).len
  | error e => rw [hs] at h; injection h
 | false =>
 rw [g11, if_neg (by decide)] at h
 cases g12 : (n == [115, 119, 108]) with
 | true => rw [g12, if_pos rfl] at h; exact h3 h
 | false =>
 rw [g12, if_neg (by decide)] at h
 cases g13 : (n == [115, 119, 114]) with
 | true => rw [g13, if_pos rfl] at h; exact h3 h
 | false =>
 rw [g13, if_neg (by decide)] at h
 injection h with h; rw [<- h]; exact hl
theorem work_len {M : Mem} {c : Cp} {cs : List (Nat × Int)} {i : In} {s t : Nat} {z : Cp × List (Nat × Int)} (hc : c.Ok) (h : workR M c cs i s t = .ok z) : z.1.r.length = 32 := by
 unfold workR at h
 cases h0 : (aIdx i.name).isSome with
 | true => rw [h0, if_pos rfl] at h; exact onC_len (fun c' h' => (lput_len h').trans hc.len) h
 | false =>
 rw [h0, if_neg (by decide)] at h
 cases h1 : (Wd.wIdx i.name).isSome with
 | true => rw [h1, if_pos rfl] at h; injection h with h; rw [<- h]; exact hc.len
 | false =>
 rw [h1, if_neg (by decide)] at h
 cases h2 : trapB i.name s t with
 | true => rw [h2, if_pos rfl] at h; injection h
 | false =>
 rw [h2, if_neg (by decide)] at h
 cases h3 : ((formOf i.name).toList == [116, 109]) with
 | true => rw [h3, if_pos rfl] at h; exact reach_len hc h
 | false => rw [h3, if_neg (by decide)] at h; exact onC_len (fun c' h' => (mv_len h').trans hc.len) h
set_option maxHeartbeats 1000000 in
theorem goOn61l (c : Cp) (g : Gv) (b : Nat) (hl : c.r.length = 32) (w : World) (h : Mb c g b w) :
  Calls Tryz.prog 61 #[.pointer (some ⟨b, 0, none⟩)] w fun e w' => e = .returned (.tuple #[]) /\ Mb c.on g b w' /\ w.grownBy w' (some b) := by
 obtain ⟨_, _, c34, c35, c36, _, _, _, _, _, _⟩ := h.fields hl
 have z34 := h.frozen 34
 have z35 := h.frozen 35
 have z36 := h.frozen 36
 obtain ⟨NX, hNX⟩ : ∃ n, n = (c.next + 4) % 4294967296 := ⟨_, rfl⟩
 have eW : IntKind.u32.wrap ((c.next : Int) + 4) = (NX : Int) := by rw [IntKind.wrap_u32]; omega
 have HM : Hid (Mb c.on g b (((w.setCell ⟨b, 34, none⟩ (.int .u32 c.next)).setCell ⟨b, 35, none⟩ (.int .u32 NX)).setCell ⟨b, 36, none⟩ (.bool false)).drew /\ w.grownBy (((w.setCell ⟨b, 34, none⟩ (.int .u32 c.next)).setCell ⟨b, 35, none⟩ (.int .u32 NX)).setCell ⟨b, 36, none⟩ (.bool false)).drew (some b)) := by
  have h1 := h.setPc hl c.next
  have h2 := h1.setNext hl NX
  have h3 := h2.setSlot hl false
  refine ⟨?_, gb_trans (gb_trans (gb_trans (grown_setk _ b 34 _) (grown_setk _ b 35 _)) (grown_setk _ b 36 _)) (grown_of (Below.refl _ _).drew)⟩
  have h4 := h3.keep (Below.refl _ _).drew
  rw [hNX] at h4 |-
  exact h4
 clear h hNX
 go_enter Tryz.func61, Tryz.ntmps61
 go_wp2
 go_region
 all_goals go_wp2
 all_goals simp [bodyPost, results, Tryz.results61]
 all_goals exact HM.out
structure Kn (M : Mem) (c : Cp) (cs : List (Nat × Int)) (g : Gv) (b r : Nat) (w w' : World) : Prop where
 gr : w.grownBy w' (some b)
 ms : MS M c cs g b w'
 tb : Tab w'
 fr : Eb noEv r w'
 lt : b < w'.heap.size
theorem Kn.keep {M : Mem} {c : Cp} {cs : List (Nat × Int)} {g : Gv} {b r : Nat} {w w1 w2 : World} (h : Kn M c cs g b r w w1) (hb : Below w1.heap.size w1 w2) : Kn M c cs g b r w w2 := ⟨gb_trans h.gr (grown_of hb), h.ms.keep hb, h.tb.keep hb, h.fr.keep hb, Nat.lt_of_lt_of_le h.lt hb.size⟩
set_option maxHeartbeats 4000000 in
theorem instruction44 (M : Mem) (c : Cp) (cs : List (Nat × Int)) (g : Gv) (b : Nat) (w : World) (hc : c.Ok) (h : MS M c cs g b w) (hG : Good M cs) (hT : Tab w) :
  Calls Tryz.prog 44 #[.pointer (some ⟨b, 0, none⟩)] w (TellsE M b w (insR M c cs)) := by
 obtain ⟨W, hW, hb, hz, hfr⟩ := boxE w
 have HN : Hid (b ≠ w.heap.size /\ c.Ok /\ Good M cs) := ⟨by have := h.m.lt; omega, hc, hG⟩
 have H0 : Hid (Kn M c cs g b w.heap.size w W) := ⟨grown_of hb, h.keep hb, hT.keep hb, hfr, Nat.lt_of_lt_of_le h.m.lt hb.size⟩
 have K56 := fetched56 M c cs g b W hc (h.keep hb) hG
 have HR : Hid (insR M c cs = match fetR M cs c.pc with
  | .error e => .error e
  | .ok x =>
   if !(isWord x) || ((wayN (decN x) c).isSome && c.slot) then .error ⟨7, x, 0, 0, 0⟩ else match wayN (decN x) c with
   | some y => .ok (noEv, (c.turn y, cs))
   | none => match workR M c cs (decN x) (rg c (decN x).rs) (rg c (decN x).rt) with
    | .error e => .error e
    | .ok z => .ok (if (decN x).name.toList == [115, 121, 115, 99, 97, 108, 108] then ⟨1, (decN x).imm, 0, 0, 0⟩ else noEv, (z.1.on, z.2))) := rfl
 have HX : Hid (∀ x, fetR M cs c.pc = .ok x -> x < 4294967296) := fun x hx => fet_lt hx
 generalize insR M c cs = RR at HR |-
 generalize fetR M cs c.pc = FR at K56 HR HX
 clear h hb hz hfr hT hG hc
 go_enter Tryz.func44, Tryz.ntmps44
 go_wp2_with fail
 refine K56.mono ?_
 rintro e w1 ⟨hR1, hb1⟩
 have H1 : Hid (Kn M c cs g b w.heap.size w w1) := H0.out.keep hb1
 clear K56 hb1 H0 hW
 cases FR with
 | error ev =>
  obtain rfl : e = .panicked (thrownE ev) := hR1
  obtain rfl : RR = .error ev := HR.out
  clear HR HX
  go_wp2
  exact ⟨rfl, H1.out.gr, rfl, _, _, H1.out.ms.m, HN.out.2.1.len⟩
 | ok x =>
 obtain rfl : e = .returned (.int .u32 x) := hR1
 have hx := HX.out x rfl
 have K57 := decode8 x hx w1 H1.out.tb
 have hsm := dec_sm x
 simp only at HR
 generalize isWord x = kn at K57 HR
 generalize decN x = i at K57 HR hsm
 have HS : Hid (Sm5 i) := hsm
 unfold In.val at K57
 clear HX hx hsm
 go_wp2_with fail
 refine K57.mono ?_
 rintro e w2 ⟨rfl, hb2⟩
 obtain ⟨X, hX, hbX, hzX, d0, d1, d2, d3, d4, d5⟩ := box6 w2 (.string i.name) (.int .i64 i.rs) (.int .i64 i.rt) (.int .i64 i.rd) (.int .i64 i.sa) (.int .u32 i.imm) 55
 have H2 : Hid (Kn M c cs g b w.heap.size w X /\ Ib i w2.heap.size X /\ b ≠ w2.heap.size) := ⟨(H1.out.keep hb2).keep hbX, ⟨d0, d1, d2, d3, d4, d5⟩, by have := (H1.out.keep hb2).lt; omega⟩
 clear K57 hb2 hbX hzX H1
 have K58 : Hid (∀ wx, Calls Tryz.prog 58 #[i.val, .agg c.cells.toArray] wx fun e w' => e = .returned (.tuple #[((wayN i c).getD ⟨0, false, 0⟩).val, .bool (wayN i c).isSome]) /\ Below wx.heap.size wx w') := fun wx => turnOf58 i c HN.out.2.1 HS.out.rs HS.out.rt HS.out.rd HS.out.imm wx
 have HWL : Hid (∀ y, wayN i c = some y -> y.link < 32 /\ y.to < 4294967296) := fun y hy => wayN_small HN.out.2.1 HS.out hy
 generalize wayN i c = wy at K58 HR HWL
 obtain ⟨yv, hyv⟩ : ∃ y : Wy, y = wy.getD ⟨0, false, 0⟩ := ⟨_, rfl⟩
 have HYV : Hid (∀ y, wy = some y -> yv = y) := fun y e => by rw [hyv, e]; rfl
 rw [<- hyv] at K58
 clear hyv
 unfold Wy.val In.val at K58
 obtain ⟨yt, yg, yl⟩ := yv
 simp only at K58
 go_wp2
 refine wp_region_held_drew (S := fun w' => Ib i w2.heap.size w' /\ Mb c g b w') (by kernel_rfl) ⟨H2.out.2.1.keep (Below.refl _ _).drew, H2.out.1.ms.m.keep (Below.refl _ _).drew⟩ (fun hS => ?_)
 refine takeG 0 (.agg #[.string i.name, .int .i64 i.rs, .int .i64 i.rt, .int .i64 i.rd, .int .i64 i.sa, .int .u32 i.imm]) hS ?_
 simp only [Act.put]
 refine takeG 1 (.pointer (some ⟨b, 0, none⟩)) hS ?_
 simp only [Act.put]
 refine takeG 2 (.pointer (some ⟨b, 0, none⟩)) hS ?_
 simp only [Act.put]
 refine takeG 3 (.pointer (some ⟨b, 0, none⟩)) hS ?_
 simp only [Act.put]
 refine wpAnyH_take (i := 4) (v := .agg c.cells.toArray) rfl (by kernel_rfl) (by kernel_rfl) (by kernel_rfl) (fun _ _ _ h => h) (Or.inl ⟨by rfl, fun w hSw => ?_⟩) hS ?_
 ·dsimp only at hSw; have hl := load25 HN.out.2.1.len hSw.2; simp [execOp, Instr.loadAt, Instr.sureAddr, Act.eval, hl]
 simp only [Act.put]
 refine wpAnyH_ready (rs := [5, 9]) (by kernel_rfl) (by simp) (AllReadyH.cons rfl (fun K hK => ?aa) (AllReadyH.cons rfl (fun K hK => ?bb) AllReadyH.nil))
 case' aa =>
  go_simp
  go_wp2_with fail
  refine (K58.out _).mono ?_
  rintro e w3 ⟨rfl, hb3⟩
  have hb3 : Below X.heap.size X w3 := below_tr (Below.refl _ _).drew hb3
  have hi3 := H2.out.2.1.keep hb3
  have hm3 := H2.out.1.ms.m.keep hb3
  go_wp2_with fail
  refine hK.out _ _ ⟨hi3, hm3⟩ (fun hS => ?_)
  clear hK K
  refine takeG 6 (.tuple #[.agg #[.int .u32 yt, .bool yg, .int .i64 yl], .bool wy.isSome]) hS ?_
  simp only [Act.put]
  refine takeG 7 (.agg #[.int .u32 yt, .bool yg, .int .i64 yl]) hS ?_
  simp only [Act.put]
  refine takeG 8 (.bool wy.isSome) hS ?_
  simp only [Act.put]
  refine readyH 9 fun K hK => ?_
  go_simp
  obtain ⟨Z, hZ, hbZ, hzZ, hf3⟩ := box3F w3 (.int .u32 0) (.bool false) (.int .i64 0) 114
  rw [hZ]
  refine hK.out _ _ ⟨hi3.keep hbZ, hm3.keep hbZ⟩ (fun hS => ?_)
  clear hK K
  have HB : Hid (Below X.heap.size X Z) := below_tr hb3 hbZ
  have hle : Hid (X.heap.size <= w3.heap.size) := hb3.size
  clear hb3 hbZ hzZ hZ hi3 hm3
  have q0 := hf3.1.cell
  have q1 := hf3.2.1.cell
  have q2 := hf3.2.2.cell
  have z0 := hf3.1.frozen
  have z1 := hf3.2.1.frozen
  have z2 := hf3.2.2.frozen
  have hres := res3 Z w3.heap.size (.int .u32 yt) (.bool yg) (.int .i64 yl) hf3
  simp only at hres
  have HBE := below3 (n := w3.heap.size) HB.out hle.out (.int .u32 yt) (.bool yg) (.int .i64 yl)
  refine readyH 10 fun K hK => ?_
  obtain ⟨Y, hY⟩ : ∃ z, ((Z.setCell ⟨w3.heap.size, 0, none⟩ (.int .u32 yt)).setCell ⟨w3.heap.size, 1, none⟩ (.bool yg)).setCell ⟨w3.heap.size, 2, none⟩ (.int .i64 yl) = z := ⟨_, rfl⟩
  rw [hY] at hres HBE
  obtain ⟨y0, y1, y2⟩ := hres
  have HY : Hid (Kn M c cs g b w.heap.size w Y /\ Ib i w2.heap.size Y) := ⟨H2.out.1.keep HBE, H2.out.2.1.keep HBE⟩
  clear HBE
  go_simp
  refine hK.out _ _ ⟨HY.out.2, HY.out.1.ms.m⟩ (fun hS => ?_)
  clear hK K hY
  refine takeG 11 (.bool wy.isSome) hS ?_
  simp only [Act.put]
  refine wpAnyH_done (by kernel_rfl) ?_ _
  clear q0 q1 q2 z0 z1 z2 hf3 hS HB hle d0 d1 d2 d3 d4 d5 hX K58
  generalize w3.heap.size = n7 at y0 y1 y2 |-
 case' bb =>
  go_simp
  obtain ⟨Z0, hZ, hbZ, hzZ, hf3⟩ := box3F X (.int .u32 0) (.bool false) (.int .i64 0) 114
  rw [hZ]
  have hbZ : Below X.heap.size X Z0.drew := hbZ.drew
  have hf3 : Fr3 Z0.drew X.heap.size := ⟨hf3.1.drew, hf3.2.1.drew, hf3.2.2.drew⟩
  obtain ⟨Z, hZd⟩ : ∃ z, Z0.drew = z := ⟨_, rfl⟩
  rw [hZd] at hbZ hf3 |-
  refine hK.out _ _ ⟨H2.out.2.1.keep hbZ, H2.out.1.ms.m.keep hbZ⟩ (fun hS => ?_)
  clear hK K hZ hZd hzZ
  refine readyH 5 fun K hK => ?_
  go_simp
  go_wp2_with fail
  refine (K58.out Z).mono ?_
  rintro e w3 ⟨rfl, hb3⟩
  have hf3 := hf3.keep hb3
  have hbZ := below_tr hbZ hb3
  go_wp2_with fail
  refine hK.out _ _ ⟨H2.out.2.1.keep hbZ, H2.out.1.ms.m.keep hbZ⟩ (fun hS => ?_)
  clear hK K
  refine takeG 6 (.tuple #[.agg #[.int .u32 yt, .bool yg, .int .i64 yl], .bool wy.isSome]) hS ?_
  simp only [Act.put]
  refine takeG 7 (.agg #[.int .u32 yt, .bool yg, .int .i64 yl]) hS ?_
  simp only [Act.put]
  refine takeG 8 (.bool wy.isSome) hS ?_
  simp only [Act.put]
  have HB : Hid (Below X.heap.size X w3) := hbZ
  have hle : Hid (X.heap.size <= X.heap.size) := Nat.le_refl _
  clear hb3 hbZ
  have q0 := hf3.1.cell
  have q1 := hf3.2.1.cell
  have q2 := hf3.2.2.cell
  have z0 := hf3.1.frozen
  have z1 := hf3.2.1.frozen
  have z2 := hf3.2.2.frozen
  have hres := res3 w3 X.heap.size (.int .u32 yt) (.bool yg) (.int .i64 yl) hf3
  simp only at hres
  have HBE := below3 (n := X.heap.size) HB.out hle.out (.int .u32 yt) (.bool yg) (.int .i64 yl)
  refine readyH 10 fun K hK => ?_
  obtain ⟨Y, hY⟩ : ∃ z, ((w3.setCell ⟨X.heap.size, 0, none⟩ (.int .u32 yt)).setCell ⟨X.heap.size, 1, none⟩ (.bool yg)).setCell ⟨X.heap.size, 2, none⟩ (.int .i64 yl) = z := ⟨_, rfl⟩
  rw [hY] at hres HBE
  obtain ⟨y0, y1, y2⟩ := hres
  have HY : Hid (Kn M c cs g b w.heap.size w Y /\ Ib i w2.heap.size Y) := ⟨H2.out.1.keep HBE, H2.out.2.1.keep HBE⟩
  clear HBE
  go_simp
  refine hK.out _ _ ⟨HY.out.2, HY.out.1.ms.m⟩ (fun hS => ?_)
  clear hK K hY
  refine takeG 11 (.bool wy.isSome) hS ?_
  simp only [Act.put]
  refine wpAnyH_done (by kernel_rfl) ?_ _
  clear q0 q1 q2 z0 z1 z2 hf3 hS HB hle d0 d1 d2 d3 d4 d5 hX K58
  generalize X.heap.size = n7 at y0 y1 y2 |-
 all_goals
  have hm := HY.out.1.ms.m
  obtain ⟨_, _, _, _, c36, _, _, _, _, _, _⟩ := hm.fields HN.out.2.1.len
  generalize hsl : c.slot = sl at c36
  have HSL : Hid (c.slot = sl) := hsl
  rw [hsl] at HR
  clear hsl
  cases kn with
  | false =>
   obtain rfl : RR = .error ⟨7, x, 0, 0, 0⟩ := by have := HR.out; simpa using this
   clear HR
   go_wp2
   exact ⟨rfl, HY.out.1.gr, rfl, _, _, HY.out.1.ms.m, HN.out.2.1.len⟩
  | true =>
  cases wy with
  | some y =>
   cases sl with
   | true =>
    obtain rfl : RR = .error ⟨7, x, 0, 0, 0⟩ := by have := HR.out; simpa using this
    clear HR
    go_wp2
    exact ⟨rfl, HY.out.1.gr, rfl, _, _, HY.out.1.ms.m, HN.out.2.1.len⟩
   | false =>
    obtain rfl : RR = .ok (noEv, (c.turn y, cs)) := by have := HR.out; simpa using this
    obtain rfl : (⟨yt, yg, yl⟩ : Wy) = y := HYV.out y rfl
    have K59 : Hid (∀ wx, Mb c g b wx -> Calls Tryz.prog 59 #[.pointer (some ⟨b, 0, none⟩), .agg #[.int .u32 yt, .bool yg, .int .i64 yl]] wx fun e w' => e = .returned (.tuple #[]) /\ Mb (c.turn ⟨yt, yg, yl⟩) g b w' /\ wx.grownBy w' (some b)) := fun wx hx => turn59 c g b ⟨yt, yg, yl⟩ HN.out.2.1 (HWL.out _ rfl).1 wx hx
    clear HR HWL HYV hm
    go_wp2_with fail
    refine (K59.out Y HY.out.1.ms.m).mono ?_
    rintro e w5 ⟨rfl, hm5, hg5⟩
    have hM := HY.out.1.ms.to HN.out.2.1.len hg5 hm5
    have he := HY.out.1.fr.row hg5 HN.out.1.symm
    have hg := gb_trans HY.out.1.gr hg5
    clear K59 hm5 hg5 y0 y1 y2 c36
    obtain ⟨e0, e1, e2, e3, e4⟩ := he.cells
    have z0 := he.frozen 0
    have z1 := he.frozen 1
    have z2 := he.frozen 2
    have z3 := he.frozen 3
    have z4 := he.frozen 4
    have hE9 : Eb noEv w.heap.size (setE w5 w.heap.size noEv) := he.set
    have hG9 := gb_new hg (grown_setE w5 w.heap.size noEv) (Nat.le_refl _)
    have hM9 := hM.far he (by decide) HN.out.1 (grown_setE w5 w.heap.size noEv)
    have hW9' : setE w5 w.heap.size noEv = ((((w5.setCell ⟨w.heap.size, 0, none⟩ (.int .i64 0)).setCell ⟨w.heap.size, 1, none⟩ (.int .u32 0)).setCell ⟨w.heap.size, 2, none⟩ (.int .u32 0)).setCell ⟨w.heap.size, 3, none⟩ (.int .i64 0)).setCell ⟨w.heap.size, 4, none⟩ (.int .u64 0) := rfl
    obtain ⟨W9, hW9⟩ : ∃ z, ((((w5.setCell ⟨w.heap.size, 0, none⟩ (.int .i64 0)).setCell ⟨w.heap.size, 1, none⟩ (.int .u32 0)).setCell ⟨w.heap.size, 2, none⟩ (.int .u32 0)).setCell ⟨w.heap.size, 3, none⟩ (.int .i64 0)).setCell ⟨w.heap.size, 4, none⟩ (.int .u64 0) = z := ⟨_, rfl⟩
    rw [hW9', hW9] at hE9 hG9 hM9
    obtain ⟨s0, s1, s2, s3, s4⟩ := hE9.cells
    have H9 : Hid (w.grownBy W9 (some b) /\ MS M (c.turn ⟨yt, yg, yl⟩) cs g b W9) := ⟨hG9, hM9⟩
    clear hE9 hG9 hM9 hW9' he hg hM
    unfold noEv at e0 e1 e2 e3 e4
    simp only at e0 e1 e2 e3 e4 s0 s1 s2 s3 s4
    go_wp2
    refine bodyPost_ret (v := .agg #[.int .i64 0, .int .u32 0, .int .u32 0, .int .i64 0, .int .u64 0]) ?_ rfl ⟨H9.out.1, ?_⟩
    ·rw [results_cell1 rfl]; simp [go_sem, s0, s1, s2, s3, s4, noEv]
    ·exact ⟨rfl, _, H9.out.2⟩
  | none =>
   clear HWL HYV HSL y0 y1 y2
   have HR2 : Hid (RR = match workR M c cs i (rg c i.rs) (rg c i.rt) with | .error e => .error e | .ok z => .ok (if i.name.toList == [115, 121, 115, 99, 97, 108, 108] then ⟨1, i.imm, 0, 0, 0⟩ else noEv, (z.1.on, z.2))) := by have := HR.out; show _ = _; simpa using this
   have HIb := HY.out.2
   have HLN : Hid (∀ z, workR M c cs i (rg c i.rs) (rg c i.rt) = .ok z -> z.1.r.length = 32) := fun z hz => work_len HN.out.2.1 hz
   have K60 : Hid (∀ wx, MS M c cs g b wx -> Tab wx -> Calls Tryz.prog 60 #[.pointer (some ⟨b, 0, none⟩), i.val, .int .u32 (rg c i.rs : Int), .int .u32 (rg c i.rt : Int)] wx (Tells M b wx (.tuple #[]) (workR M c cs i (rg c i.rs) (rg c i.rt)))) := fun wx hx hT => work60 M c cs g b i (rg c i.rs) (rg c i.rt) HN.out.2.1 HS.out (rg_lt HN.out.2.1 _) (rg_lt HN.out.2.1 _) wx hx HN.out.2.2 hT
   generalize workR M c cs i (rg c i.rs) (rg c i.rt) = WR at HR2 HLN K60
   clear HR
   obtain ⟨name, rs, rt, rd, sa, imm⟩ := i
   obtain ⟨d0, d1, d2, d3, d4, d5⟩ := HIb
   have hsm := HS.out
   have q1 := hsm.rs
   have q2 := hsm.rt
   simp only at q1 q2 HR2 HLN d0 d1 d2 d3 d4 d5 K60
   obtain ⟨ks, rfl⟩ := Int.eq_ofNat_of_zero_le q1.1
   obtain ⟨kt, rfl⟩ := Int.eq_ofNat_of_zero_le q2.1
   have hks : (ks : Int) < 32 := q1.2
   have hkt : (kt : Int) < 32 := q2.2
   have lks : ks < c.r.length := by rw [HN.out.2.1.len]; omega
   have lkt : kt < c.r.length := by rw [HN.out.2.1.len]; omega
   have r1 := hm.reg ks lks
   have r2 := hm.reg kt lkt
   have es : rg c (ks : Int) = c.r[ks] := by unfold rg; rw [show ((ks : Int)).toNat = ks from rfl, List.getD_eq_getElem?_getD, List.getElem?_eq_getElem lks]; rfl
   have et : rg c (kt : Int) = c.r[kt] := by unfold rg; rw [show ((kt : Int)).toNat = kt from rfl, List.getD_eq_getElem?_getD, List.getElem?_eq_getElem lkt]; rfl
   rw [es, et] at K60
   generalize c.r[ks] = S at r1 K60
   generalize c.r[kt] = T at r2 K60
   have HYI : Hid (Kn M c cs g b w.heap.size w Y /\ Ib ⟨name, (ks : Int), (kt : Int), rd, sa, imm⟩ w2.heap.size Y) := HY.out
   unfold In.val at K60
   simp only at K60
   clear es et lks lkt q1 q2 hsm hm HY HS
   go_wp2
   refine wp_region_vals [.pointer (some ⟨b, 0, none⟩), .agg #[.string name, .int .i64 ks, .int .i64 kt, .int .i64 rd, .int .i64 sa, .int .u32 imm], .pointer (some ⟨b, 0, none⟩), .pointer (some ⟨w2.heap.size, 1, none⟩), .int .i64 ks, .pointer (some ⟨b, 0, none⟩), .pointer (some ⟨b, 0, none⟩), .pointer (some ⟨b, 0, none⟩), .pointer (some ⟨b, ks, none⟩), .int .u32 S, .pointer (some ⟨b, 0, none⟩), .pointer (some ⟨w2.heap.size, 2, none⟩), .int .i64 kt, .pointer (some ⟨b, 0, none⟩), .pointer (some ⟨b, 0, none⟩), .pointer (some ⟨b, 0, none⟩), .pointer (some ⟨b, kt, none⟩), .int .u32 T] _ 18 (by kernel_rfl) rfl (by kernel_rfl) (by decide) (by kernel_rfl) (by kernel_rfl) (fun C hC => ?_)
   simp only [putVs, List.take_succ_cons, List.take_zero, Act.put, List.setIfInBounds_toArray, List.set_cons_zero, List.set_cons_succ] at hC
   subst hC
   refine ⟨?_, fun wy hR => ?_⟩
   ·repeat' refine And.intro ?_ ?_
    all_goals first | exact True.intro | intro wx hR
    all_goals try (refine yes ?_; have d0 := keep_cell hR d0; have d1 := keep_cell hR d1; have d2 := keep_cell hR d2; have d3 := keep_cell hR d3; have d4 := keep_cell hR d4; have d5 := keep_cell hR d5; have r1 := keep_cell hR r1; have r2 := keep_cell hR r2; simp [go_sem, hks, hkt, d0, d1, d2, d3, d4, d5, r1, r2]; exact lands)
   have H5 : Hid (Kn M c cs g b w.heap.size w wy /\ Ib ⟨name, (ks : Int), (kt : Int), rd, sa, imm⟩ w2.heap.size wy) := ⟨HYI.out.1.keep hR, HYI.out.2.keep hR⟩
   clear hR HYI d0 d1 d2 d3 d4 d5 r1 r2
   refine ready1 18 fun K5 hK5 => yes ?_
   simp [go_sem]
   refine (K60.out wy H5.out.1.ms H5.out.1.tb).mono ?_
   rintro e w6 ⟨hg6, hR6⟩
   have hI6 := H5.out.2.row hg6 H2.out.2.2.symm
   have he6 := H5.out.1.fr.row hg6 HN.out.1.symm
   have HG6 : Hid (w.grownBy w6 (some b)) := gb_trans H5.out.1.gr hg6
   clear K60 hg6
   cases WR with
   | error ev =>
    obtain ⟨rfl, hx⟩ := hR6
    obtain rfl : RR = .error ev := HR2.out
    exact ⟨rfl, HG6.out, rfl, hx⟩
   | ok z =>
   obtain ⟨c2, cs2⟩ := z
   obtain ⟨rfl, g2, hM2⟩ := hR6
   have hlen := HLN.out _ rfl
   simp only at hlen hM2 HR2
   refine hK5 _ _ ?_
   clear hK5 K5
   refine wpAny_done (by kernel_rfl) ?_ _
   have HM2 : Hid (c2.r.length = 32 /\ MS M c2 cs2 g2 b w6) := ⟨hlen, hM2⟩
   have K61 : Hid (Calls Tryz.prog 61 #[.pointer (some ⟨b, 0, none⟩)] w6 fun e w' => e = .returned (.tuple #[]) /\ Mb c2.on g2 b w' /\ w6.grownBy w' (some b)) := goOn61l c2 g2 b hlen w6 hM2.m
   clear hlen hM2 HLN H5
   go_wp2_with fail
   refine K61.out.mono ?_
   rintro e w7 ⟨rfl, hm7, hg7⟩
   have hM := HM2.out.2.to HM2.out.1 hg7 hm7
   have he := he6.row hg7 HN.out.1.symm
   have hg := gb_trans HG6.out hg7
   obtain ⟨d0, d1, d2, d3, d4, d5⟩ := hI6.row hg7 H2.out.2.2.symm
   clear K61 hm7 hg7 hI6 he6 HG6
   simp only at d0 d1 d2 d3 d4 d5
   cases hsc : (name.toList == [115, 121, 115, 99, 97, 108, 108]) with
   | true =>
    rw [hsc] at HR2
    obtain rfl : RR = .ok (⟨1, imm, 0, 0, 0⟩, (c2.on, cs2)) := HR2.out
    clear HR2
    obtain ⟨e0, e1, e2, e3, e4⟩ := he.cells
    have z0 := he.frozen 0
    have z1 := he.frozen 1
    have z2 := he.frozen 2
    have z3 := he.frozen 3
    have z4 := he.frozen 4
    have hE9 : Eb (⟨1, imm, 0, 0, 0⟩ : Ev) w.heap.size (setE w7 w.heap.size (⟨1, imm, 0, 0, 0⟩ : Ev)) := he.set
    have hG9 := gb_new hg (grown_setE w7 w.heap.size (⟨1, imm, 0, 0, 0⟩ : Ev)) (Nat.le_refl _)
    have hM9 := hM.far he (by decide) HN.out.1 (grown_setE w7 w.heap.size (⟨1, imm, 0, 0, 0⟩ : Ev))
    have hW9' : setE w7 w.heap.size (⟨1, imm, 0, 0, 0⟩ : Ev) = ((((w7.setCell ⟨w.heap.size, 0, none⟩ (.int .i64 1)).setCell ⟨w.heap.size, 1, none⟩ (.int .u32 imm)).setCell ⟨w.heap.size, 2, none⟩ (.int .u32 0)).setCell ⟨w.heap.size, 3, none⟩ (.int .i64 0)).setCell ⟨w.heap.size, 4, none⟩ (.int .u64 0) := rfl
    obtain ⟨W9, hW9⟩ : ∃ z, ((((w7.setCell ⟨w.heap.size, 0, none⟩ (.int .i64 1)).setCell ⟨w.heap.size, 1, none⟩ (.int .u32 imm)).setCell ⟨w.heap.size, 2, none⟩ (.int .u32 0)).setCell ⟨w.heap.size, 3, none⟩ (.int .i64 0)).setCell ⟨w.heap.size, 4, none⟩ (.int .u64 0) = z := ⟨_, rfl⟩
    rw [hW9', hW9] at hE9 hG9 hM9
    obtain ⟨s0, s1, s2, s3, s4⟩ := hE9.cells
    have H9 : Hid (w.grownBy W9 (some b) /\ MS M c2.on cs2 g2 b W9) := ⟨hG9, hM9⟩
    clear hE9 hG9 hM9 hW9' he hg hM
    unfold noEv at e0 e1 e2 e3 e4
    simp only at e0 e1 e2 e3 e4 s0 s1 s2 s3 s4
    go_wp2
    refine bodyPost_ret (v := .agg #[.int .i64 1, .int .u32 imm, .int .u32 0, .int .i64 0, .int .u64 0]) ?_ rfl ⟨H9.out.1, ?_⟩
    ·rw [results_cell1 rfl]; simp [go_sem, s0, s1, s2, s3, s4, noEv]
    ·exact ⟨rfl, _, H9.out.2⟩
   | false =>
    rw [hsc] at HR2
    obtain rfl : RR = .ok (noEv, (c2.on, cs2)) := HR2.out
    clear HR2
    obtain ⟨e0, e1, e2, e3, e4⟩ := he.cells
    have z0 := he.frozen 0
    have z1 := he.frozen 1
    have z2 := he.frozen 2
    have z3 := he.frozen 3
    have z4 := he.frozen 4
    have hE9 : Eb noEv w.heap.size (setE w7 w.heap.size noEv) := he.set
    have hG9 := gb_new hg (grown_setE w7 w.heap.size noEv) (Nat.le_refl _)
    have hM9 := hM.far he (by decide) HN.out.1 (grown_setE w7 w.heap.size noEv)
    have hW9' : setE w7 w.heap.size noEv = ((((w7.setCell ⟨w.heap.size, 0, none⟩ (.int .i64 0)).setCell ⟨w.heap.size, 1, none⟩ (.int .u32 0)).setCell ⟨w.heap.size, 2, none⟩ (.int .u32 0)).setCell ⟨w.heap.size, 3, none⟩ (.int .i64 0)).setCell ⟨w.heap.size, 4, none⟩ (.int .u64 0) := rfl
    obtain ⟨W9, hW9⟩ : ∃ z, ((((w7.setCell ⟨w.heap.size, 0, none⟩ (.int .i64 0)).setCell ⟨w.heap.size, 1, none⟩ (.int .u32 0)).setCell ⟨w.heap.size, 2, none⟩ (.int .u32 0)).setCell ⟨w.heap.size, 3, none⟩ (.int .i64 0)).setCell ⟨w.heap.size, 4, none⟩ (.int .u64 0) = z := ⟨_, rfl⟩
    rw [hW9', hW9] at hE9 hG9 hM9
    obtain ⟨s0, s1, s2, s3, s4⟩ := hE9.cells
    have H9 : Hid (w.grownBy W9 (some b) /\ MS M c2.on cs2 g2 b W9) := ⟨hG9, hM9⟩
    clear hE9 hG9 hM9 hW9' he hg hM
    unfold noEv at e0 e1 e2 e3 e4
    simp only at e0 e1 e2 e3 e4 s0 s1 s2 s3 s4
    go_wp2
    refine bodyPost_ret (v := .agg #[.int .i64 0, .int .u32 0, .int .u32 0, .int .i64 0, .int .u64 0]) ?_ rfl ⟨H9.out.1, ?_⟩
    ·rw [results_cell1 rfl]; simp [go_sem, s0, s1, s2, s3, s4, noEv]
    ·exact ⟨rfl, _, H9.out.2⟩
end Go.Proofs.YtimfipkbddpdmaaGreatDoor
