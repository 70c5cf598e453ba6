import Derived.Test.YtimfipkbddpdmaaGreatDoorMCopied
import Derived.Test.YtimfipkbddpdmaaGreatDoorMGbk
import Derived.Test.YtimfipkbddpdmaaGreatDoorMGff
import Derived.Test.YtimfipkbddpdmaaGreatDoorMW
import Derived.Test.YtimfipkbddpdmaaGreatDoorMGw
import Derived.Test.YtimfipkbddpdmaaGreatDoorVals
import Derived.OwnWalkIn
set_option linter.unusedVariables false
set_option linter.unusedSimpArgs false
set_option maxRecDepth 100000
open Go Go.RowKit
namespace Go.Proofs.YtimfipkbddpdmaaGreatDoor.Gm
def fr (cs : List (Nat × Int)) (c : Nat) : List (Nat × Int) := cs.filter (fun x => decide (c <= x.1))
abbrev S3 := Nat × Nat × Nat
def stL (cs : List (Nat × Int)) (xs : List S3) : List (Nat × Int) := xs.foldl (fun S x => storeN S x.1 x.2.1 x.2.2) cs
def oneL (cs : List (Nat × Int)) (x : S3) : List (Nat × Int) := storeN (mid cs (cellOf x.1) (cellOf x.1)) x.1 x.2.1 x.2.2
def nowL (cs : List (Nat × Int)) (xs : List S3) : List (Nat × Int) := xs.flatMap (oneL cs)
def Row8 : Nat -> List S3 -> Prop
 | _, [] => True
 | c, x :: t => cellOf x.1 = c /\ cellOf (x.1 + x.2.1 - 1) = c /\ Row8 (c + 8) t
theorem wordN_find {A B : List (Nat × Int)} {c : Nat} (h : A.find? (fun x => x.1 == c) = B.find? (fun x => x.1 == c)) : wordN A c = wordN B c := by
 unfold wordN wordOf
 rw [h]
theorem find_fr (c : Nat) : ∀ cs : List (Nat × Int), (fr cs c).find? (fun x => x.1 == c) = cs.find? (fun x => x.1 == c)
 | [] => rfl
 | y :: u => by
  have ih := find_fr c u
  unfold fr at ih |-
  by_cases hy : c <= y.1
  ·rw [List.filter_cons_of_pos (by simpa using hy), List.find?_cons, List.find?_cons, ih]
  ·rw [List.filter_cons_of_neg (by simpa using hy), List.find?_cons_of_neg (by simp; omega), ih]
theorem putCells_one {A B : List (Nat × Int)} {a l v c : Nat} (ha : cellOf a = c) (hl : cellOf l = c) (h : wordN A c = wordN B c) : putCells A a l v = putCells B a l v := by
 unfold putCells
 rw [ha, hl, h]
theorem putCells_key {A : List (Nat × Int)} {a l v c : Nat} (ha : cellOf a = c) (hl : cellOf l = c) : ∀ y ∈ putCells A a l v, y.1 = c := by
 intro y hy
 unfold putCells at hy
 rw [ha, hl, if_pos rfl, List.append_nil] at hy
 unfold cellIf at hy
 split at hy
 ·simp at hy
 ·simp at hy; rw [hy]
theorem storeN_mid (cs : List (Nat × Int)) (a k v c : Nat) (ha : cellOf a = c) (hl : cellOf (a + k - 1) = c) : storeN (mid cs c c) a k v = putCells cs a (a + k - 1) v := by
 unfold storeN
 rw [ha, hl, putCells_one ha hl (wordN_find (find_mid cs c c c (Nat.le_refl _) (Nat.le_refl _)))]
 have e1 : lo (mid cs c c) c = [] := by
  unfold lo mid
  rw [List.filter_filter]
  exact List.filter_eq_nil_iff.2 (fun x _ => by simp; omega)
 have e2 : hi (mid cs c c) c = [] := by
  unfold hi mid
  rw [List.filter_filter]
  exact List.filter_eq_nil_iff.2 (fun x _ => by simp; omega)
 rw [e1, e2, List.nil_append, List.append_nil]
theorem stL_parts (cs : List (Nat × Int)) (h8 : ∀ y ∈ cs, y.1 % 8 = 0) : ∀ (xs : List S3) (c : Nat) (A : List (Nat × Int)), c % 8 = 0 -> Row8 c xs -> (∀ y ∈ A, y.1 < c) ->
  stL (A ++ fr cs c) xs = A ++ nowL cs xs ++ fr cs (c + 8 * xs.length)
 | [], c, A, _, _, _ => by simp [stL, nowL]
 | x :: t, c, A, hc, hr, hA => by
  obtain ⟨h1, h2, h3⟩ := hr
  have e1 : lo (A ++ fr cs c) c = A := by
   unfold lo fr
   rw [List.filter_append, List.filter_filter, List.filter_eq_self.2 (fun y hy => by simpa using hA y hy), List.filter_eq_nil_iff.2 (fun y _ => by simp), List.append_nil]
  have e2 : hi (A ++ fr cs c) c = fr cs (c + 8) := by
   unfold hi fr
   rw [List.filter_append, List.filter_filter, List.filter_eq_nil_iff.2 (fun y hy => by have := hA y hy; simp; omega), List.nil_append]
   refine List.filter_congr (fun y hy => ?_)
   have := h8 y hy
   rw [<- Bool.decide_and, decide_eq_decide]
   omega
  have e3 : wordN (A ++ fr cs c) c = wordN cs c := by
   refine wordN_find ?_
   rw [List.find?_append, List.find?_eq_none.2 (fun y hy => by have := hA y hy; simp; omega), Option.none_or]
   exact find_fr c cs
  have e4 : storeN (A ++ fr cs c) x.1 x.2.1 x.2.2 = (A ++ oneL cs x) ++ fr cs (c + 8) := by
   rw [oneL, h1, storeN_mid cs _ _ _ c h1 h2]
   unfold storeN
   rw [h1, h2, e1, e2, putCells_one h1 h2 e3]
  have hA' : ∀ y ∈ A ++ oneL cs x, y.1 < c + 8 := by
   intro y hy
   rcases List.mem_append.1 hy with h | h
   ·have := hA y h; omega
   ·rw [oneL, h1, storeN_mid cs _ _ _ c h1 h2] at h
    have := putCells_key h1 h2 y h
    omega
  have ih := stL_parts cs h8 t (c + 8) (A ++ oneL cs x) (by omega) h3 hA'
  have e5 : stL (A ++ fr cs c) (x :: t) = stL (storeN (A ++ fr cs c) x.1 x.2.1 x.2.2) t := rfl
  rw [e5, e4, ih]
  simp only [nowL, List.flatMap_cons, List.length_cons, List.append_assoc]
  rw [show c + 8 + 8 * t.length = c + 8 * (t.length + 1) by omega]
theorem Row8_snoc (x : S3) : ∀ (xs : List S3) (c : Nat), Row8 c xs -> cellOf x.1 = c + 8 * xs.length -> cellOf (x.1 + x.2.1 - 1) = c + 8 * xs.length -> Row8 c (xs ++ [x])
 | [], c, _, h1, h2 => ⟨by simpa using h1, by simpa using h2, trivial⟩
 | y :: t, c, h, h1, h2 => by
  obtain ⟨a1, a2, a3⟩ := h
  simp only [List.length_cons] at h1 h2
  exact ⟨a1, a2, Row8_snoc x t (c + 8) a3 (by omega) (by omega)⟩
theorem off_cell (bs a n : Nat) (hb : bs % 8 = 0) : ∀ k, offP a n k < n -> cellOf (bs + a + offP a n k) = cellOf (bs + a) + 8 * k
 | 0, _ => by simp [offP]
 | k + 1, h => by
  have hl := offP_le a n k
  have hk : offP a n k < n := by
   rcases Nat.lt_or_ge (offP a n k) n with c | c
   ·exact c
   ·rw [offP] at h; omega
  have ih := off_cell bs a n hb k hk
  rw [offP] at h |-
  unfold cellOf at ih |-
  omega
theorem pcM_length (a p n : Nat) : ∀ k, (∀ j, j < k -> offP a n j < n) -> (pcM a p n k).length = k
 | 0, _ => rfl
 | k + 1, h => by
  rw [pcM, if_pos (h k (by omega)), List.length_append, pcM_length a p n k (fun j hj => h j (by omega))]
  rfl
theorem offP_mono (a n : Nat) (j : Nat) : ∀ i, offP a n j <= offP a n (j + i)
 | 0 => Nat.le_refl _
 | i + 1 => by
  have := offP_mono a n j i
  rw [show j + (i + 1) = (j + i) + 1 from rfl, offP]
  omega
def trP (s : ByteArray) (a : Nat) (x : P3) : S3 := (x.2.1, x.2.2, W.leS ⟨((s.data.toList.drop (x.1 - a)).take x.2.2).toArray⟩)
theorem pc_row8 (s : ByteArray) (bs a n : Nat) (hb : bs % 8 = 0) : ∀ k, (∀ j, j < k -> offP a n j < n) -> Row8 (cellOf (bs + a)) ((pcM a (bs + a) n k).map (trP s a))
 | 0, _ => trivial
 | k + 1, h => by
  have hk := h k (by omega)
  have hj := pcM_length a (bs + a) n k (fun j hj => h j (by omega))
  have ih := pc_row8 s bs a n hb k (fun j hj => h j (by omega))
  have e := off_cell bs a n hb k hk
  rw [pcM, if_pos hk, List.map_append]
  refine Row8_snoc _ _ _ ih ?_ ?_
  ·rw [List.length_map, hj]
   exact e
  ·rw [List.length_map, hj, <- e]
   show cellOf (bs + a + offP a n k + min (8 - (a + offP a n k) % 8) (n - offP a n k) - 1) = _
   unfold cellOf
   omega
theorem pcM_whole (a p n : Nat) : ∃ k, pcM a p n n = pcM a p n k /\ offP a n k = n /\ ∀ j, j < k -> offP a n j < n := by
 have hfull := offP_full a n
 have key : ∀ m, offP a n m = n -> ∃ k, k <= m /\ offP a n k = n /\ ∀ j, j < k -> offP a n j < n := by
  intro m
  induction m with
  | zero => intro h; exact ⟨0, Nat.le_refl _, h, fun j hj => by omega⟩
  | succ m ih =>
   intro h
   by_cases c : offP a n m = n
   ·obtain ⟨k, h1, h2, h3⟩ := ih c
    exact ⟨k, by omega, h2, h3⟩
   ·refine ⟨m + 1, Nat.le_refl _, h, fun j hj => ?_⟩
    have h1 := offP_le a n m
    have h2 := offP_mono a n j (m - j)
    rw [show j + (m - j) = m by omega] at h2
    omega
 obtain ⟨k, _, h2, h3⟩ := key n hfull
 exact ⟨k, (pcM_done a p n k h2).symm, h2, h3⟩
theorem lo_next (cs : List (Nat × Int)) (h : Srt cs) (h8 : ∀ y ∈ cs, y.1 % 8 = 0) (c : Nat) (hc : c % 8 = 0) : (lo cs (c + 8)).length = (lo cs c).length + (mid cs c c).length := by
 have e1 : hi cs c = cs.filter (fun x => decide (c + 8 <= x.1)) := by
  unfold hi
  refine List.filter_congr (fun y hy => ?_)
  have := h8 y hy
  rw [decide_eq_decide]
  omega
 have h1 := parts_len cs h c c (Nat.le_refl _)
 have h2 := parts_len cs h (c + 8) (c + 8) (Nat.le_refl _)
 have e2 : (hi cs c).length = (mid cs (c + 8) (c + 8)).length + (hi cs (c + 8)).length := by
  rw [e1]
  have h3 := parts_len (cs.filter (fun x => decide (c + 8 <= x.1))) (List.Pairwise.filter _ h) (c + 8) (c + 8) (Nat.le_refl _)
  have e3 : lo (cs.filter (fun x => decide (c + 8 <= x.1))) (c + 8) = [] := by
   unfold lo
   rw [List.filter_filter]
   exact List.filter_eq_nil_iff.2 (fun x _ => by simp)
  have e4 : mid (cs.filter (fun x => decide (c + 8 <= x.1))) (c + 8) (c + 8) = mid cs (c + 8) (c + 8) := by
   unfold mid
   rw [List.filter_filter]
   exact List.filter_congr (fun x _ => by simp; omega)
  have e5 : hi (cs.filter (fun x => decide (c + 8 <= x.1))) (c + 8) = hi cs (c + 8) := by
   unfold hi
   rw [List.filter_filter]
   exact List.filter_congr (fun x _ => by simp; omega)
  rw [h3, e3, e4, e5]
  simp
 omega
theorem mid_key (cs : List (Nat × Int)) (c : Nat) : ∀ y ∈ mid cs c c, y.1 = c := by
 intro y hy
 unfold mid at hy
 have := (List.mem_filter.1 hy).2
 simp at this
 omega
theorem mid_short (cs : List (Nat × Int)) (h : Srt cs) (c : Nat) : (mid cs c c).length <= 1 := by
 have hs : Srt (mid cs c c) := List.Pairwise.filter _ h
 match hm : mid cs c c with
 | [] => simp
 | [y] => simp
 | y :: z :: t =>
  rw [hm] at hs
  have h1 := (List.pairwise_cons.1 hs).1 z (by simp)
  have h2 := mid_key cs c y (by rw [hm]; simp)
  have h3 := mid_key cs c z (by rw [hm]; simp)
  omega
theorem mid_at (cs : List (Nat × Int)) (h : Srt cs) (c : Nat) (hT : (lo cs c).length < cs.length) : cs[(lo cs c).length].1 = c ↔ (mid cs c c).length = 1 := by
 have hp := parts cs h c c (Nat.le_refl _)
 have hl := mid_short cs h c
 match hm : mid cs c c with
 | [] =>
  rw [hm, List.append_nil] at hp
  have hh : (lo cs c).length < (lo cs c ++ hi cs c).length := by rw [<- hp]; exact hT
  have e : cs[(lo cs c).length] = (lo cs c ++ hi cs c)[(lo cs c).length] := by congr 1
  rw [List.length_append] at hh
  rw [e, List.getElem_append_right (Nat.le_refl _)]
  have hk : ∀ y ∈ hi cs c, c < y.1 := fun y hy => by
   unfold hi at hy
   simpa using (List.mem_filter.1 hy).2
  have := hk _ (List.getElem_mem (show (lo cs c).length - (lo cs c).length < (hi cs c).length by omega))
  simp only [List.length_nil]
  omega
 | [y] =>
  rw [hm] at hp
  rw [List.append_assoc] at hp
  have e : cs[(lo cs c).length] = (lo cs c ++ ([y] ++ hi cs c))[(lo cs c).length]'(by simp) := by congr 1
  rw [e, List.getElem_append_right (Nat.le_refl _)]
  simpa using mid_key cs c y (by rw [hm]; simp)
 | y :: z :: t => rw [hm] at hl; simp at hl
theorem mid_none (cs : List (Nat × Int)) (h : Srt cs) (c : Nat) (hT : cs.length <= (lo cs c).length) : mid cs c c = [] := by
 have := parts_len cs h c c (Nat.le_refl _)
 exact List.eq_nil_of_length_eq_zero (by omega)
theorem lo_fr (cs : List (Nat × Int)) (h : Srt cs) (c : Nat) : cs = lo cs c ++ fr cs c := by
 have hp := parts cs h c c (Nat.le_refl _)
 have e : fr cs c = mid cs c c ++ hi cs c := by
  have h1 : Srt (fr cs c) := List.Pairwise.filter _ h
  have h2 := parts (fr cs c) h1 c c (Nat.le_refl _)
  have e3 : lo (fr cs c) c = [] := by
   unfold lo fr
   rw [List.filter_filter]
   exact List.filter_eq_nil_iff.2 (fun x _ => by simp)
  have e4 : mid (fr cs c) c c = mid cs c c := by
   unfold mid fr
   rw [List.filter_filter]
   exact List.filter_congr (fun x _ => by simp; omega)
  have e5 : hi (fr cs c) c = hi cs c := by
   unfold hi fr
   rw [List.filter_filter]
   exact List.filter_congr (fun x _ => by simp; omega)
  rw [e3, e4, e5, List.nil_append] at h2
  exact h2
 rw [e, <- List.append_assoc]
 exact hp
theorem drop_fr (cs : List (Nat × Int)) (h : Srt cs) (c : Nat) : cs.drop (lo cs c).length = fr cs c := by
 obtain ⟨k, hk⟩ : ∃ k, k = (lo cs c).length := ⟨_, rfl⟩
 have e := lo_fr cs h c
 rw [<- hk]
 conv => lhs; rw [e]
 exact List.drop_left' hk.symm
theorem take_lo (cs : List (Nat × Int)) (h : Srt cs) (c : Nat) : cs.take (lo cs c).length = lo cs c := parts_take cs h c c (Nat.le_refl _)
theorem nowL_snoc (cs : List (Nat × Int)) (xs : List S3) (x : S3) : nowL cs (xs ++ [x]) = nowL cs xs ++ oneL cs x := by simp [nowL]
theorem oneL_len (cs : List (Nat × Int)) (x : S3) (h : cellOf (x.1 + x.2.1 - 1) = cellOf x.1) : (oneL cs x).length <= 1 := by
 rw [oneL, storeN_mid cs _ _ _ _ rfl h]
 unfold putCells
 rw [h, if_pos rfl, List.append_nil]
 unfold cellIf
 split <;> simp
theorem nowL_len (cs : List (Nat × Int)) : ∀ (xs : List S3) (c : Nat), Row8 c xs -> (nowL cs xs).length <= xs.length
 | [], _, _ => by simp [nowL]
 | x :: t, c, h => by
  obtain ⟨h1, h2, h3⟩ := h
  have ih := nowL_len cs t (c + 8) h3
  have h4 := oneL_len cs x (by rw [h2, h1])
  simp only [nowL, List.flatMap_cons, List.length_append, List.length_cons] at ih |-
  omega
theorem written_eq (cs : List (Nat × Int)) (h : Srt cs) (h8 : ∀ y ∈ cs, y.1 % 8 = 0) (xs : List S3) (c : Nat) (hc : c % 8 = 0) (hr : Row8 c xs) : stL cs xs = lo cs c ++ nowL cs xs ++ fr cs (c + 8 * xs.length) := by
 have e := lo_fr cs h c
 have h1 := stL_parts cs h8 xs c (lo cs c) hc hr (fun y hy => by unfold lo at hy; simpa using (List.mem_filter.1 hy).2)
 rw [<- e] at h1
 exact h1
theorem cellOf8 (c : Nat) : cellOf c % 8 = 0 := by unfold cellOf; omega
theorem offs_lt {a n k : Nat} (h : offP a n k < n) : ∀ j, j < k + 1 -> offP a n j < n := fun j hj => by
 have h2 := offP_mono a n j (k - j)
 rw [show j + (k - j) = k by omega] at h2
 omega
def wsum (xs : List P3) : Nat := (xs.map (fun x => x.2.2)).sum
theorem wsum_snoc (xs : List P3) (x : P3) : wsum (xs ++ [x]) = wsum xs + x.2.2 := by simp [wsum]
theorem wsum_pcM (a p n : Nat) : ∀ k, wsum (pcM a p n k) = offP a n k
 | 0 => rfl
 | k + 1 => by
  have ih := wsum_pcM a p n k
  have hl := offP_le a n k
  rw [pcM, offP]
  split
  ·rw [wsum_snoc, ih]; rfl
  ·rw [List.append_nil, ih]; omega
theorem pcM_mem (a p n k : Nat) (h : offP a n k < n) : ∀ K, k < K -> pcOf a p n (offP a n k) ∈ pcM a p n K
 | 0, hK => by omega
 | K + 1, hK => by
  rw [pcM]
  by_cases c : k = K
  ·subst c
   rw [if_pos h]
   simp
  ·exact List.mem_append_left _ (pcM_mem a p n k h K (by omega))
theorem rnd (s : ByteArray) (bs a k : Nat) (hb : bs % 8 = 0) (hlt : offP a s.size k < s.size) (x : P3) (hx : x = pcOf a (bs + a) s.size (offP a s.size k)) :
  (pcM a (bs + a) s.size k).length = k /\ cellOf x.2.1 = cellOf (bs + a) + 8 * k /\ cellOf (x.2.1 + x.2.2 - 1) = cellOf (bs + a) + 8 * k /\ 1 <= x.2.2 /\ x.2.2 <= 8 /\ x.1 - a = offP a s.size k /\ x.2.1 < bs + a + s.size /\
   x ∈ pcM a (bs + a) s.size s.size /\ wsum (pcM a (bs + a) s.size k) = offP a s.size k /\ offP a s.size k + x.2.2 <= s.size /\ Row8 (cellOf (bs + a)) ((pcM a (bs + a) s.size k).map (trP s a)) := by
 have e := off_cell bs a s.size hb k hlt
 have hk := offP_ge a s.size k hlt
 subst hx
 refine ⟨pcM_length _ _ _ _ (fun j hj => offs_lt hlt j (by omega)), e, ?_, ?_, ?_, ?_, ?_, pcM_mem _ _ _ _ hlt _ (by omega), wsum_pcM _ _ _ _, ?_, pc_row8 s bs a s.size hb k (fun j hj => offs_lt hlt j (by omega))⟩
 ·rw [<- e]
  show cellOf (bs + a + offP a s.size k + min (8 - (a + offP a s.size k) % 8) (s.size - offP a s.size k) - 1) = _
  unfold cellOf
  omega
 all_goals (unfold pcOf; simp only; omega)
def B2 (w : World) (b t : Nat) (x y : Value) : Prop := w.heap[b]? = some (.cells #[x, y] t (0, 0))
theorem B2.lt {w : World} {b t : Nat} {x y : Value} (h : B2 w b t x y) : b < w.heap.size := (Array.getElem?_eq_some_iff.1 h).1
theorem B2.c0 {w : World} {b t : Nat} {x y : Value} (h : B2 w b t x y) : w.cell? ⟨b, 0, none⟩ = some x := by
 rw [B2] at h; simp [World.cell?, h]
theorem B2.c1 {w : World} {b t : Nat} {x y : Value} (h : B2 w b t x y) : w.cell? ⟨b, 1, none⟩ = some y := by
 rw [B2] at h; simp [World.cell?, h]
theorem B2.f0 {w : World} {b t : Nat} {x y : Value} (h : B2 w b t x y) : w.frozen? ⟨b, 0, none⟩ = false := by
 rw [B2] at h; simp [World.frozen?, h]
theorem B2.f1 {w : World} {b t : Nat} {x y : Value} (h : B2 w b t x y) : w.frozen? ⟨b, 1, none⟩ = false := by
 rw [B2] at h; simp [World.frozen?, h]
theorem B2.new (w : World) (t : Nat) (x y : Value) : B2 (w.alloc (.cells #[x, y] t)) w.heap.size t x y := heap_alloc_new w _
theorem B2.keep {w w' : World} {b t : Nat} {x y : Value} (h : B2 w b t x y) (hb : Below w.heap.size w w') : B2 w' b t x y := (hb.block b h.lt).trans h
theorem B2.set {w : World} {b t : Nat} {x y : Value} (h : B2 w b t x y) (u v : Value) : B2 ((w.setCell ⟨b, 0, none⟩ u).setCell ⟨b, 1, none⟩ v) b t u v := heap_setCell_same _ b 1 _ t v (heap_setCell_same w b 0 _ t u h)
theorem B2.ne {w : World} {b b' t t' : Nat} {x y x' y' : Value} (h : B2 w b t x y) (h' : B2 w b' t' x' y') (ht : t ≠ t') : b ≠ b' := by
 intro e
 rw [B2] at h h'
 rw [e, h'] at h
 simp at h
 exact ht h.2.symm
theorem B2.setO {w : World} {b b' t : Nat} {x y : Value} (h : B2 w b t x y) (hn : b ≠ b') (u v : Value) : B2 ((w.setCell ⟨b', 0, none⟩ u).setCell ⟨b', 1, none⟩ v) b t x y :=
 (Below.heap_setCell _ ⟨b', 1, none⟩ v b hn).trans ((Below.heap_setCell w ⟨b', 0, none⟩ u b hn).trans h)
theorem B2.own {w : World} {b t B e n : Nat} {x y v : Value} {xs : List Value} (hb : B2 w b t x y) (ht : t ≠ e) (h : w.ownsRow B e 2 v n xs) (p q : Value) : ((w.setCell ⟨b, 0, none⟩ p).setCell ⟨b, 1, none⟩ q).ownsRow B e 2 v n xs := by
 have hn : v.ownBlock ≠ some b := by
  intro hv
  obtain ⟨c, fz, hq⟩ := Go.Lib.ownsRow_kind h b hv
  rw [B2] at hb
  rw [hb] at hq
  simp at hq
  exact ht hq.2.1
 have g1 : w.grownBy ((w.setCell ⟨b, 0, none⟩ p).setCell ⟨b, 1, none⟩ q) (some b) := by
  have e1 := grownBy_setCell' w b p
  exact ⟨rfl, rfl, rfl, Nat.le_trans e1.size (KeepsWalks.setCell _ _ q).size, fun k hk1 hk => (Below.heap_setCell _ ⟨b, 1, none⟩ q k (fun e => hk (by rw [e]))).trans (e1.block k hk1 hk)⟩
 exact h.kept g1 (Or.inr hn)
theorem wpListIn_append_sl {F : Fence} {n : Nat} (w : World) {ops : Array Oper} {rest : List Oper} {o : Oper} {a : Act} {Q : Exit -> Act -> World -> Prop}
  (hg : o.guard = none) (s x : Operand) (hop : o.op = Op.call { callee := Callee.builtin Builtin.append, args := #[s, x], argTypes := #[27, 27] }) (base : Nat) (v u : Value) (xs ns : List (Nat × Int)) (hs : a.eval s = v) (hown : w.ownsRow base 48 2 v xs.length (rowOf .u64 xs))
  (hx : a.eval x = u) (hsl : Sl .u64 w u ns) (b1 : xs.length + ns.length <= 1073741824) (b3 : base <= w.heap.size)
  (hK : ∀ v' w', w'.ownsRow base 48 2 v' (xs ++ ns).length (rowOf .u64 (xs ++ ns)) -> w.grownBy w' v.ownBlock -> wpListIn F n Tryz.prog ops Q rest (a.put o.dst v') w') : wpListIn F n Tryz.prog ops Q (o :: rest) a w := by
 obtain ⟨i0, hi, hz0, hz1, hz2⟩ := info_parts info58
 have key : ∃ v' w', (Builtin.append_ #[27, 27] o.type #[v, u]).run Tryz.prog w = .ok v' w' /\ w'.ownsRow base 48 2 v' (xs ++ ns).length (rowOf .u64 (xs ++ ns)) /\ w.grownBy w' v.ownBlock := by
  obtain ⟨ao, cap, rfl, h1, h2, h3, h4⟩ := id hsl
  cases ao with
  | none =>
   obtain rfl : cap = 0 := h3 rfl
   obtain rfl : ns = [] := List.eq_nil_of_length_eq_zero (by omega)
   refine ⟨v, w, run_append_owned_none w base 27 o.type 48 i0 2 Tryz.underlying27 hi v _ _ hown, ?_, ⟨rfl, rfl, rfl, Nat.le_refl _, fun _ _ _ => rfl⟩⟩
   rw [List.append_nil]
   exact hown
  | some ad =>
   obtain ⟨v', w', hrun, r1, r2, r3⟩ := run_append_own (P := Tryz.prog) w base 27 o.type 48 i0 _ 2 16 Tryz.underlying27 hi hz0 hz1 hz2 rfl (by decide) v _ _ hown ad ns.length cap (rowOf .u64 ns) (rowOf_length _ _) (rowOf_cells hsl) (rowOf_one _ _) (by unfold maxLen; omega) (by omega) b3
   refine ⟨v', w', hrun, ?_, r2⟩
   rw [List.length_append, rowOf_append]
   exact r1
 obtain ⟨v', w', hrun, r1, r2⟩ := key
 refine wpListIn_plain hg fun K hK' => ?_
 unfold Oper.wpIn
 refine ⟨?_, ?_⟩
 ·simp [Oper.about, hop, resolve, Target.leads, Sem.run_pure]
 ·rw [Oper.semAt_plain F _ _ (by rw [hop]; intro c hc'; cases hc')]
  simp [execOp, hop, resolve, invoke, builtin, hs, hx, hrun, Result.andThen]
  exact hK' _ _ (hK v' w' r1 r2)
def OneT (B : Nat) (ms one : List (Nat × Int)) (v : Value) (w : World) : Prop := ∃ u u', v = .tuple #[.agg #[u, u'], .agg #[.int .i64 0, .int .u64 0]] /\ OwnH B w u u' ms one
theorem OneT.keep {B : Nat} {ms one : List (Nat × Int)} {v : Value} {w w' : World} (h : OneT B ms one v w) (hb : Below w.heap.size w w') : OneT B ms one v w' := by
 obtain ⟨u, u', e, o⟩ := h
 exact ⟨u, u', e, o.keep hb⟩
def OneA (B : Nat) (ms one : List (Nat × Int)) (v : Value) (w : World) : Prop := ∃ u u', v = .agg #[u, u'] /\ OwnH B w u u' ms one
theorem OneA.keep {B : Nat} {ms one : List (Nat × Int)} {v : Value} {w w' : World} (h : OneA B ms one v w) (hb : Below w.heap.size w w') : OneA B ms one v w' := by
 obtain ⟨u, u', e, o⟩ := h
 exact ⟨u, u', e, o.keep hb⟩
def NewB (B t : Nat) (x y : Value) (v : Value) (w : World) : Prop := ∃ b, v = .pointer (some ⟨b, 0, none⟩) /\ B <= b /\ B2 w b t x y
theorem NewB.keep {B t : Nat} {x y v : Value} {w w' : World} (h : NewB B t x y v w) (hb : Below w.heap.size w w') : NewB B t x y v w' := by
 obtain ⟨b, e, l, o⟩ := h
 exact ⟨b, e, l, o.keep hb⟩
namespace C
set_option maxHeartbeats 1000000 in
theorem isNaN75 (a : Nat) (w : World) : Calls Tryz.prog 237 #[.int .u64 a] w fun e w' => e = .returned (.bool false) /\ w' = w := by
 go_enter Tryz.func237, Tryz.ntmps237
 go_wp2
 go_ret
 exact ⟨rfl, rfl⟩
set_option maxHeartbeats 1000000 in
theorem compare64 (a b : Nat) (w : World) : Calls Tryz.prog 234 #[.int .u64 a, .int .u64 b] w fun e w' => e = .returned (.int .i64 (cmpN a b)) /\ w' = w := by
 have KA := isNaN75 a w
 have KB := isNaN75 b w
 by_cases h1 : a < b
 ·have HR : Hid (cmpN a b = -1) := by show _ = _; rw [cmpN, if_pos h1]
  have y1 : (a : Int) < (b : Int) := by omega
  go_enter Tryz.func234, Tryz.ntmps234
  go_wp2_with fail
  refine KA.mono ?_
  rintro e w1 ⟨rfl, rfl⟩
  go_wp2_with fail
  refine KB.mono ?_
  rintro e w2 ⟨rfl, rfl⟩
  go_wp2
  go_ret
  exact ⟨by rw [HR.out]; rfl, rfl⟩
 ·have y1 : ¬ (a : Int) < (b : Int) := by omega
  by_cases h2 : b < a
  ·have HR : Hid (cmpN a b = 1) := by show _ = _; rw [cmpN, if_neg h1, if_pos h2]
   have y2 : (b : Int) < (a : Int) := by omega
   go_enter Tryz.func234, Tryz.ntmps234
   go_wp2_with fail
   refine KA.mono ?_
   rintro e w1 ⟨rfl, rfl⟩
   go_wp2_with fail
   refine KB.mono ?_
   rintro e w2 ⟨rfl, rfl⟩
   go_wp2
   go_ret
   exact ⟨by rw [HR.out]; rfl, rfl⟩
  ·have HR : Hid (cmpN a b = 0) := by show _ = _; rw [cmpN, if_neg h1, if_neg h2]
   have y2 : ¬ (b : Int) < (a : Int) := by omega
   go_enter Tryz.func234, Tryz.ntmps234
   go_wp2_with fail
   refine KA.mono ?_
   rintro e w1 ⟨rfl, rfl⟩
   go_wp2_with fail
   refine KB.mono ?_
   rintro e w2 ⟨rfl, rfl⟩
   go_wp2
   go_ret
   exact ⟨by rw [HR.out]; rfl, rfl⟩
set_option maxHeartbeats 1000000 in
theorem searchc63 (p n : Nat) (r : Int) (w : World) : Calls Tryz.prog 233 #[.agg #[.int .u64 p, .int .u64 r], .int .u64 n] w fun e w' => e = .returned (.int .i64 (cmpN p n)) /\ Below w.heap.size w w' := by
 obtain ⟨W, hW, hb, hsz, c0, c1, _, _⟩ := box2 w (.int .u64 p) (.int .u64 r) 48
 have K := compare64 p n W
 go_enter Tryz.func233, Tryz.ntmps233
 go_wp2_with fail
 refine K.mono ?_
 rintro e w1 ⟨rfl, rfl⟩
 go_wp2
 go_ret
 exact ⟨rfl, hb⟩
set_option maxHeartbeats 2000000 in
theorem bsearch62 (v : Value) (ps : List (Nat × Int)) (n : Nat) (w : World) (hp : Sl .u64 w v ps) (hs : Srt ps) (hl : ps.length <= 1073741824) :
  Calls Tryz.prog 232 #[v, .int .u64 n, .func (.func 233) #[] #[]] w fun e w' => e = .returned (.tuple #[.int .i64 (((lo ps n).length : Nat) : Int), .bool (isIn ps n)]) /\ Below w.heap.size w w' := by
 obtain ⟨ao, cap, rfl, h1, h2, _, h4⟩ := hp
 have HX : Hid (∀ i (h : i < ps.length), ∃ b o, ao = some ⟨b, o, none⟩ /\ w.cell? ⟨b, o + i * 2, none⟩ = some (.int .u64 (ps[i].1 : Int)) /\ w.cell? ⟨b, o + i * 2 + 1, none⟩ = some (.int .u64 ps[i].2)) := h4
 have HA : Hid (∀ i (h : i < ps.length), i < (lo ps n).length ↔ ps[i].1 < n) := fun i h => lo_at hs n i h
 have HI : Hid (∀ h : (lo ps n).length < ps.length, isIn ps n = decide (ps[(lo ps n).length].1 = n)) := isIn_at hs n
 have HE : Hid (¬ (lo ps n).length < ps.length -> isIn ps n = false) := isIn_end hs n
 have hml : (lo ps n).length <= ps.length := lo_len _ _
 generalize (lo ps n).length = m at HA HI HE hml |-
 generalize isIn ps n = bb at HI HE |-
 clear h4 hs
 go_enter Tryz.func232, Tryz.ntmps232
 go_wp2
 go_loopw [9, 10] (fun a b wr => ∃ i j : Nat, a = .int .i64 i /\ b = .int .i64 j /\ i <= m /\ m <= j /\ j <= ps.length /\ Below w.heap.size w wr) (fun a b _ => (intOf b).toNat - (intOf a).toNat)
 case atStart => exact ⟨0, ps.length, rfl, rfl, Nat.zero_le _, hml, Nat.le_refl _, Below.refl _ _⟩
 case round =>
  obtain ⟨i, j, rfl, rfl, q1, q2, q3, hb⟩ := hrel
  by_cases hij : i < j
  ·obtain ⟨h, hh⟩ : ∃ h, h = (i + j) / 2 := ⟨_, rfl⟩
   have g1 : i <= h := by omega
   have g2 : h < j := by omega
   have g3 : h < ps.length := by omega
   have y1 : IntKind.u64.wrap ((i : Int) + (j : Int)) / 2 = (h : Int) := by rw [IntKind.wrap_u64]; omega
   have y2 : ((i : Int) + (j : Int)) / 2 = (h : Int) := by omega
   have y3 : IntKind.u64.wrap ((i : Int) + (j : Int)) = (i : Int) + (j : Int) := by rw [IntKind.wrap_u64]; omega
   obtain ⟨b, o, rfl, d0, d1⟩ := HX.out h g3
   have d0 := keep_cell hb d0
   have d1 := keep_cell hb d1
   have ha := HA.out h g3
   generalize ps[h].1 = p at d0 ha
   generalize ps[h].2 = r at d1
   have K := searchc63 p n r wr
   clear hh
   by_cases hp : h < m
   ·have e1 : cmpN p n = -1 := by rw [cmpN, if_pos (ha.1 hp)]
    rw [e1] at K
    clear ha
    go_wp2_with fail
    refine K.mono ?_
    rintro e w1 ⟨rfl, hb1⟩
    go_wp2
    go_roundw
    case rel => exact ⟨h + 1, j, by go_num, rfl, by omega, q2, q3, below_tr hb hb1⟩
    case measure => simp [intOf]; omega
   ·have e1 : ¬ cmpN p n < 0 := by
     have : ¬ p < n := fun c => hp (ha.2 c)
     rw [cmpN, if_neg this]
     split <;> decide
    generalize cmpN p n = cc at K e1
    clear ha
    go_wp2_with fail
    refine K.mono ?_
    rintro e w1 ⟨rfl, hb1⟩
    go_wp2
    go_roundw
    case rel => exact ⟨i, h, rfl, rfl, q1, by omega, by omega, below_tr hb hb1⟩
    case measure => simp [intOf]; omega
  ·obtain rfl : i = m := by omega
   by_cases hil : i < ps.length
   ·obtain ⟨b, o, rfl, d0, d1⟩ := HX.out i hil
    have d0 := keep_cell hb d0
    have d1 := keep_cell hb d1
    have hi := HI.out hil
    generalize ps[i].1 = p at d0 hi
    generalize ps[i].2 = r at d1
    have K := searchc63 p n r wr
    have HR : Hid ((cmpN p n == 0) = bb) := by
     show _ = _
     rw [hi, cmpN, Bool.eq_iff_iff]
     simp only [beq_iff_eq, decide_eq_true_eq]
     split
     ·constructor
      ·intro c; cases c
      ·omega
     ·split
      ·constructor
       ·intro c; cases c
       ·omega
      ·simp; omega
    have e1 := HR.out
    generalize cmpN p n = cc at K HR e1
    clear hi HI HE
    go_wp2_with fail
    refine K.mono ?_
    rintro e w1 ⟨rfl, hb1⟩
    go_wp2
    go_ret2
    exact ⟨rfl, below_tr hb hb1⟩
   ·have HR : Hid (bb = false) := HE.out hil
    obtain rfl : i = ps.length := by omega
    go_wp2
    go_ret2
    exact ⟨by rw [HR.out]; rfl, hb⟩
set_option maxHeartbeats 1000000 in
theorem firstCell86 (v : Value) (ps : List (Nat × Int)) (n : Nat) (w : World) (hp : Sl .u64 w v ps) (hs : Srt ps) (hl : ps.length <= 1073741824) :
  Calls Tryz.prog 223 #[v, .int .u64 n] w fun e w' => e = .returned (.int .i64 (((lo ps n).length : Nat) : Int)) /\ Below w.heap.size w w' := by
 have K := bsearch62 v ps n w hp hs hl
 obtain ⟨_, _, rfl, _⟩ := hp
 generalize (lo ps n).length = m at K |-
 generalize isIn ps n = bb at K |-
 go_enter Tryz.func223, Tryz.ntmps223
 go_wp2_with fail
 refine K.mono ?_
 rintro e w1 ⟨rfl, hb⟩
 go_wp2
 go_ret
 exact ⟨rfl, hb⟩
theorem cellOf87 (a : Nat) (ha : a < 18446744073709551616) (w : World) : Calls Tryz.prog 224 #[.int .u64 a] w fun e w' => e = .returned (.int .u64 (cellOf a : Int)) /\ w' = w := by
 obtain ⟨c, hc⟩ : ∃ c, c = cellOf a := ⟨_, rfl⟩
 have hf := cellOf_facts a
 obtain ⟨r, hr⟩ : ∃ r, r = a % 8 := ⟨_, rfl⟩
 have y1 : (a : Int).tmod 8 = (r : Int) := by rw [Int.tmod_eq_emod_of_nonneg (by omega)]; omega
 have y1' : (a : Int) % 8 = (r : Int) := by omega
 have y2 : IntKind.u64.wrap ((a : Int) - (r : Int)) = (c : Int) := by rw [IntKind.wrap_u64, hc]; unfold cellOf; omega
 rw [<- hc]
 clear hc hf hr
 go_enter Tryz.func224, Tryz.ntmps224
 go_wp2
 go_ret
 exact ⟨rfl, rfl⟩
end C
end Go.Proofs.YtimfipkbddpdmaaGreatDoor.Gm
