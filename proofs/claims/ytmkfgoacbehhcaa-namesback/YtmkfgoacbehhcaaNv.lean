/- What is proved here: there and back: what is written is read, and a name is found where its first symbol is. -/
import Derived.Test.YtmkfgoacbehhcaaNu
import Derived.Test.YtmkfgoacbehhcaaNy
import Derived.Test.YtmkfgoacbehhcaaNk
namespace Go.Proofs.Ytmkfgoacbehhcaa
open Go.RowKit
set_option linter.unusedVariables false
set_option linter.unusedSimpArgs false
set_option maxRecDepth 100000
attribute [local go_sem] Oper.semAt_some
theorem found_or (gs : List Sy) (hb : ∀ s ∈ gs, s.Bd) (hf : fitL gs = true) (ways : Nat) (h1 : 1 ≤ ways) (h2 : ways ≤ 64) (nm : L8) (F : Nat) (hF : F = findN ⟨symsL gs, strsL gs, hashB gs ways⟩ nm) :
    (F = 0 ∧ ∀ i, i < gs.length → isIt gs nm (i + 1) = false) ∨ ∃ n, F = n + 1 ∧ n < gs.length ∧ isIt gs nm (n + 1) = true ∧ ∀ i, i < n → isIt gs nm (i + 1) = false := by
  rw [find_write gs hb hf ways h1 h2] at hF
  rcases nxt_found (isIt gs nm) gs.length gs.length 0 (Nat.zero_le _) (Nat.sub_zero _) with ⟨a, b⟩ | ⟨n, a, b, c, d, e⟩
  · exact Or.inl ⟨hF.trans b, fun i hi => a (i + 1) (by omega) (by omega)⟩
  · obtain ⟨m, rfl⟩ : ∃ m, n = m + 1 := ⟨n - 1, by omega⟩
    exact Or.inr ⟨m, hF.trans e, by omega, c, fun i hi => d (i + 1) (by omega) (by omega)⟩
set_option maxHeartbeats 4000000 in
theorem back_walk (gs : List Sy) (v : Value) (ws : Nat) (hws : ws < 256) (nm : L8) (w : World) (hs : SlY w v gs) (hb : ∀ g ∈ gs, g.Bd) :
    Calls Try.prog 5 #[v, .int .u8 (ws : Int), .string ⟨nm.toArray⟩] w fun e w' => e = .returned (.bool true) ∧ Below w.heap.size w w' := by
  have KA : Hid (∀ w', Calls Try.prog 8 #[] w' fun e w'' => e = .returned (.bool true) ∧ Below w'.heap.size w' w'') := awake8
  obtain ⟨S, hS⟩ : ∃ S : ByteArray, S = ⟨nm.toArray⟩ := ⟨_, rfl⟩
  have hSz : S.size = nm.length := by rw [← bt_len, hS, bal]
  rw [← hS]
  obtain ⟨ao, cap, hve, h1v, h2v, h3v, h4v⟩ := id hs
  subst hve
  by_cases h1 : 60 < gs.length
  · have i1 : (60 : Int) < (gs.length : Int) := by omega
    have d1 := decide_eq_true i1
    clear hS hSz h1 hws hb h1v h2v h3v h4v hs
    go_enter Try.func5, Try.ntmps5
    go_wp2_with fail
    refine (KA.out w).mono ?_
    rintro e w1 ⟨rfl, hb1⟩
    go_wp2
    go_ret
    exact ⟨rfl, hb1⟩
  have i1 : ¬ (60 : Int) < (gs.length : Int) := by omega
  have d1 := decide_eq_false i1
  by_cases h2 : 100 < nm.length
  · have i2 : (100 : Int) < (S.size : Int) := by omega
    have d2 := decide_eq_true i2
    clear hS hSz h1 hws hb h1v h2v h3v h4v hs h2
    go_enter Try.func5, Try.ntmps5
    go_wp2_with fail
    refine (KA.out w).mono ?_
    rintro e w1 ⟨rfl, hb1⟩
    go_wp2
    go_ret
    exact ⟨rfl, hb1⟩
  have i2 : ¬ (100 : Int) < (S.size : Int) := by omega
  have d2 := decide_eq_false i2
  have K17 := rfit17 gs _ w hs
  cases hf : fitL gs with
  | false =>
    rw [hf] at K17
    clear hS hSz h1 hws hb h1v h2v h3v h4v hs h2 hf
    go_enter Try.func5, Try.ntmps5
    go_wp2_with fail
    refine K17.mono ?_
    rintro e w1 ⟨rfl, hb1⟩
    clear K17
    go_wp2_with fail
    refine (KA.out w1).mono ?_
    rintro e w2 ⟨rfl, hb2⟩
    go_wp2
    go_ret
    exact ⟨rfl, below_tr hb1 hb2⟩
  | true =>
    rw [hf] at K17
    obtain ⟨ws1, hw1⟩ : ∃ z, z = ws % 64 := ⟨_, rfl⟩
    have ew : (ws : Int) % 64 = (ws1 : Int) := by omega
    have ew' : (ws : Int).tmod 64 = (ws1 : Int) := by rw [Int.tmod_eq_emod_of_nonneg (by omega)]; exact ew
    obtain ⟨T, hT⟩ : ∃ T, T = (⟨symsL gs, strsL gs, hashB gs (ws1 + 1)⟩ : Tb) := ⟨_, rfl⟩
    obtain ⟨F, hF⟩ : ∃ F, F = findN T nm := ⟨_, rfl⟩
    have hor := found_or gs hb hf (ws1 + 1) (by omega) (by omega) nm F (by rw [← hT]; exact hF)
    have hrw := read_write gs hb hf (ws1 + 1)
    rw [← hT] at hrw
    have hln : T.syms.length ≤ 1000000 ∧ T.strs.length ≤ 1000000 ∧ T.hash.length ≤ 1000000 := by
      rw [hT]
      refine ⟨by show (symsL gs).length ≤ _; rw [syms_len]; omega, ?_, ?_⟩
      · show (strsL gs).length ≤ _
        have h := strs_le gs (fitL_parts hf).2 (fitL_parts hf).1 gs.length
        rw [List.take_length] at h
        omega
      · show (hashB gs (ws1 + 1)).length ≤ _
        unfold hashB
        rw [flat4_len, nums_len]
        omega
    have hwT : wrT gs ((ws1 : Int) + 1) = T := by
      rw [hT]
      unfold wrT okW
      rw [hf, if_pos (by simp; omega)]
      rfl
    have HS : Hid (SlY w (.slice ao gs.length cap) gs ∧ (∀ g ∈ gs, g.Bd) ∧ S = ⟨nm.toArray⟩ ∧ gs.length ≤ 60 ∧ nm.length ≤ 100) := ⟨hs, hb, hS, by omega, by omega⟩
    have HOR : Hid ((F = 0 ∧ ∀ i, i < gs.length → isIt gs nm (i + 1) = false) ∨ ∃ n, F = n + 1 ∧ n < gs.length ∧ isIt gs nm (n + 1) = true ∧ ∀ i, i < n → isIt gs nm (i + 1) = false) := hor
    have K18 : Hid (∀ w', Below w.heap.size w w' → Calls Try.prog 18 #[.slice ao gs.length cap, .int .i64 ((ws1 : Int) + 1)] w' fun e w'' => e = .returned T.val ∧ Below w'.heap.size w' w'') := fun w' h => by
      have := write18 gs _ ((ws1 : Int) + 1) w' (HS.out.1.keep h) HS.out.2.1 (by have := HS.out.2.2.2.1; omega)
      rw [hwT] at this
      exact this
    have K9 : Hid (∀ w', Calls Try.prog 9 #[T.val] w' fun e w'' => (∃ v, e = .returned (.tuple #[v, .int .i64 0]) ∧ OwnY w'.heap.size w'' v gs) ∧ Below w'.heap.size w' w'') := fun w' => by
      have := read9 T hln.1 hln.2.1 w'
      rw [hrw.2, err_yes hrw.1] at this
      exact this
    obtain ⟨FA, hFA⟩ : ∃ z, z = fdA F := ⟨_, rfl⟩
    obtain ⟨FB, hFB⟩ : ∃ z, z = decide (F ≠ 0) := ⟨_, rfl⟩
    have HFA : Hid (FA = fdA F ∧ FB = decide (F ≠ 0)) := ⟨hFA, hFB⟩
    have K11 : Hid (∀ w', Calls Try.prog 11 #[T.val, .string S] w' fun e w'' => e = .returned (.tuple #[.int .i64 FA, .bool FB]) ∧ Below w'.heap.size w' w'') := fun w' => by
      have := find11 T nm hln.1 hln.2.1 hln.2.2 (by have := HS.out.2.2.2.2; omega) w'
      rw [← hF, ← hFA, ← hFB, ← HS.out.2.2.1] at this
      exact this
    have K13 : Hid (∀ w' v', Below w.heap.size w w' → SlY w' v' gs → Calls Try.prog 13 #[.slice ao gs.length cap, v'] w' fun e w'' => e = .returned (.bool true) ∧ Below w'.heap.size w' w'') := fun w' v' h h' => by
      have := rsame13 _ v' gs gs w' (HS.out.1.keep h) h' (by have := HS.out.2.2.2.1; omega)
      rw [(symsEq_iff gs gs).2 rfl] at this
      exact this
    clear hs hb hS hSz h1 h2 hf h1v h2v h3v h4v hws hw1 hT hF hor hrw hln hwT hFA hFB
    go_enter Try.func5, Try.ntmps5
    go_wp2_with fail
    refine K17.mono ?_
    rintro e w1 ⟨rfl, hb1⟩
    have HB1 : Hid (Below w.heap.size w w1) := hb1
    clear K17 hb1
    go_wp2_with fail
    refine (K18.out w1 HB1.out).mono ?_
    rintro e w2 ⟨rfl, hb2⟩
    obtain ⟨V4, W4, hV4, hW4, ⟨q0, q1, q2⟩, ⟨f0, f1, f2⟩, e4, hb4, hz4⟩ := new3 w2 T
    have H4 : Hid (Below w.heap.size w W4 ∧ T3 T w2.heap.size W4) := ⟨below_tr HB1.out (below_tr hb2 hb4), e4⟩
    obtain ⟨r0, r1, r2⟩ := e4.cells
    clear K18 HB1 hb2 hb4 hz4 e4
    unfold Tb.val at K9 K11 ⊢
    generalize hSS : (⟨T.syms.toArray⟩ : ByteArray) = SS at K9 K11 r0 hW4 ⊢
    generalize hQQ : (⟨T.strs.toArray⟩ : ByteArray) = QS at K9 K11 r1 hW4 ⊢
    generalize hHH : (⟨T.hash.toArray⟩ : ByteArray) = HH at K9 K11 r2 hW4 ⊢
    have HN : Hid ((⟨T.syms.toArray⟩ : ByteArray) = SS ∧ (⟨T.strs.toArray⟩ : ByteArray) = QS ∧ (⟨T.hash.toArray⟩ : ByteArray) = HH) := ⟨hSS, hQQ, hHH⟩
    clear hSS hQQ hHH
    go_wp2_with fail
    refine (K9.out W4).mono ?_
    rintro e w5 ⟨⟨v2, rfl, hO⟩, hb5⟩
    have hsl := hO.sl
    obtain ⟨a2, c2, rfl⟩ := hO.shape
    have H5 : Hid (Below w.heap.size w w5 ∧ T3 T w2.heap.size w5 ∧ SlY w5 (.slice a2 gs.length c2) gs) := ⟨below_tr H4.out.1 hb5, H4.out.2.keep hb5, hsl⟩
    clear K9 q0 q1 q2 f0 f1 f2 r0 r1 r2 hV4 hW4 H4 hb5 hO hsl
    go_wp2_with fail
    refine (K13.out w5 _ H5.out.1 H5.out.2.2).mono ?_
    rintro e w6 ⟨rfl, hb6⟩
    have H6 : Hid (Below w.heap.size w w6) := below_tr H5.out.1 hb6
    have t6 := H5.out.2.1.keep hb6
    obtain ⟨r0, r1, r2⟩ := t6.cells
    rw [HN.out.1] at r0
    rw [HN.out.2.1] at r1
    rw [HN.out.2.2] at r2
    clear hb6 t6 K13
    go_wp2_with fail
    refine (K11.out w6).mono ?_
    rintro e w7 ⟨rfl, hb7⟩
    have H7 : Hid (Below w.heap.size w w7) := below_tr H6.out hb7
    clear K11 r0 r1 r2 H5 H6 hb7 HN
    go_wp2
    go_loopw [55] (fun x wr => ∃ k : Nat, x = .int .i64 (k : Int) ∧ k ≤ gs.length ∧ (∀ i, i < k → isIt gs nm (i + 1) = false) ∧ Below w.heap.size w wr) (fun x _ => gs.length - (intOf x).toNat)
    case atStart => exact ⟨0, rfl, Nat.zero_le _, fun i hi => absurd hi (Nat.not_lt_zero _), H7.out⟩
    case round =>
      obtain ⟨k, rfl, hk, hno, hbr⟩ := hrel
      have HNO : Hid (∀ i, i < k → isIt gs nm (i + 1) = false) := hno
      have HBR : Hid (Below w.heap.size w wr) := hbr
      clear hno
      by_cases hlt : k < gs.length
      · have hsl := HS.out.1.keep hbr
        obtain ⟨ao', cap', he, _, _, _, h4⟩ := hsl
        injection he with he1 he2 he3
        obtain ⟨bb, oo, hbo, h5⟩ := h4 k hlt
        rw [← he1] at hbo
        obtain ⟨g, hg⟩ : ∃ g, g = gs[k] := ⟨_, rfl⟩
        have hit := isIt_at gs nm (k + 1) (by omega) (by simpa using hlt)
        have hgx : gs[k + 1 - 1]'(by simpa using hlt) = g := by rw [hg]; congr 1
        rw [hgx] at hit
        rw [← hg] at h5
        have hq : ((⟨g.name.toArray⟩ : ByteArray).toList == S.toList) = (g.name == nm) := by rw [bal, HS.out.2.2.1, bal]
        obtain ⟨W7, hW7, hb8, hz7, q0, q1, q2, q3, q4⟩ := box5 wr g
        obtain ⟨r0, r1, r2, r3, r4⟩ := h5
        obtain ⟨GN, hGN⟩ : ∃ z : ByteArray, z = ⟨g.name.toArray⟩ := ⟨_, rfl⟩
        rw [← hGN] at hq hW7 q0 r0
        obtain ⟨GP, hGP⟩ : ∃ z, z = g.part := ⟨_, rfl⟩
        obtain ⟨GB, hGB⟩ : ∃ z, z = g.bind := ⟨_, rfl⟩
        rw [← hGP, ← hGB] at hit hW7
        rw [← hGB] at q3 r3
        rw [← hGP] at q4 r4
        have hki : (k : Int) < (gs.length : Int) := by omega
        have HB7 : Hid (Below w.heap.size w W7) := below_tr HBR.out hb8
        have HGO : Hid (isIt gs nm (k + 1) = false → ∀ i, i < k + 1 → isIt gs nm (i + 1) = false) := fun h i hi => by
          by_cases e : i = k
          · rw [e]; exact h
          · exact HNO.out i (by omega)
        have HST : Hid (isIt gs nm (k + 1) = true → FA = (k : Int) ∧ FB = true) := fun h => by
          rcases HOR.out with ⟨e, a⟩ | ⟨n, e, a, b, c⟩
          · rw [a k hlt] at h; cases h
          · have hnk : n = k := by
              rcases Nat.lt_trichotomy n k with h' | h' | h'
              · rw [HNO.out n h'] at b; cases b
              · exact h'
              · rw [c k h'] at h; cases h
            rw [HFA.out.1, HFA.out.2, e, hnk]
            refine ⟨?_, by simp⟩
            unfold fdA
            rw [if_neg (by omega)]
            omega
        subst hbo
        clear hbr h4 he1 he2 he3 hg hgx hb8 hz7 hGN hGP hGB
        cases hnm : (g.name == nm) with
        | false =>
          rw [hnm] at hq hit
          have HH : Hid (isIt gs nm (k + 1) = false) := by rw [Hid, hit]; rfl
          clear hnm hit
          go_wp2
          go_roundw
          case rel => exact ⟨k + 1, by go_num, by omega, HGO.out HH.out, by first | exact HB7.out | exact below_drewN HB7.out _⟩
          case measure => simp [intOf]; omega
        | true =>
          rw [hnm] at hq hit
          by_cases hp : GP = 0
          · have HH : Hid (isIt gs nm (k + 1) = false) := by rw [Hid, hit, hp]; rfl
            have hpb : (GP == 0) = true := by simpa using hp
            have hpn : (GP != 0) = false := by simpa using hp
            clear hnm hit hp
            go_wp2
            go_roundw
            case rel => exact ⟨k + 1, by go_num, by omega, HGO.out HH.out, by first | exact HB7.out | exact below_drewN HB7.out _⟩
            case measure => simp [intOf]; omega
          · have hpb : (GP == 0) = false := by simpa using hp
            have hpn : (GP != 0) = true := by simpa using hp
            by_cases hbd : GB = 0
            · have HH : Hid (isIt gs nm (k + 1) = false) := by rw [Hid, hit, hpn, hbd]; rfl
              have hbb : (GB == 0) = true := by simpa using hbd
              have hbn : (GB != 0) = false := by simpa using hbd
              clear hnm hit hp hbd
              go_wp2
              go_roundw
              case rel => exact ⟨k + 1, by go_num, by omega, HGO.out HH.out, by first | exact HB7.out | exact below_drewN HB7.out _⟩
              case measure => simp [intOf]; omega
            · have hbb : (GB == 0) = false := by simpa using hbd
              have hbn : (GB != 0) = true := by simpa using hbd
              have HH : Hid (isIt gs nm (k + 1) = true) := by rw [Hid, hit, hpn, hbn]; rfl
              obtain ⟨e1, e2⟩ := HST.out HH.out
              clear hnm hit hp hbd HST HFA
              subst e1 e2
              go_wp2_with fail
              refine (KA.out W7).mono ?_
              rintro e w8 ⟨rfl, hb8⟩
              go_wp2
              go_ret
              exact ⟨rfl, below_tr HB7.out hb8⟩
      · have e0 : FA = 0 ∧ FB = false := by
          rcases HOR.out with ⟨e, a⟩ | ⟨n, e, a, b, c⟩
          · rw [HFA.out.1, HFA.out.2, e]; exact ⟨rfl, rfl⟩
          · rw [HNO.out n (by omega)] at b; cases b
        obtain ⟨e1, e2⟩ := e0
        have hki : ¬ (k : Int) < (gs.length : Int) := by omega
        clear HFA hbr
        subst e1 e2
        go_wp2_with fail
        refine (KA.out wr).mono ?_
        rintro e w8 ⟨rfl, hb8⟩
        go_wp2
        go_ret
        exact ⟨rfl, below_tr HBR.out hb8⟩
end Go.Proofs.Ytmkfgoacbehhcaa
