/- What is proved here: the document's Fit: what it lets pass can be. -/
import Derived.Test.YtgdflobcbhnimaaGreatPky
namespace Go.Proofs.YtgdflobcbhnimaaGreat
open Go.RowKit 
set_option linter.unusedVariables false
set_option linter.unusedSimpArgs false
set_option maxRecDepth 100000
def NmOk (l : Lb) (k : Nat) : Prop := ∀ i (h : i < l.needed.length), i < k → l.needed[i] ≠ [] ∧ textB l.needed[i] = true
def RlOk (l : Lb) (k : Nat) : Prop := ∀ i (h : i < l.rels.length), i < k → relP l l.rels[i]
def ToldIf (P : Prop) (w : World) (e : Ending) (w' : World) : Prop := ∃ b, e = .returned (.bool b) ∧ Below w.heap.size w w' ∧ (b = true → P)
theorem ToldIf.no {P : Prop} {w w' : World} (h : Below w.heap.size w w') : ToldIf P w (.returned (.bool false)) w' := ⟨false, rfl, h, fun h => by cases h⟩
theorem ToldIf.yes {P : Prop} {w w' : World} (h : Below w.heap.size w w') (p : P) : ToldIf P w (.returned (.bool true)) w' := ⟨true, rfl, h, fun _ => p⟩
set_option maxHeartbeats 4000000 in
theorem rfit10 (l : Lb) (q : Lv) (w : World) (hv : LvIs l q w) (hbd : l.Bd) : Calls Tryz.prog 10 #[l.val q] w fun e w' => ToldIf (FitP l) w e w' := by
  obtain ⟨W1, hW1, b1, n1, s1⟩ := box14 l q w
  have HB : Hid (Below w.heap.size w W1) := b1
  have HV : Hid (LvIs l q W1) := hv.keep b1
  have c1 : W1.cell? ⟨w.heap.size, 1, none⟩ = some (.int .u32 (l.base : Int)) := blk_at n1 1 rfl
  have c2 : W1.cell? ⟨w.heap.size, 2, none⟩ = some (.int .u32 (l.entry : Int)) := blk_at n1 2 rfl
  have c3 : W1.cell? ⟨w.heap.size, 3, none⟩ = some (.string ⟨l.code.toArray⟩) := blk_at n1 3 rfl
  have c4 : W1.cell? ⟨w.heap.size, 4, none⟩ = some (.string ⟨l.data.toArray⟩) := blk_at n1 4 rfl
  have c5 : W1.cell? ⟨w.heap.size, 5, none⟩ = some (.int .u32 (l.bss : Int)) := blk_at n1 5 rfl
  have c6 : W1.cell? ⟨w.heap.size, 6, none⟩ = some (q.vn) := blk_at n1 6 rfl
  have c7 : W1.cell? ⟨w.heap.size, 7, none⟩ = some (.string ⟨l.soname.toArray⟩) := blk_at n1 7 rfl
  have c8 : W1.cell? ⟨w.heap.size, 8, none⟩ = some (.string ⟨l.interp.toArray⟩) := blk_at n1 8 rfl
  have c9 : W1.cell? ⟨w.heap.size, 9, none⟩ = some (q.vs) := blk_at n1 9 rfl
  have c10 : W1.cell? ⟨w.heap.size, 10, none⟩ = some (q.vr) := blk_at n1 10 rfl
  have c11 : W1.cell? ⟨w.heap.size, 11, none⟩ = some (q.vl) := blk_at n1 11 rfl
  have c12 : W1.cell? ⟨w.heap.size, 12, none⟩ = some (.int .i64 l.global) := blk_at n1 12 rfl
  have c13 : W1.cell? ⟨w.heap.size, 13, none⟩ = some (.int .u32 (l.init : Int)) := blk_at n1 13 rfl
  obtain ⟨LC, hLC⟩ : ∃ z : Array Value, z = (l.cells q).toArray := ⟨_, rfl⟩
  have hval : l.val q = .agg LC := by rw [hLC]; rfl
  rw [hval]
  rw [← hLC] at hW1
  obtain ⟨C, hC⟩ : ∃ B : ByteArray, B = ⟨l.code.toArray⟩ := ⟨_, rfl⟩
  rw [← hC] at c3
  have zC : C.size = l.code.length := by rw [← bt_len, hC, bal]
  obtain ⟨D, hD⟩ : ∃ B : ByteArray, B = ⟨l.data.toArray⟩ := ⟨_, rfl⟩
  rw [← hD] at c4
  have zD : D.size = l.data.length := by rw [← bt_len, hD, bal]
  obtain ⟨SN, hSN⟩ : ∃ B : ByteArray, B = ⟨l.soname.toArray⟩ := ⟨_, rfl⟩
  rw [← hSN] at c7
  have zSN : SN.size = l.soname.length := by rw [← bt_len, hSN, bal]
  obtain ⟨IP, hIP⟩ : ∃ B : ByteArray, B = ⟨l.interp.toArray⟩ := ⟨_, rfl⟩
  rw [← hIP] at c8
  have zIP : IP.size = l.interp.length := by rw [← bt_len, hIP, bal]
  have tSN : SN.toList = l.soname := by rw [hSN, bal]
  have tIP : IP.toList = l.interp := by rw [hIP, bal]
  obtain ⟨na, nc, hvn, _⟩ := id hv.n
  obtain ⟨ya, yc, hvy, _⟩ := id hv.s
  obtain ⟨ra, rc, hvr, _⟩ := id hv.r
  obtain ⟨la, lc, hvl, _⟩ := id hv.l
  have K22 : Hid (∀ w', Below w.heap.size w w' → Calls Tryz.prog 22 #[q.vs] w' fun e w'' => e = .returned (.bool (fitL l.syms)) ∧ Below w'.heap.size w' w'') := fun w' hw => rfit17 l.syms q.vs w' ((hv.keep hw).s)
  rw [hvn] at c6
  rw [hvy] at c9 K22
  rw [hvr] at c10
  rw [hvl] at c11
  have HN : Hid (q.vn = .slice na l.needed.length nc) := hvn
  have HR : Hid (q.vr = .slice ra l.rels.length rc) := hvr
  have HT : Hid (C.size = l.code.length ∧ D.size = l.data.length ∧ SN.toList = l.soname ∧ IP.toList = l.interp ∧ l.Bd) := ⟨zC, zD, tSN, tIP, hbd⟩
  obtain ⟨BA, hBA⟩ : ∃ z, z = l.base := ⟨_, rfl⟩
  obtain ⟨EN, hEN⟩ : ∃ z, z = l.entry := ⟨_, rfl⟩
  obtain ⟨BS, hBS⟩ : ∃ z, z = l.bss := ⟨_, rfl⟩
  obtain ⟨NI, hNI⟩ : ∃ z, z = l.init := ⟨_, rfl⟩
  obtain ⟨NN, hNN⟩ : ∃ z, z = l.needed.length := ⟨_, rfl⟩
  obtain ⟨YY, hYY⟩ : ∃ z, z = l.syms.length := ⟨_, rfl⟩
  obtain ⟨RR, hRR⟩ : ∃ z, z = l.rels.length := ⟨_, rfl⟩
  obtain ⟨LL, hLL⟩ : ∃ z, z = l.locals.length := ⟨_, rfl⟩
  obtain ⟨GG, hGG⟩ : ∃ z, z = l.global := ⟨_, rfl⟩
  obtain ⟨FY, hFY⟩ : ∃ z, z = fitL l.syms := ⟨_, rfl⟩
  have k0 : BA < 4294967296 := by rw [hBA]; exact hbd.b
  have HX : Hid (BA = l.base ∧ EN = l.entry ∧ BS = l.bss ∧ NI = l.init ∧ NN = l.needed.length ∧ YY = l.syms.length ∧ RR = l.rels.length ∧ LL = l.locals.length ∧ GG = l.global ∧ FY = fitL l.syms) := ⟨hBA, hEN, hBS, hNI, hNN, hYY, hRR, hLL, hGG, hFY⟩
  rw [← hBA] at c1
  rw [← hEN] at c2
  rw [← hBS] at c5
  rw [← hNN] at c6 HN
  rw [← hYY] at c9 K22
  rw [← hFY] at K22
  rw [← hRR] at c10 HR
  rw [← hLL] at c11
  rw [← hGG] at c12
  rw [← hNI] at c13
  obtain ⟨FP, hFP⟩ : ∃ P : Prop, P = FitP l := ⟨_, rfl⟩
  have HFP : Hid (FP = FitP l) := hFP
  rw [← hFP]
  clear hv hbd hLC hval n1 b1 s1 hC hD hSN hIP zC zD zSN zIP tSN tIP hvn hvy hvr hvl hBA hEN hBS hNI hNN hYY hRR hLL hGG hFY hFP
  obtain ⟨CR, hCR⟩ : ∃ z : Int, z = (C.size : Int) % 4 := ⟨_, rfl⟩
  have hCRt : (C.size : Int).tmod 4 = CR := by rw [Int.tmod_eq_emod_of_nonneg (by omega)]; exact hCR.symm
  obtain ⟨BR, hBR⟩ : ∃ z : Int, z = (BA : Int) % 4096 := ⟨_, rfl⟩
  have hBRt : (BA : Int).tmod 4096 = BR := by rw [Int.tmod_eq_emod_of_nonneg (by omega)]; exact hBR.symm
  have HCR : Hid (CR = (C.size : Int) % 4) := hCR
  have HBR : Hid (BR = (BA : Int) % 4096) := hBR
  clear hCR hBR k0
  by_cases x1 : ¬ BR = 0
  · go_enter Tryz.func10, Tryz.ntmps10
    go_wp2
    go_ret
    exact ToldIf.no HB.out
  · have ex1 : BR = 0 := Decidable.not_not.1 x1
    rw [ex1] at hBRt HBR
    clear x1
    by_cases x2 : (1073741824 : Int) < (BA : Int)
    · have dx2 := decide_eq_true x2
      go_enter Tryz.func10, Tryz.ntmps10
      go_wp2
      go_ret
      exact ToldIf.no HB.out
    · have dx2 := decide_eq_false x2
      by_cases x3 : (4096 : Int) < (C.size : Int)
      · have dx3 := decide_eq_true x3
        go_enter Tryz.func10, Tryz.ntmps10
        go_wp2
        go_ret
        exact ToldIf.no HB.out
      · have dx3 := decide_eq_false x3
        by_cases x4 : ¬ CR = 0
        · go_enter Tryz.func10, Tryz.ntmps10
          go_wp2
          go_ret
          exact ToldIf.no HB.out
        · have ex4 : CR = 0 := Decidable.not_not.1 x4
          rw [ex4] at hCRt HCR
          clear x4
          by_cases x5 : (4096 : Int) < (D.size : Int)
          · have dx5 := decide_eq_true x5
            go_enter Tryz.func10, Tryz.ntmps10
            go_wp2
            go_ret
            exact ToldIf.no HB.out
          · have dx5 := decide_eq_false x5
            by_cases x6 : (8192 : Int) < (BS : Int)
            · have dx6 := decide_eq_true x6
              go_enter Tryz.func10, Tryz.ntmps10
              go_wp2
              go_ret
              exact ToldIf.no HB.out
            · have dx6 := decide_eq_false x6
              by_cases x7 : (4096 : Int) < (EN : Int)
              · have dx7 := decide_eq_true x7
                go_enter Tryz.func10, Tryz.ntmps10
                go_wp2
                go_ret
                exact ToldIf.no HB.out
              · have dx7 := decide_eq_false x7
                by_cases x8 : (4096 : Int) < (NI : Int)
                · have dx8 := decide_eq_true x8
                  go_enter Tryz.func10, Tryz.ntmps10
                  go_wp2
                  go_ret
                  exact ToldIf.no HB.out
                · have dx8 := decide_eq_false x8
                  go_enter Tryz.func10, Tryz.ntmps10
                  have HX1 : Hid (BA % 4096 = 0 ∧ BA ≤ 1073741824 ∧ C.size ≤ 4096 ∧ C.size % 4 = 0 ∧ D.size ≤ 4096 ∧ BS ≤ 8192 ∧ EN ≤ 4096 ∧ NI ≤ 4096) := by
                    have h1 := HBR.out; have h2 := HCR.out
                    refine ⟨?_, ?_, ?_, ?_, ?_, ?_, ?_, ?_⟩ <;> omega
                  by_cases x9 : (8 : Int) < (NN : Int)
                  · have dx9 := decide_eq_true x9
                    go_wp2
                    go_ret
                    exact ToldIf.no HB.out
                  · have dx9 := decide_eq_false x9
                    go_wp2_with fail
                    refine (fitName21 SN W1).mono ?_
                    rintro e w2 ⟨rfl, rfl⟩
                    cases hso : textB SN.toList with
                    | false =>
                      go_wp2
                      go_ret
                      exact ToldIf.no HB.out
                    | true =>
                      go_wp2_with fail
                      refine (fitName21 IP _).mono ?_
                      rintro e w3 ⟨rfl, rfl⟩
                      cases hip : textB IP.toList with
                      | false =>
                        go_wp2
                        go_ret
                        exact ToldIf.no HB.out
                      | true =>
                        by_cases x12 : (60 : Int) < (YY : Int)
                        · have dx12 := decide_eq_true x12
                          go_wp2
                          go_ret
                          exact ToldIf.no HB.out
                        · have dx12 := decide_eq_false x12
                          go_wp2_with fail
                          refine (K22.out _ HB.out).mono ?_
                          rintro e w4 ⟨rfl, hb4⟩
                          have HB4 : Hid (Below w.heap.size w w4) := below_tr HB.out hb4
                          replace c4 := keep_cell hb4 c4
                          replace c6 := keep_cell hb4 c6
                          replace c9 := keep_cell hb4 c9
                          replace c10 := keep_cell hb4 c10
                          replace c11 := keep_cell hb4 c11
                          replace c12 := keep_cell hb4 c12
                          clear c1 c2 c3 c5 c7 c8 c13 hW1
                          cases hfy : FY with
                          | false =>
                            go_wp2
                            go_ret
                            exact ToldIf.no HB4.out
                          | true =>
                            by_cases x14 : (60 : Int) < (RR : Int)
                            · have dx14 := decide_eq_true x14
                              go_wp2
                              go_ret
                              exact ToldIf.no HB4.out
                            · have dx14 := decide_eq_false x14
                              by_cases x15 : (30 : Int) < (LL : Int)
                              · have dx15 := decide_eq_true x15
                                go_wp2
                                go_ret
                                exact ToldIf.no HB4.out
                              · have dx15 := decide_eq_false x15
                                by_cases x16 : GG < 0
                                · have dx16 := decide_eq_true x16
                                  go_wp2
                                  go_ret
                                  exact ToldIf.no HB4.out
                                · have dx16 := decide_eq_false x16
                                  by_cases x17 : (YY : Int) < GG
                                  · have dx17 := decide_eq_true x17
                                    go_wp2
                                    go_ret
                                    exact ToldIf.no HB4.out
                                  · have dx17 := decide_eq_false x17
                                    have HX2 : Hid (NN ≤ 8 ∧ textB SN.toList = true ∧ textB IP.toList = true ∧ YY ≤ 60 ∧ FY = true ∧ RR ≤ 60 ∧ LL ≤ 30 ∧ 0 ≤ GG ∧ GG ≤ (YY : Int)) := ⟨by omega, hso, hip, by omega, hfy, by omega, by omega, by omega, by omega⟩
                                    go_wp2
                                    clear hso hip hfy
                                    obtain ⟨a6, n6, he6, _, _, _, HS6⟩ := (HV.out.keep hb4).n
                                    rw [HN.out] at he6
                                    injection he6 with e61 e62 e63
                                    subst e61
                                    have HSN : Hid (∀ i (h : i < l.needed.length), ∃ b o, na = some ⟨b, o, none⟩ ∧ w4.cell? ⟨b, o + i, none⟩ = some (.string ⟨(l.needed[i]).toArray⟩)) := HS6
                                    clear HS6 e62 e63
                                    go_loopw [3] (fun x wr => ∃ k : Nat, x = .int .i64 (k : Int) ∧ k ≤ NN ∧ NmOk l k ∧ wr = w4) (fun x _ => NN - (intOf x).toNat)
                                    case atStart => exact ⟨0, rfl, Nat.zero_le _, fun i h h2 => absurd h2 (Nat.not_lt_zero _), rfl⟩
                                    case round =>
                                      obtain ⟨k, rfl, hk, hok, rfl⟩ := hrel
                                      by_cases hlt : k < NN
                                      · have hlt2 : k < l.needed.length := by rw [← HX.out.2.2.2.2.1]; exact hlt
                                        obtain ⟨b, o, hao, c0⟩ := HSN.out k hlt2
                                        obtain ⟨S, hS⟩ : ∃ S : ByteArray, S = ⟨(l.needed[k]).toArray⟩ := ⟨_, rfl⟩
                                        rw [← hS] at c0
                                        have HSE : Hid (S.toList = l.needed[k]) := by rw [hS]; exact bal _
                                        have hki : (k : Int) < (NN : Int) := by omega
                                        subst hao
                                        clear hS
                                        by_cases hz : S.toList = []
                                        · have e1 : S.toList.isEmpty = true := by rw [hz]; rfl
                                          go_wp2
                                          go_ret
                                          exact ToldIf.no HB4.out
                                        · have e1 : S.toList.isEmpty = false := by cases hh : S.toList with | nil => exact absurd hh hz | cons a t => rfl
                                          have HNZ : Hid (¬ S.toList = []) := hz
                                          go_wp2_with fail
                                          refine (fitName21 S _).mono ?_
                                          rintro e w5 ⟨rfl, rfl⟩
                                          cases ht : textB S.toList with
                                          | false =>
                                            go_wp2
                                            go_ret
                                            exact ToldIf.no HB4.out
                                          | true =>
                                            go_wp2
                                            go_roundw
                                            case rel =>
                                              refine ⟨k + 1, by go_num, by omega, fun i h h2 => ?_, by trivial⟩
                                              by_cases hi : i < k
                                              · exact hok i h hi
                                              · obtain rfl : i = k := by omega
                                                rw [← HSE.out]
                                                exact ⟨HNZ.out, ht⟩
                                            case measure => simp [intOf]; omega
                                      · have hki : ¬ (k : Int) < (NN : Int) := by omega
                                        obtain rfl : k = NN := by omega
                                        clear hk hlt HSN HN
                                        go_wp2
                                        obtain ⟨a7, n7, he7, _, _, _, HS7⟩ := (HV.out.keep hb4).r
                                        rw [HR.out] at he7
                                        injection he7 with e71 e72 e73
                                        subst e71
                                        have HRN : Hid (∀ i (h : i < l.rels.length), ∃ b o, ra = some ⟨b, o, none⟩ ∧ At3 wr b (o + i * 3) l.rels[i]) := HS7
                                        clear HS7 e72 e73 c6
                                        obtain ⟨wy, hwy⟩ : ∃ z, z = wr := ⟨_, rfl⟩
                                        subst hwy
                                        go_loopw [4] (fun x wr => ∃ j : Nat, x = .int .i64 (j : Int) ∧ j ≤ RR ∧ RlOk l j ∧ Below wy.heap.size wy wr) (fun x _ => RR - (intOf x).toNat)
                                        case atStart => exact ⟨0, rfl, Nat.zero_le _, fun i h h2 => absurd h2 (Nat.not_lt_zero _), Below.refl _ _⟩
                                        case round =>
                                          obtain ⟨j, rfl, hj, hrk, hbr⟩ := hrel
                                          have HBR2 : Hid (Below wy.heap.size wy wr) := hbr
                                          have HBW : Hid (Below w.heap.size w wr) := below_tr HB4.out hbr
                                          replace c4 := keep_cell hbr c4
                                          replace c9 := keep_cell hbr c9
                                          replace c10 := keep_cell hbr c10
                                          by_cases hlj : j < RR
                                          · have hlj2 : j < l.rels.length := by rw [← HX.out.2.2.2.2.2.2.1]; exact hlj
                                            obtain ⟨b, o, hao, r0, r1, r2⟩ := HRN.out j hlj2
                                            replace r0 := keep_cell hbr r0
                                            replace r1 := keep_cell hbr r1
                                            replace r2 := keep_cell hbr r2
                                            obtain ⟨AT, hAT⟩ : ∃ z, z = (l.rels[j]).at_ := ⟨_, rfl⟩
                                            obtain ⟨KD, hKD⟩ : ∃ z, z = (l.rels[j]).kind := ⟨_, rfl⟩
                                            obtain ⟨SY, hSY⟩ : ∃ z, z = (l.rels[j]).sym := ⟨_, rfl⟩
                                            rw [← hAT] at r0
                                            rw [← hKD] at r1
                                            rw [← hSY] at r2
                                            have HRE : Hid (AT = (l.rels[j]).at_ ∧ KD = (l.rels[j]).kind ∧ SY = (l.rels[j]).sym) := ⟨hAT, hKD, hSY⟩
                                            have hji : (j : Int) < (RR : Int) := by omega
                                            subst hao
                                            clear hAT hKD hSY hbr
                                            obtain ⟨W2, hW2, hb2, m10, m11, m12⟩ := boxR wr ⟨AT, KD, SY⟩
                                            dsimp only at hW2 m10 m11 m12
                                            have HW2 : Hid (Below w.heap.size w W2 ∧ Below wy.heap.size wy W2) := ⟨below_tr HBW.out hb2, below_tr HBR2.out hb2⟩
                                            replace c4 := keep_cell hb2 c4
                                            replace c9 := keep_cell hb2 c9
                                            clear hb2
                                            by_cases y1 : KD = 0 ∨ KD = 3
                                            · have HY1 : Hid (KD = 0 ∨ KD = 3) := y1
                                              by_cases y3 : (D.size : Int) < 4
                                              · have dy3 := decide_eq_true y3
                                                rcases y1 with rfl | rfl
                                                all_goals
                                                  go_wp2
                                                  go_ret
                                                  exact ToldIf.no HW2.out.1
                                              · have dy3 := decide_eq_false y3
                                                obtain ⟨D4, hD4⟩ : ∃ D4, D.size = D4 + 4 := ⟨D.size - 4, by omega⟩
                                                have m0 : (D.size : Int) - 4 = (D4 : Int) := by omega
                                                have hd4 : D4 ≤ 4096 := by omega
                                                have m2 : IntKind.i64.wrap (D4 : Int) = (D4 : Int) := by rw [IntKind.wrap_i64]; omega
                                                have HD4 : Hid (D.size = D4 + 4) := hD4
                                                clear hD4
                                                by_cases y4 : (D4 : Int) < (AT : Int)
                                                · have dy4 := decide_eq_true y4
                                                  rcases y1 with rfl | rfl
                                                  all_goals
                                                    go_wp2
                                                    go_ret
                                                    exact ToldIf.no HW2.out.1
                                                · have dy4 := decide_eq_false y4
                                                  have HY4 : Hid (AT + 4 ≤ D4 + 4) := Nat.add_le_add_right (Int.ofNat_le.1 (Int.not_lt.1 y4)) 4
                                                  by_cases y5 : SY < 0
                                                  · have dy5 := decide_eq_true y5
                                                    rcases y1 with rfl | rfl
                                                    all_goals
                                                      go_wp2
                                                      go_ret
                                                      exact ToldIf.no HW2.out.1
                                                  · have dy5 := decide_eq_false y5
                                                    by_cases y6 : (YY : Int) < SY
                                                    · have dy6 := decide_eq_true y6
                                                      rcases y1 with rfl | rfl
                                                      all_goals
                                                        go_wp2
                                                        go_ret
                                                        exact ToldIf.no HW2.out.1
                                                    · have dy6 := decide_eq_false y6
                                                      have HRK : Hid (RlOk l (j + 1)) := fun i h h2 => by
                                                        by_cases hi : i < j
                                                        · exact hrk i h hi
                                                        · obtain rfl : i = j := Nat.le_antisymm (Nat.le_of_lt_succ h2) (Nat.not_lt.1 hi)
                                                          have hx := HX.out
                                                          have ht := HT.out
                                                          have hd := HD4.out
                                                          have hr := HRE.out
                                                          exact ⟨by rw [← hr.2.1]; exact HY1.out, (by rw [← hr.1, ← ht.2.1, hd]; exact HY4.out), (by rw [← hr.2.2]; exact Int.not_lt.1 y5), (by rw [← hr.2.2, ← hx.2.2.2.2.2.1]; exact Int.not_lt.1 y6)⟩
                                                      rcases y1 with rfl | rfl
                                                      all_goals
                                                        go_wp2
                                                        go_roundw
                                                        case rel => exact ⟨j + 1, by go_num, Nat.succ_le_of_lt hlj, HRK.out, HW2.out.2⟩
                                                        case measure => simp [intOf]; omega
                                            · have y11 : ¬ KD = 0 := fun e => y1 (Or.inl e)
                                              have y12 : ¬ KD = 3 := fun e => y1 (Or.inr e)
                                              clear y1
                                              go_wp2
                                              go_ret
                                              exact ToldIf.no HW2.out.1
                                          · have hji : ¬ (j : Int) < (RR : Int) := by omega
                                            have HFIN : Hid FP := by
                                              show FP
                                              rw [HFP.out]
                                              obtain ⟨g1, g2, g3, g4, g5, g6, g7, g8⟩ := HX1.out
                                              obtain ⟨f1, f2, f3, f4, f5, f6, f7, f8, f9⟩ := HX2.out
                                              obtain ⟨t1, t2, t3, t4, t5⟩ := HT.out
                                              obtain ⟨e1, e2, e3, e4, e5, e6, e7, e8, e9, e10⟩ := HX.out
                                              exact { b0 := by omega, b1 := by omega, en := by omega, ini := by omega, c0 := by omega, c1 := by omega, da := by omega, bs := by omega, n0 := by omega, n1 := fun s hs => by
                                                        obtain ⟨i, hi, rfl⟩ := List.mem_iff_getElem.1 hs
                                                        have := hok i hi (by omega)
                                                        exact ⟨this.1, textB_is this.2⟩, so := by rw [← t3]; exact textB_is f2, ip := by rw [← t4]; exact textB_is f3, y0 := by omega, y1 := by rw [← e10]; exact f5, r0 := by omega, r1 := fun r hr => by
                                                        obtain ⟨i, hi, rfl⟩ := List.mem_iff_getElem.1 hr
                                                        exact hrk i hi (by omega), lo := by omega, g0 := by rw [← e9]; exact f8, g1 := by rw [← e9, ← e6]; exact f9 }
                                            go_wp2
                                            go_ret
                                            exact ToldIf.yes HBW.out HFIN.out
end Go.Proofs.YtgdflobcbhnimaaGreat
namespace Go.Proofs.YtgdflobcbhnimaaGreat
open Go.RowKit 
set_option linter.unusedVariables false
set_option linter.unusedSimpArgs false
set_option maxRecDepth 100000
set_option maxHeartbeats 4000000 in
theorem few7 (l : Lb) (q : Lv) (w : World) (hv : LvIs l q w) : Calls Tryz.prog 7 #[l.val q] w fun e w' => ToldIf True w e w' := by
  obtain ⟨W1, hW1, b1, n1, s1⟩ := box14 l q w
  have HB : Hid (Below w.heap.size w W1) := b1
  have HV : Hid (LvIs l q W1) := hv.keep b1
  have c3 : W1.cell? ⟨w.heap.size, 3, none⟩ = some (.string ⟨l.code.toArray⟩) := blk_at n1 3 rfl
  have c4 : W1.cell? ⟨w.heap.size, 4, none⟩ = some (.string ⟨l.data.toArray⟩) := blk_at n1 4 rfl
  have c6 : W1.cell? ⟨w.heap.size, 6, none⟩ = some (q.vn) := blk_at n1 6 rfl
  have c7 : W1.cell? ⟨w.heap.size, 7, none⟩ = some (.string ⟨l.soname.toArray⟩) := blk_at n1 7 rfl
  have c8 : W1.cell? ⟨w.heap.size, 8, none⟩ = some (.string ⟨l.interp.toArray⟩) := blk_at n1 8 rfl
  have c9 : W1.cell? ⟨w.heap.size, 9, none⟩ = some (q.vs) := blk_at n1 9 rfl
  have c10 : W1.cell? ⟨w.heap.size, 10, none⟩ = some (q.vr) := blk_at n1 10 rfl
  have c11 : W1.cell? ⟨w.heap.size, 11, none⟩ = some (q.vl) := blk_at n1 11 rfl
  obtain ⟨LC, hLC⟩ : ∃ z : Array Value, z = (l.cells q).toArray := ⟨_, rfl⟩
  have hval : l.val q = .agg LC := by rw [hLC]; rfl
  rw [hval]
  rw [← hLC] at hW1
  generalize (⟨l.code.toArray⟩ : ByteArray) = C at c3
  generalize (⟨l.data.toArray⟩ : ByteArray) = D at c4
  generalize (⟨l.soname.toArray⟩ : ByteArray) = SN at c7
  generalize (⟨l.interp.toArray⟩ : ByteArray) = IP at c8
  obtain ⟨na, nc, hvn, _⟩ := id hv.n
  obtain ⟨ya, yc, hvy, _⟩ := id hv.s
  obtain ⟨ra, rc, hvr, _⟩ := id hv.r
  obtain ⟨la, lc, hvl, _⟩ := id hv.l
  rw [hvn] at c6
  rw [hvy] at c9
  rw [hvr] at c10
  rw [hvl] at c11
  have HN : Hid (q.vn = .slice na l.needed.length nc) := hvn
  have HR : Hid (q.vs = .slice ya l.syms.length yc) := hvy
  obtain ⟨NN, hNN⟩ : ∃ z, z = l.needed.length := ⟨_, rfl⟩
  obtain ⟨YY, hYY⟩ : ∃ z, z = l.syms.length := ⟨_, rfl⟩
  have HX : Hid (NN = l.needed.length ∧ YY = l.syms.length) := ⟨hNN, hYY⟩
  rw [← hNN] at c6 HN
  rw [← hYY] at c9 HR
  generalize l.rels.length = RR at c10
  generalize l.locals.length = LL at c11
  obtain ⟨TT, hTT⟩ : ∃ z, z = wrap64 ((SN.size : Int) + (IP.size : Int)) := ⟨_, rfl⟩
  have hTW : wrap64 ((SN.size : Int) + (IP.size : Int)) = TT := hTT.symm
  clear hv hLC hval n1 b1 s1 hvn hvy hvr hvl hNN hYY hTT
  by_cases x1 : (5000 : Int) < (C.size : Int)
  · have dx1 := decide_eq_true x1
    go_enter Tryz.func7, Tryz.ntmps7
    go_wp2
    go_ret
    exact ToldIf.no HB.out
  · have dx1 := decide_eq_false x1
    by_cases x2 : (5000 : Int) < (D.size : Int)
    · have dx2 := decide_eq_true x2
      go_enter Tryz.func7, Tryz.ntmps7
      go_wp2
      go_ret
      exact ToldIf.no HB.out
    · have dx2 := decide_eq_false x2
      by_cases x3 : (12 : Int) < (NN : Int)
      · have dx3 := decide_eq_true x3
        go_enter Tryz.func7, Tryz.ntmps7
        go_wp2
        go_ret
        exact ToldIf.no HB.out
      · have dx3 := decide_eq_false x3
        by_cases x4 : (70 : Int) < (YY : Int)
        · have dx4 := decide_eq_true x4
          go_enter Tryz.func7, Tryz.ntmps7
          go_wp2
          go_ret
          exact ToldIf.no HB.out
        · have dx4 := decide_eq_false x4
          by_cases x5 : (70 : Int) < (RR : Int)
          · have dx5 := decide_eq_true x5
            go_enter Tryz.func7, Tryz.ntmps7
            go_wp2
            go_ret
            exact ToldIf.no HB.out
          · have dx5 := decide_eq_false x5
            by_cases x6 : (40 : Int) < (LL : Int)
            · have dx6 := decide_eq_true x6
              go_enter Tryz.func7, Tryz.ntmps7
              go_wp2
              go_ret
              exact ToldIf.no HB.out
            · have dx6 := decide_eq_false x6
              by_cases x7 : (200 : Int) < TT
              · have dx7 := decide_eq_true x7
                go_enter Tryz.func7, Tryz.ntmps7
                go_wp2
                go_ret
                exact ToldIf.no HB.out
              · have dx7 := decide_eq_false x7
                go_enter Tryz.func7, Tryz.ntmps7
                go_wp2
                obtain ⟨a6, n6, he6, _, _, _, HS6⟩ := HV.out.n
                rw [HN.out] at he6
                injection he6 with e61 e62 e63
                subst e61
                have HSN : Hid (∀ i (h : i < l.needed.length), ∃ b o, na = some ⟨b, o, none⟩ ∧ W1.cell? ⟨b, o + i, none⟩ = some (.string ⟨(l.needed[i]).toArray⟩)) := HS6
                clear HS6 e62 e63 hTW
                go_loopw [54] (fun x wr => ∃ k : Nat, x = .int .i64 (k : Int) ∧ k ≤ NN ∧ wr = W1) (fun x _ => NN - (intOf x).toNat)
                case atStart => exact ⟨0, rfl, Nat.zero_le _, rfl⟩
                case round =>
                  obtain ⟨k, rfl, hk, rfl⟩ := hrel
                  by_cases hlt : k < NN
                  · have hlt2 : k < l.needed.length := by rw [← HX.out.1]; exact hlt
                    obtain ⟨b, o, hao, c0⟩ := HSN.out k hlt2
                    obtain ⟨S, hS⟩ : ∃ S : ByteArray, S = ⟨(l.needed[k]).toArray⟩ := ⟨_, rfl⟩
                    rw [← hS] at c0
                    have hki : (k : Int) < (NN : Int) := by omega
                    subst hao
                    clear hS
                    by_cases hz : (100 : Int) < (S.size : Int)
                    · have dz := decide_eq_true hz
                      go_wp2
                      go_ret
                      exact ToldIf.no HB.out
                    · have dz := decide_eq_false hz
                      go_wp2
                      go_roundw
                      case rel => exact ⟨k + 1, by go_num, by omega, by trivial⟩
                      case measure => simp [intOf]; omega
                  · have hki : ¬ (k : Int) < (NN : Int) := by omega
                    obtain rfl : k = NN := by omega
                    clear hk hlt HSN HN
                    go_wp2
                    obtain ⟨a7, n7, he7, _, _, _, HS7⟩ := HV.out.s
                    rw [HR.out] at he7
                    injection he7 with e71 e72 e73
                    subst e71
                    have HRN : Hid (∀ i (h : i < l.syms.length), ∃ b o, ya = some ⟨b, o, none⟩ ∧ At5 wr b (o + i * 5) l.syms[i]) := HS7
                    clear HS7 e72 e73
                    obtain ⟨wy, hwy⟩ : ∃ z, z = wr := ⟨_, rfl⟩
                    subst hwy
                    go_loopw [65] (fun x wr => ∃ j : Nat, x = .int .i64 (j : Int) ∧ j ≤ YY ∧ Below wy.heap.size wy wr) (fun x _ => YY - (intOf x).toNat)
                    case atStart => exact ⟨0, rfl, Nat.zero_le _, Below.refl _ _⟩
                    case round =>
                      obtain ⟨j, rfl, hj, hbr⟩ := hrel
                      have HBR2 : Hid (Below wy.heap.size wy wr) := hbr
                      have HBW : Hid (Below w.heap.size w wr) := below_tr HB.out hbr
                      by_cases hlj : j < YY
                      · have hlj2 : j < l.syms.length := by rw [← HX.out.2]; exact hlj
                        obtain ⟨b, o, hao, r0, r1, r2, r3, r4⟩ := HRN.out j hlj2
                        replace r0 := keep_cell hbr r0
                        replace r1 := keep_cell hbr r1
                        replace r2 := keep_cell hbr r2
                        replace r3 := keep_cell hbr r3
                        replace r4 := keep_cell hbr r4
                        obtain ⟨W2, hW2, hb2, hz2, m0, m1, m2, m3, m4⟩ := box5 wr l.syms[j]
                        generalize (⟨(l.syms[j]).name.toArray⟩ : ByteArray) = S at r0 m0 hW2
                        generalize (l.syms[j]).value = V1 at r1 m1 hW2
                        generalize (l.syms[j]).size = V2 at r2 m2 hW2
                        generalize (l.syms[j]).bind = V3 at r3 m3 hW2
                        generalize (l.syms[j]).part = V4 at r4 m4 hW2
                        have HW2 : Hid (Below w.heap.size w W2 ∧ Below wy.heap.size wy W2) := ⟨below_tr HBW.out hb2, below_tr HBR2.out hb2⟩
                        have hji : (j : Int) < (YY : Int) := by omega
                        subst hao
                        clear hbr hb2 hz2
                        by_cases hz : (100 : Int) < (S.size : Int)
                        · have dz := decide_eq_true hz
                          go_wp2
                          go_ret
                          exact ToldIf.no HW2.out.1
                        · have dz := decide_eq_false hz
                          go_wp2
                          go_roundw
                          case rel => exact ⟨j + 1, by go_num, Nat.succ_le_of_lt hlj, HW2.out.2⟩
                          case measure => simp [intOf]; omega
                      · have hji : ¬ (j : Int) < (YY : Int) := by omega
                        go_wp2
                        go_ret
                        exact ToldIf.yes HBW.out trivial
end Go.Proofs.YtgdflobcbhnimaaGreat
