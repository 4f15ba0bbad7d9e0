/- AuctionFair: what is filled and the rest are all; nobody gets more than he bid for; the better ones first. -/
import Derived.Test.YtahioajpmlochaaRG8
import Derived.Test.YtahioajpmlochaaRG13
namespace Go.Proofs.Ytahioajpmlochaa.NumK
open Go.RowKit
set_option linter.unusedVariables false

theorem FillPost.no {q : Int} {l : List Bi} (hok : auOK q l = false) {w w' : World} {e : Ending} (h : FillPost q l w e w') : e = .returned (.tuple #[.slice none 0 0, .int .i64 0, .int .i64 3]) ∧ Grew w w' := by
  rcases h with ⟨_, h1, h2⟩ | ⟨h, _⟩
  · exact ⟨h1, h2⟩
  · rw [hok] at h; cases h
theorem FillPost.yes {q : Int} {l : List Bi} (hok : auOK q l = true) {w w' : World} {e : Ending} (h : FillPost q l w e w') :
    ∃ A c, e = .returned (.tuple #[.slice A (auF q l).length c, .int .i64 (auR q l), .int .i64 0]) ∧ RowE enD3 w' A (auF q l).length (auF q l) ∧ Grew w w' := by
  rcases h with ⟨h, _⟩ | ⟨_, v, h1, h2, h3⟩
  · rw [hok] at h; cases h
  · obtain ⟨A, c, rfl, hr, _⟩ := h2.form
    exact ⟨A, c, h1, hr, h3⟩

set_option maxRecDepth 100000 in
set_option maxHeartbeats 16000000 in
theorem auctionFair_walk (q : Int) (A : Option Addr) (n c : Nat) (l : List B5) (w : World) (h : RowE enB5 w A n l) (k : A = none → c = 0) (hf : ∀ b ∈ l, in64 b.2.2.1) (hq : in64 q) :
    Calls Try.prog 4 #[.int .i64 q, .slice A n c] w fun e w' => e = .returned (.bool true) ∧ Grew w w' := by
  have HI := Lib.hid h
  have HL := Lib.hid h.len
  have CW := fun w => wakes19_any w
  have CF := fun (hn : n ≤ 100000) => afill_any q A n c l w h k hn hf hq
  have HPR := Lib.hid (fun (ho : auOK q l = true) i j hij hj => @au_price q l ho hf i j hij hj)
  have HGE := Lib.hid (fun (ho : auOK q l = true) hz i hi hne w => @au_group_eq q l ho hf hz i hi hne w)
  clear h k hf
  go_enter Try.func4, Try.ntmps4
  go_upto_region 1 with (fail)
  by_cases hn : n > 300
  · have j1 : (n : Int) > 300 := by omega
    clear CW CF
    go_wp2
    go_ret
    exact ⟨rfl, grew_refl _⟩
  · have j1 : ¬ (n : Int) > 300 := by omega
    have CF := CF (by omega)
    cases hok : auOK q l
    · have CF2 := CF.mono (fun e w' h => FillPost.no hok h)
      clear CF HPR HGE
      go_wp2_with (first
        | (go_at_call 12; ((with_reducible refine CF2.mono ?_); rintro e w2 ⟨rfl, hg⟩; have HG2 := Lib.hid hg; clear hg CF2))
        | (go_at_call 19; ((with_reducible refine (CW _).mono ?_); rintro e w9 ⟨rfl, hg⟩)))
      go_ret
      exact ⟨rfl, grew_trans HG2.out hg⟩
    · have CF2 := CF.mono (fun e w' h => FillPost.yes hok h)
      have HPR := Lib.hid (HPR.out hok)
      have HGE := Lib.hid (HGE.out hok)
      have HSU := Lib.hid (au_sums hok)
      have HPO := Lib.hid (au_pos hok)
      have HSO := Lib.hid (@au_some q l)
      have HGL := Lib.hid (au_group_le hok)
      have HQ := Lib.hid ((auOK_iff q l).1 hok)
      have HLN := Lib.hid (au_len q l)
      clear CF hok
      have hq2 := HQ.out.1
      have hbi := HQ.out.2
      have HBI := Lib.hid hbi
      clear hbi HQ
      generalize auF q l = fl at *
      generalize auR q l = R at *
      go_upto_region 4 with (go_at_call 12; ((with_reducible refine CF2.mono ?_); rintro e w2 ⟨AF, cF, rfl, hr, hg⟩; have HG2 := Lib.hid hg; have HFR := Lib.hid hr; clear hg hr CF2))
      have HI2 := Lib.hid (HI.out.keep HG2.out)
      have HFS : Hid (0 ≤ filS fl ∧ filS fl ≤ 1099511627776 ∧ 0 ≤ R ∧ R ≤ 1099511627776) := by
        have h1 := HSU.out
        have h2 := filS_nonneg HPO.out
        show _ ∧ _; omega
      have HFLN : Hid (fl.length ≤ 300) := by have := HLN.out; rw [HL.out] at this; show _ ≤ _; omega
      clear HI
      have hL3 := HFLN.out
      generalize hLL : fl.length = L at *
      have HLL := Lib.hid hLL
      clear hLL
      obtain ⟨hq3, hq4⟩ := hq2
      go_wp2_with (fail)
      go_loop [9, 10] (fun v9 v10 => ∃ i : Nat, v10 = .int .i64 i ∧ i ≤ n ∧ v9 = .int .i64 (bidS (l.take i))) (fun _ v10 => n - (intOf v10).toNat)
      case atStart => exact ⟨0, rfl, by omega, rfl⟩
      case round =>
        obtain ⟨i, rfl, hi, rfl⟩ := hrel
        by_cases hlt : i < n
        · obtain ⟨b, o, rfl, hb, hc⟩ := HI2.out.rB5 hlt
          obtain ⟨-, -, -, a3, -⟩ := hc i hlt
          have HST := Lib.hid (bidS_take l i (by rw [HL.out]; exact hlt))
          have hbd := bidS_le (l := l.take (i + 1)) (fun b hb => HBI.out b (List.mem_of_mem_take hb))
          rw [List.length_take, HL.out, HST.out] at hbd
          generalize bidS (l.take i) = s at *
          generalize (l.getD i bi0).2.2.2.1 = x at *
          have i0 : (0 : Int) ≤ (i : Int) := by omega
          have i1 : (i : Int) < (n : Int) := by omega
          have hbd2 : 0 ≤ s + x ∧ s + x ≤ 314572800 := by omega
          obtain ⟨hb1, hb2⟩ := hbd2
          have e1 : IntKind.i64.wrap (s + x) = s + x := by rw [IntKind.wrap_i64]; omega
          clear hc hb hbd
          go_wp2_with (fail)
          go_round
          case rel => exact ⟨i + 1, by go_num, by omega, by rw [HST.out]⟩
          case measure => simp only [intOf]; omega
        · obtain rfl : i = n := by omega
          have HTB : Hid (l.take i = l) := List.take_of_length_le (by rw [HL.out]; exact Nat.le_refl _)
          rw [HTB.out]
          go_wp2_with (fail)
          go_loopw [8, 11] (fun v8 v11 wr => ∃ j : Nat, v11 = .int .i64 j ∧ j ≤ L ∧ v8 = .int .i64 (filS (fl.take j)) ∧ Hid (Grew w2 wr)) (fun _ v11 _ => L - (intOf v11).toNat)
          case atStart => exact ⟨0, rfl, by omega, rfl, grew_refl _⟩
          case round =>
            obtain ⟨j, rfl, hj, rfl, HG⟩ := hrel
            by_cases hlt2 : j < L
            · as_aux_lemma =>
              have HST := Lib.hid (filS_take fl j (by rw [HLL.out]; exact hlt2))
              have hbd := filS_part HPO.out (j + 1)
              rw [HST.out] at hbd
              have hbf := HFS.out
              have hx1 : 1 ≤ (fl.getD j fi0).2.1 := HPO.out _ (getD_mem fl fi0 j (by rw [HLL.out]; exact hlt2))
              have hqz := HSO.out (by omega)
              have hpr := fun (h0 : 0 < j) => HPR.out (j - 1) j (by omega) hlt2
              obtain ⟨b, o, rfl, hb, hc⟩ := (HFR.out.keep HG.out).rD3 hlt2
              obtain ⟨-, a1, a2⟩ := hc j hlt2
              have HPV : Hid (0 < j → CD3 wr b (o + (j - 1) * 3) (fl.getD (j - 1) fi0)) := fun h0 => hc (j - 1) (by omega)
              generalize filS (fl.take j) = s at *
              generalize (fl.getD j fi0).2.1 = x at *
              generalize (fl.getD j fi0).2.2 = p at *
              have i0 : (0 : Int) ≤ (j : Int) := by omega
              have i1 : (j : Int) < (L : Int) := by omega
              have e1 : IntKind.i64.wrap (s + x) = s + x := by rw [IntKind.wrap_i64]; omega
              have e2 : ¬ x < 1 := by omega
              clear hc hbd hbf
              go_upto_region 18 with (fail)
              have y2 := grew_every (w := wr) (S := fun w' => w'.cell? ⟨b, o + j * 3 + 2, none⟩ = some (.int .i64 p)) (fun w' g => (grew_cell g (p := ⟨b, _, none⟩) hb).trans a2)
              clear a1 a2
              by_cases hj0 : 0 < j
              · obtain ⟨j, rfl⟩ : ∃ t, j = t + 1 := ⟨j - 1, by omega⟩
                have HPV := HPV.out (by omega)
                have hpr := hpr (by omega)
                rw [Nat.add_sub_cancel] at HPV hpr
                obtain ⟨-, -, d2⟩ := HPV
                generalize (fl.getD j fi0).2.2 = p0 at *
                have z2 := grew_every (w := wr) (S := fun w' => w'.cell? ⟨b, o + j * 3 + 2, none⟩ = some (.int .i64 p0)) (fun w' g => (grew_cell g (p := ⟨b, _, none⟩) hb).trans d2)
                obtain ⟨hp1, hp2⟩ := hpr
                have zj : ((j + 1 : Nat) : Int) = (j : Int) + 1 := by omega
                rw [zj] at i0 i1
                have k1 : decide ((j : Int) + 1 > 0) = true := decide_eq_true (by omega)
                have k7 : IntKind.i64.wrap ((j : Int) + 1 - 1) = (j : Int) := by rw [IntKind.wrap_i64]; omega
                have k8 : (0 : Int) ≤ (j : Int) := by omega
                have k9 : (j : Int) < (L : Int) := by omega
                rw [zj]
                clear d2
                rcases Int.lt_or_gt_of_ne hqz with hs | hs
                · have c1 : decide (q > 0) = false := decide_eq_false (by omega)
                  have c2 : decide (q < 0) = true := decide_eq_true hs
                  have c11 : decide (0 < q) = false := decide_eq_false (by omega)
                  have c3 : decide (p < p0) = false := decide_eq_false (by have := hp2 hs; omega)
                  have c4 : p0 ≤ p := hp2 hs
                  clear hp1 hp2
                  refine wp_region_grew (by kernel_rfl) (by kernel_rfl) ?_
                  repeat (go_big_quiet_step (fail))
                  refine wpQuiet_nil ?_
                  intro w5 hw'
                  have HG5 := Lib.hid (grew_of hw')
                  clear hw' y2 z2
                  go_wp2
                  go_roundw
                  case rel => exact ⟨j + 1 + 1, by go_num, by omega, by rw [HST.out], grew_trans HG.out HG5.out⟩
                  case measure => simp only [intOf]; omega
                · have c1 : decide (q > 0) = true := decide_eq_true hs
                  have c2 : decide (q < 0) = false := decide_eq_false (by omega)
                  have c11 : decide (0 < q) = true := decide_eq_true (by omega)
                  have c3 : decide (p > p0) = false := decide_eq_false (by have := hp1 hs; omega)
                  have c31 : decide (p0 < p) = false := decide_eq_false (by have := hp1 hs; omega)
                  have c4 : p ≤ p0 := hp1 hs
                  clear hp1 hp2
                  refine wp_region_grew (by kernel_rfl) (by kernel_rfl) ?_
                  repeat (go_big_quiet_step (fail))
                  refine wpQuiet_nil ?_
                  intro w5 hw'
                  have HG5 := Lib.hid (grew_of hw')
                  clear hw' y2 z2
                  go_wp2
                  go_roundw
                  case rel => exact ⟨j + 1 + 1, by go_num, by omega, by rw [HST.out], grew_trans HG.out HG5.out⟩
                  case measure => simp only [intOf]; omega
              · have k1 : decide ((j : Int) > 0) = false := decide_eq_false (by omega)
                have k2 : decide (0 < j) = false := decide_eq_false hj0
                clear hpr HPV hj0
                refine wp_region_grew (by kernel_rfl) (by kernel_rfl) ?_
                repeat (go_big_quiet_step (fail))
                refine wpQuiet_nil ?_
                intro w5 hw'
                have HG5 := Lib.hid (grew_of hw')
                clear hw' y2
                go_wp2
                go_roundw
                case rel => exact ⟨j + 1, by go_num, by omega, by rw [HST.out], grew_trans HG.out HG5.out⟩
                case measure => simp only [intOf]; omega
            · obtain rfl : j = L := by omega
              have HTF : Hid (fl.take j = fl) := List.take_of_length_le (by rw [HLL.out]; exact Nat.le_refl _)
              rw [HTF.out]
              have HBB := Lib.hid (bidS_le HBI.out)
              have hfs := HFS.out
              have hsu := HSU.out
              have hbb := HBB.out
              rw [HL.out] at hbb
              have hgb : Hid True := trivial
              --REST
              have HGJ := Lib.hid HG.out
              clear HG
              obtain ⟨wj, hwj⟩ : ∃ x, x = wr := ⟨_, rfl⟩
              subst hwj
              generalize hB : bidS l = B at *
              generalize hS : filS fl = S at *
              have HSB : Hid (filS fl = S) := hS
              clear hB hS
              have HSU2 := Lib.hid hsu
              clear hsu
              obtain ⟨hf1, hf2, hf3, hf4⟩ := hfs
              have HMX : Hid (0 ≤ max q (-q) ∧ max q (-q) ≤ 1099511627776) := by show _ ∧ _; omega
              have e1 : IntKind.i64.wrap (-q) = -q := by rw [IntKind.wrap_i64]; omega
              go_upto_region 20 with (fail)
              go_cut [12] (fun s12 wx => s12 = .int .i64 (max q (-q)) ∧ wj = wx)
              case first => as_aux_lemma =>
                by_cases hm : q < -q
                · have hm2 : max q (-q) = -q := by omega
                  have HM := Lib.hid hm2
                  have hm3 : q ≤ -q := by omega
                  go_wp2_with (fail)
                  go_meet
                  case rel => exact ⟨by rw [HM.out], rfl⟩
                · have hm2 : max q (-q) = q := by omega
                  have HM := Lib.hid hm2
                  by_cases hm4 : q = 0
                  · subst hm4
                    go_wp2_with (fail)
                    go_meet
                    case rel => exact ⟨by rw [HM.out], rfl⟩
                  · have hm3 : ¬ q ≤ -q := by omega
                    go_wp2_with (fail)
                    go_meet
                    case rel => exact ⟨by rw [HM.out], rfl⟩
              case rest =>
                obtain ⟨rfl, rfl⟩ := hcut
                generalize max q (-q) = M at *
                obtain ⟨hM1, hM2⟩ := HMX.out
                have hs9 := HSU2.out
                have d1 : IntKind.i64.wrap (S + R) = M := by rw [IntKind.wrap_i64]; omega
                have d2 : ¬ R < 0 := by omega
                have d3 : (M == M) = true := by simp
                clear hs9
                go_upto_region 21 with (fail)
                go_cut [129] (fun s129 wx => s129 = .bool false ∧ wj = wx)
                case first => as_aux_lemma =>
                  obtain ⟨hs1, hs2, hs3⟩ := HSU2.out
                  rcases Int.lt_trichotomy M B with hc | hc | hc
                  · obtain rfl : S = M := by omega
                    have m1 : min S B = S := by omega
                    have m2 : S ≤ B := by omega
                    clear hs1 hs2 hs3
                    go_wp2_with (fail)
                    go_meet
                    case rel => exact ⟨rfl, rfl⟩
                  · obtain rfl : S = M := by omega
                    obtain rfl : S = B := by omega
                    have m1 : min S S = S := by omega
                    clear hs1 hs2 hs3
                    go_wp2_with (fail)
                    go_meet
                    case rel => exact ⟨rfl, rfl⟩
                  · obtain rfl : S = B := by omega
                    have m1 : min M S = S := by omega
                    have m2 : ¬ M ≤ S := by omega
                    have m3 : ¬ M < S := by omega
                    clear hs1 hs2 hs3
                    go_wp2_with (fail)
                    go_meet
                    case rel => exact ⟨rfl, rfl⟩
                case rest =>
                  obtain ⟨rfl, rfl⟩ := hcut
                  clear d1 d2 d3 e1
                  go_wp2_with (fail)
                  go_loopw [13, 14, 15, 16, 17] (fun v13 v14 v15 v16 v17 wr => ∃ t : Nat, v13 = .int .i64 t ∧ t ≤ j ∧ Hid (Grew w2 wr)) (fun v13 _ _ _ _ _ => j - (intOf v13).toNat)
                  case atStart => exact ⟨0, rfl, by omega, HGJ.out⟩
                  case round =>
                    clear HGJ
                    obtain ⟨t, rfl, ht, HGT⟩ := hrel
                    by_cases hlt3 : t < j
                    · obtain ⟨wt, hwt⟩ : ∃ x, x = wr := ⟨_, rfl⟩
                      subst hwt
                      have t0 : (0 : Int) ≤ (t : Int) := by omega
                      have t1 : (t : Int) < (j : Int) := by omega
                      obtain ⟨bf, bo, rfl, -, -⟩ := HFR.out.rD3 hlt3
                      have HCT : Hid (∀ wx, Grew w2 wx → CD3 wx bf (bo + t * 3) (fl.getD t fi0)) := fun wx g => by
                        obtain ⟨b2, o2, e, _, hc⟩ := (HFR.out.keep g).rD3 hlt3
                        cases e
                        exact hc t hlt3
                      have HGLt := Lib.hid (HGL.out (fl.getD t fi0).1 (fl.getD t fi0).2.2)
                      have HGEt : Hid (t + 1 < j → (fl.getD (t + 1) fi0).2.2 ≠ (fl.getD t fi0).2.2 → filG (atB (fl.getD t fi0).1 (fl.getD t fi0).2.2) fl = bidG (atB (fl.getD t fi0).1 (fl.getD t fi0).2.2) l) := fun h1 h2 => HGE.out (HSO.out (by omega)) t (by first | exact h1 | (rw [HLL.out]; exact h1)) h2 _
                      have HFG := Lib.hid (fun p i => filG_part p HPO.out i)
                      obtain ⟨x, hx⟩ : ∃ x, x = fl.getD t fi0 := ⟨_, rfl⟩
                      rw [← hx] at HCT HGLt HGEt
                      have HXT := Lib.hid hx
                      clear hx
                      obtain ⟨x1, x2, x3⟩ := x
                      dsimp only at HGLt HGEt
                      go_wp2_with (fail)
                      go_loopw [14, 16] (fun v14 v16 wr => ∃ k : Nat, v16 = .int .i64 k ∧ k ≤ j ∧ v14 = .int .i64 (filG (atB x1 x3) (fl.take k)) ∧ Hid (Grew w2 wr)) (fun _ v16 _ => j - (intOf v16).toNat)
                      case atStart => exact ⟨0, rfl, by omega, rfl, HGT.out⟩
                      case round =>
                        clear HGT
                        obtain ⟨k, rfl, hk, rfl, HG⟩ := hrel
                        by_cases hlt4 : k < j
                        · as_aux_lemma =>
                          have HST := Lib.hid (filG_take (atB x1 x3) fl k (by rw [HLL.out]; exact hlt4))
                          have hbd := HFG.out (atB x1 x3) k
                          have hbd2 := HFG.out (atB x1 x3) (k + 1)
                          rw [HST.out] at hbd2
                          rw [HSB.out] at hbd hbd2
                          have k0 : (0 : Int) ≤ (k : Int) := by omega
                          have k1 : (k : Int) < (j : Int) := by omega
                          have HCK : Hid (∀ wx, Grew w2 wx → CD3 wx bf (bo + k * 3) (fl.getD k fi0)) := fun wx g => by
                            obtain ⟨b2, o2, e, _, hc⟩ := (HFR.out.keep g).rD3 hlt4
                            cases e
                            exact hc k hlt4
                          generalize filG (atB x1 x3) (fl.take k) = G at *
                          generalize fl.getD k fi0 = y at *
                          obtain ⟨y1, y2, y3⟩ := y
                          have u1 := grew_every (w := wr) (S := fun w' => w'.cell? ⟨bf, bo + t * 3, none⟩ = some (.int .i64 x1)) (fun w' g => (HCT.out _ (grew_trans HG.out g)).1)
                          have u3 := grew_every (w := wr) (S := fun w' => w'.cell? ⟨bf, bo + t * 3 + 2, none⟩ = some (.int .i64 x3)) (fun w' g => (HCT.out _ (grew_trans HG.out g)).2.2)
                          have v1 := grew_every (w := wr) (S := fun w' => w'.cell? ⟨bf, bo + k * 3, none⟩ = some (.int .i64 y1)) (fun w' g => (HCK.out _ (grew_trans HG.out g)).1)
                          have v3 := grew_every (w := wr) (S := fun w' => w'.cell? ⟨bf, bo + k * 3 + 2, none⟩ = some (.int .i64 y3)) (fun w' g => (HCK.out _ (grew_trans HG.out g)).2.2)
                          have HIF : Hid ((if atB x1 x3 (y1, y2, y3).1 (y1, y2, y3).2.2 = true then (y1, y2, y3).2.1 else 0) = if y1 = x1 ∧ y3 = x3 then y2 else 0) := by
                            show _ = _
                            unfold atB
                            by_cases c1 : y1 = x1 <;> by_cases c2 : y3 = x3 <;> simp [c1, c2]
                          rw [HIF.out] at hbd2 HST
                          clear HIF
                          go_wp2_with (fail)
                          by_cases c1 : y1 = x1
                          · by_cases c2 : y3 = x3
                            · rw [if_pos ⟨c1, c2⟩] at hbd2 HST
                              have e1 : IntKind.i64.wrap (G + y2) = G + y2 := by rw [IntKind.wrap_i64]; omega
                              have d1 : (y1 == x1) = true := by simpa using c1
                              have d2 : (y3 == x3) = true := by simpa using c2
                              clear c1 c2
                              refine wp_region_grew (by kernel_rfl) (by kernel_rfl) ?_
                              repeat (go_big_quiet_step (fail))
                              refine wpQuiet_nil ?_
                              intro w5 hw'
                              have HG5 := Lib.hid (grew_trans HG.out (grew_of hw'))
                              clear hw' u1 u3 v1 v3 d1 d2
                              have v2 := (HCK.out _ HG5.out).2.1
                              dsimp only at v2
                              go_wp2
                              go_roundw
                              case rel => exact ⟨k + 1, by go_num, by omega, by rw [HST.out], HG5.out⟩
                              case measure => simp only [intOf]; omega
                            · rw [if_neg (fun h => c2 h.2), Int.add_zero] at HST
                              have d1 : (y1 == x1) = true := by simpa using c1
                              have d2 : (y3 == x3) = false := by simpa using c2
                              clear c1 c2
                              refine wp_region_grew (by kernel_rfl) (by kernel_rfl) ?_
                              repeat (go_big_quiet_step (fail))
                              refine wpQuiet_nil ?_
                              intro w5 hw'
                              have HG5 := Lib.hid (grew_trans HG.out (grew_of hw'))
                              clear hw' u1 u3 v1 v3 d1 d2
                              go_wp2
                              go_roundw
                              case rel => exact ⟨k + 1, by go_num, by omega, by rw [HST.out], HG5.out⟩
                              case measure => simp only [intOf]; omega
                          · rw [if_neg (fun h => c1 h.1), Int.add_zero] at HST
                            have d1 : (y1 == x1) = false := by simpa using c1
                            clear c1
                            refine wp_region_grew (by kernel_rfl) (by kernel_rfl) ?_
                            repeat (go_big_quiet_step (fail))
                            refine wpQuiet_nil ?_
                            intro w5 hw'
                            have HG5 := Lib.hid (grew_trans HG.out (grew_of hw'))
                            clear hw' u1 u3 v1 v3 d1
                            go_wp2
                            go_roundw
                            case rel => exact ⟨k + 1, by go_num, by omega, by rw [HST.out], HG5.out⟩
                            case measure => simp only [intOf]; omega
                        · obtain rfl : k = j := by omega
                          have HTG : Hid (filG (atB x1 x3) (fl.take k) = filG (atB x1 x3) fl) := by show _ = _; rw [List.take_of_length_le (by rw [HLL.out]; exact Nat.le_refl _)]
                          rw [HTG.out]
                          have hgb := HFG.out (atB x1 x3) k
                          rw [HTG.out] at hgb
                          rw [HSB.out] at hgb
                          have HGK := Lib.hid HG.out
                          clear HG HTG
                          obtain ⟨wk, hwk⟩ : ∃ x, x = wr := ⟨_, rfl⟩
                          subst hwk
                          go_wp2_with (fail)
                          go_loopw [15, 17] (fun v15 v17 wr => ∃ m : Nat, v17 = .int .i64 m ∧ m ≤ i ∧ v15 = .int .i64 (bidG (atB x1 x3) (l.take m)) ∧ Hid (Grew w2 wr)) (fun _ v17 _ => i - (intOf v17).toNat)
                          case atStart => exact ⟨0, rfl, by omega, rfl, HGK.out⟩
                          case round =>
                            clear HGK
                            obtain ⟨m, rfl, hm, rfl, HG⟩ := hrel
                            by_cases hlt5 : m < i
                            · as_aux_lemma =>
                              have HST := Lib.hid (bidG_take (atB x1 x3) l m (by rw [HL.out]; exact hlt5))
                              have hbd := bidG_le (l := l.take m) (atB x1 x3) (fun b hb => HBI.out b (List.mem_of_mem_take hb))
                              have hbd2 := bidG_le (l := l.take (m + 1)) (atB x1 x3) (fun b hb => HBI.out b (List.mem_of_mem_take hb))
                              rw [HST.out] at hbd2
                              rw [List.length_take, HL.out] at hbd hbd2
                              have k0 : (0 : Int) ≤ (m : Int) := by omega
                              have k1 : (m : Int) < (i : Int) := by omega
                              obtain ⟨bl, lo, rfl, -, -⟩ := HI2.out.rB5 hlt5
                              have HCK : Hid (∀ wx, Grew w2 wx → CB5 wx bl (lo + m * 5) (l.getD m bi0)) := fun wx g => by
                                obtain ⟨b2, o2, e, _, hc⟩ := (HI2.out.keep g).rB5 hlt5
                                cases e
                                exact hc m hlt5
                              generalize bidG (atB x1 x3) (l.take m) = G2 at *
                              generalize l.getD m bi0 = y at *
                              obtain ⟨y1, y2, y3, y4, y5⟩ := y
                              have u1 := grew_every (w := wr) (S := fun w' => w'.cell? ⟨bf, bo + t * 3, none⟩ = some (.int .i64 x1)) (fun w' g => (HCT.out _ (grew_trans HG.out g)).1)
                              have u3 := grew_every (w := wr) (S := fun w' => w'.cell? ⟨bf, bo + t * 3 + 2, none⟩ = some (.int .i64 x3)) (fun w' g => (HCT.out _ (grew_trans HG.out g)).2.2)
                              have v1 := grew_every (w := wr) (S := fun w' => w'.cell? ⟨bl, lo + m * 5 + 2, none⟩ = some (.int .i64 y3)) (fun w' g => (HCK.out _ (grew_trans HG.out g)).2.2.1)
                              have v3 := grew_every (w := wr) (S := fun w' => w'.cell? ⟨bl, lo + m * 5 + 4, none⟩ = some (.int .i64 y5)) (fun w' g => (HCK.out _ (grew_trans HG.out g)).2.2.2.2)
                              have HIF : Hid ((if atB x1 x3 (y1, y2, y3, y4, y5).2.2.1 (y1, y2, y3, y4, y5).2.2.2.2 = true then (y1, y2, y3, y4, y5).2.2.2.1 else 0) = if y3 = x1 ∧ y5 = x3 then y4 else 0) := by
                                show _ = _
                                unfold atB
                                by_cases c1 : y3 = x1 <;> by_cases c2 : y5 = x3 <;> simp [c1, c2]
                              rw [HIF.out] at hbd2 HST
                              clear HIF
                              go_wp2_with (fail)
                              by_cases c1 : y3 = x1
                              · by_cases c2 : y5 = x3
                                · rw [if_pos ⟨c1, c2⟩] at hbd2 HST
                                  have e1 : IntKind.i64.wrap (G2 + y4) = G2 + y4 := by rw [IntKind.wrap_i64]; omega
                                  have d1 : (y3 == x1) = true := by simpa using c1
                                  have d2 : (y5 == x3) = true := by simpa using c2
                                  clear c1 c2
                                  refine wp_region_grew (by kernel_rfl) (by kernel_rfl) ?_
                                  repeat (go_big_quiet_step (fail))
                                  refine wpQuiet_nil ?_
                                  intro w5 hw'
                                  have HG5 := Lib.hid (grew_trans HG.out (grew_of hw'))
                                  clear hw' u1 u3 v1 v3 d1 d2
                                  have v2 := (HCK.out _ HG5.out).2.2.2.1
                                  dsimp only at v2
                                  go_wp2
                                  go_roundw
                                  case rel => exact ⟨m + 1, by go_num, by omega, by rw [HST.out], HG5.out⟩
                                  case measure => simp only [intOf]; omega
                                · rw [if_neg (fun h => c2 h.2), Int.add_zero] at HST
                                  have d1 : (y3 == x1) = true := by simpa using c1
                                  have d2 : (y5 == x3) = false := by simpa using c2
                                  clear c1 c2
                                  refine wp_region_grew (by kernel_rfl) (by kernel_rfl) ?_
                                  repeat (go_big_quiet_step (fail))
                                  refine wpQuiet_nil ?_
                                  intro w5 hw'
                                  have HG5 := Lib.hid (grew_trans HG.out (grew_of hw'))
                                  clear hw' u1 u3 v1 v3 d1 d2
                                  go_wp2
                                  go_roundw
                                  case rel => exact ⟨m + 1, by go_num, by omega, by rw [HST.out], HG5.out⟩
                                  case measure => simp only [intOf]; omega
                              · rw [if_neg (fun h => c1 h.1), Int.add_zero] at HST
                                have d1 : (y3 == x1) = false := by simpa using c1
                                clear c1
                                refine wp_region_grew (by kernel_rfl) (by kernel_rfl) ?_
                                repeat (go_big_quiet_step (fail))
                                refine wpQuiet_nil ?_
                                intro w5 hw'
                                have HG5 := Lib.hid (grew_trans HG.out (grew_of hw'))
                                clear hw' u1 u3 v1 v3 d1
                                go_wp2
                                go_roundw
                                case rel => exact ⟨m + 1, by go_num, by omega, by rw [HST.out], HG5.out⟩
                                case measure => simp only [intOf]; omega
                            · obtain rfl : m = i := by omega
                              have HTG : Hid (bidG (atB x1 x3) (l.take m) = bidG (atB x1 x3) l) := by show _ = _; rw [List.take_of_length_le (by rw [HL.out]; exact Nat.le_refl _)]
                              rw [HTG.out]
                              clear HTG
                              have hgl := HGLt.out
                              generalize bidG (atB x1 x3) l = B3 at *
                              generalize filG (atB x1 x3) fl = G3 at *
                              have d0 : decide (G3 > B3) = false := decide_eq_false (by omega)
                              have d01 : decide (B3 < G3) = false := decide_eq_false (by omega)
                              have d02 : G3 ≤ B3 := hgl
                              have u3 := grew_every (w := wr) (S := fun w' => w'.cell? ⟨bf, bo + t * 3 + 2, none⟩ = some (.int .i64 x3)) (fun w' g => (HCT.out _ (grew_trans HG.out g)).2.2)
                              have s1 : IntKind.i64.wrap ((k : Int) - 1) = (k : Int) - 1 := by rw [IntKind.wrap_i64]; omega
                              have s2 : IntKind.i64.wrap ((t : Int) + 1) = (t : Int) + 1 := by rw [IntKind.wrap_i64]; omega
                              have z1 : (0 : Int) ≤ (t : Int) + 1 := by omega
                              go_upto_region 37 with (fail)
                              go_cut [238] (fun s238 wx => s238 = .bool false ∧ Hid (Grew w2 wx))
                              case first => as_aux_lemma =>
                                by_cases hlast : t + 1 < k
                                · have l1 : decide ((t : Int) < (k : Int) - 1) = true := decide_eq_true (by omega)
                                  have l2 : (t : Int) < (k : Int) - 1 := by omega
                                  have l3 : (t : Int) + 1 < (k : Int) := by omega
                                  have HCN : Hid (∀ wx, Grew w2 wx → CD3 wx bf (bo + (t + 1) * 3) (fl.getD (t + 1) fi0)) := fun wx g => by
                                    obtain ⟨b2, o2, e, _, hc⟩ := (HFR.out.keep g).rD3 (j := t + 1) (by omega)
                                    cases e
                                    exact hc (t + 1) (by omega)
                                  have HGX := Lib.hid (HGEt.out (by omega))
                                  generalize fl.getD (t + 1) fi0 = y at *
                                  obtain ⟨y1, y2, y3⟩ := y
                                  dsimp only at HGX
                                  have v3 := grew_every (w := wr) (S := fun w' => w'.cell? ⟨bf, bo + (t + 1) * 3 + 2, none⟩ = some (.int .i64 y3)) (fun w' g => (HCN.out _ (grew_trans HG.out g)).2.2)
                                  by_cases c1 : y3 = x3
                                  · have d1 : (y3 != x3) = false := by simpa using c1
                                    clear c1
                                    refine wp_region_grew (by kernel_rfl) (by kernel_rfl) ?_
                                    repeat (go_big_quiet_step (fail))
                                    refine wpQuiet_nil ?_
                                    intro w5 hw'
                                    have HG5 := Lib.hid (grew_trans HG.out (grew_of hw'))
                                    clear hw' u3 v3 d1
                                    go_wp2
                                    go_meet
                                    case rel => exact ⟨rfl, HG5.out⟩
                                  · have d1 : (y3 != x3) = true := by simpa using c1
                                    have d5 : (G3 != B3) = false := by simpa using HGX.out c1
                                    clear c1
                                    refine wp_region_grew (by kernel_rfl) (by kernel_rfl) ?_
                                    repeat (go_big_quiet_step (fail))
                                    refine wpQuiet_nil ?_
                                    intro w5 hw'
                                    have HG5 := Lib.hid (grew_trans HG.out (grew_of hw'))
                                    clear hw' u3 v3 d1
                                    go_wp2
                                    go_meet
                                    case rel => exact ⟨rfl, HG5.out⟩
                                · have l1 : decide ((t : Int) < (k : Int) - 1) = false := decide_eq_false (by omega)
                                  have l2 : ¬ (t : Int) < (k : Int) - 1 := by omega
                                  refine wp_region_grew (by kernel_rfl) (by kernel_rfl) ?_
                                  repeat (go_big_quiet_step (fail))
                                  refine wpQuiet_nil ?_
                                  intro w5 hw'
                                  have HG5 := Lib.hid (grew_trans HG.out (grew_of hw'))
                                  clear hw' u3
                                  go_wp2
                                  go_meet
                                  case rel => exact ⟨rfl, HG5.out⟩
                              case rest =>
                                rename World => w9
                                obtain ⟨rfl, HG9⟩ := hcut
                                clear HG d0 d01 d02 u3
                                go_wp2_with (fail)
                                go_roundw
                                case rel => exact ⟨t + 1, by go_num, by omega, HG9.out⟩
                                case measure => simp only [intOf]; omega
                    · obtain rfl : t = j := by omega
                      go_wp2_with (go_at_call 19; ((with_reducible refine (CW _).mono ?_); rintro e w9 ⟨rfl, hg⟩))
                      go_ret
                      exact ⟨rfl, grew_trans HG2.out (grew_trans HGT.out hg)⟩
end Go.Proofs.Ytahioajpmlochaa.NumK
