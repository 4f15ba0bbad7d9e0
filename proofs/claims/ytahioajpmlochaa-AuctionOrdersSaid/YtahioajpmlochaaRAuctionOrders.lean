/-
  For either side and all bids: the order has just the bids that were handed in, the better prices ahead, of the same price the lesser bidder, of the same bidder as they came; ordered twice it is ordered once; more than 300 bids the statement lets by.
-/
import Derived.Test.YtahioajpmlochaaRG17
import Derived.Test.YtahioajpmlochaaRG15
import Derived.Test.YtahioajpmlochaaRows
import Derived.WalkKit
import Derived.ProofKit
import Derived.OpenShut
import Derived.ShutString
import Derived.ChangeOld
import Derived.Below
import Derived.Carry
namespace Go.Proofs.Ytahioajpmlochaa.NumK
open Go.RowKit
set_option linter.unusedVariables false

set_option maxRecDepth 100000 in
set_option maxHeartbeats 16000000 in
theorem auctionOrders_walk (long : Bool) (A : Option Addr) (n c : Nat) (l : List B5) (w : World) (h : RowE enB5 w A n l) (k : A = none → c = 0) (hnc : n ≤ c) (hc : c ≤ 9223372036854775807) (hf : ∀ b ∈ l, in64 b.2.2.1) :
    Calls Try.prog 6 #[.bool long, .slice A n c] w fun e w' => e = .returned (.bool true) ∧ Grew w w' := by
  have HI := Lib.hid h
  have HL := Lib.hid h.len
  have CW := fun w => wakes19_any w
  have CO := fun (hn : n ≤ 100000) => aorder_pl long A n c l w h k hn hf
  have HSB := Lib.hid (fun s t (hp : Pl (fun k => keyB long (l.getD k bi0)) l.length s t) i (hi : i + 1 < l.length) => side_by hp hf hi)
  have HFS := Lib.hid (fun s t (hp : Pl (fun k => keyB long (l.getD k bi0)) l.length s t) i k (hi : i < l.length) (hk : k < s i) hu => first_same hp hi hk hu)
  have HF2 : Hid (∀ b ∈ ordB long l, in64 b.2.2.1) := fun b hb => hf b ((ordF_mem _ _ _).1 hb)
  have HTW : Hid (ordB long (ordB long l) = ordB long l) := ordF_twice _ _
  have hol : (ordB long l).length = n := by unfold ordB; rw [ordF_len, h.len]
  clear h k hf
  go_enter Try.func6, Try.ntmps6
  go_upto_region 1 with (fail)
  by_cases hn : n > 300
  · have j1 : (n : Int) > 300 := by omega
    clear CW CO
    go_wp2
    go_ret
    exact ⟨rfl, grew_refl _⟩
  · have j1 : ¬ (n : Int) > 300 := by omega
    have CO := CO (by omega)
    go_upto_region 4 with (go_at_call 9; ((with_reducible refine CO.mono ?_); rintro e w1 ⟨v, rfl, ho, hg, s, t, hpl, hmap⟩; have HOO := Lib.hid ho; have HG1 := Lib.hid hg; have HPL := Lib.hid hpl; have HMP := Lib.hid hmap; clear hg ho hpl hmap CO))
    obtain ⟨A3, c3, rfl, hr3, hk3, hl3, hs3⟩ := HOO.out
    rw [hol] at hr3 hl3 hs3 ⊢
    have HR1 := Lib.hid hr3
    have HC3 := Lib.hid hl3
    have HS3 := Lib.hid hs3
    have HOE : Hid (∀ i, i < n → (ordB long l).getD i bi0 = l.getD (s i) bi0) := fun i hi => by
      rw [← HMP.out, getD_at _ bi0 i (by rw [List.length_map, List.length_range, HL.out]; exact hi), List.getElem_map, List.getElem_range]
    have CO2 := aorder_any long A3 n c3 (ordB long l) w1 HR1.out hk3 (by omega) HF2.out
    rw [HTW.out] at CO2
    generalize ordB long l = ol at *
    clear HOO hr3 hl3 hs3 HMP HTW HF2
    have CK := fun (A9 : Option Addr) (c9 : Nat) (w9 : World) (g9 : Grew w1 w9) (hr : RowE enB5 w9 A9 n ol) => kbids_yes A9 A3 n c9 c3 ol w9 hr (HR1.out.keep g9) (by omega)
    go_upto_region 6 with (first
      | (go_at_call 9; ((with_reducible refine CO2.mono ?_); rintro e w2 ⟨v2, rfl, ho, hg⟩; obtain ⟨A4, c4, rfl, hr4, -⟩ := ho; rw [hol] at hr4 ⊢; have HG2 := Lib.hid hg; have CK1 := CK A4 c4 w2 hg hr4; clear hg hr4 CO2 CK))
      | (go_at_call 10; ((with_reducible refine CK1.mono ?_); rintro e w3 ⟨rfl, hg⟩; have HG3 := Lib.hid (grew_trans HG2.out hg); clear hg CK1)))
    have HR3 := Lib.hid (HR1.out.keep HG3.out)
    have HI3 := Lib.hid (HI.out.keep (grew_trans HG1.out HG3.out))
    have HGW := Lib.hid (grew_trans HG1.out HG3.out)
    have hmk := run_bools w3 n (by omega)
    have HU0 : Hid (RowB (w3.alloc (.cells (madeCells #[.bool false] n) 4)) w3.heap.size n (usedF t 0)) := (RowB.made w3 4 n).congr (fun k _ => by unfold usedF; symm; exact decide_eq_false (Nat.not_lt_zero _))
    have HGU : Hid (Grew w3 (w3.alloc (.cells (madeCells #[.bool false] n) 4))) := grew_alloc _ _ _
    clear HR1 HI HG1 HG2 HG3
    go_upto_region 7 with (fail)
    clear hmk
    generalize w3.alloc (.cells (madeCells #[.bool false] n) 4) = w4 at *
    have HUB : Hid (w3.heap.size ≤ w3.heap.size) := Nat.le_refl _
    generalize hUU : w3.heap.size = U at *
    have HUU := Lib.hid hUU
    clear hUU
    go_wp2_with (fail)
    go_loopw [7, 8, 9, 10, 11, 12] (fun v7 v8 v9 v10 v11 v12 wr => ∃ (i : Nat) (p : Int), v8 = .int .i64 i ∧ i ≤ n ∧ v7 = .int .i64 p ∧ Hid (0 < i → p = (s (i - 1) : Nat)) ∧ Hid (RowB wr U n (usedF t i)) ∧ Hid (Grew w3 wr)) (fun _ v8 _ _ _ _ _ => n - (intOf v8).toNat)
    case atStart => exact ⟨0, -1, rfl, by omega, rfl, (fun h => absurd h (Nat.lt_irrefl _)), HU0.out, HGU.out⟩
    case round =>
      clear HU0 HGU
      obtain ⟨i, p, rfl, hi, rfl, HWAS, HU, HG⟩ := hrel
      by_cases hlt : i < n
      · obtain ⟨g, rfl, hg1, -⟩ := HS3.out (by omega)
        have hsi : s i < n := by have := HPL.out.lt_s (k := i) (by rw [HL.out]; exact hlt); rw [HL.out] at this; exact this
        obtain ⟨bl, bo, rfl, -, -⟩ := HI3.out.rB5 hlt
        have HGI := Lib.hid HG.out
        have HUI := Lib.hid HU.out
        clear HG HU
        obtain ⟨wi, hwi⟩ : ∃ x, x = wr := ⟨_, rfl⟩
        subst hwi
        have HOEi := Lib.hid (HOE.out i hlt)
        have HFSi : Hid (∀ k, k < s i → usedF t i k = false → l.getD k bi0 ≠ l.getD (s i) bi0) := fun k hk hu => HFS.out s t HPL.out i k (by rw [HL.out]; exact hlt) hk hu
        have HUO : Hid (usedF t i (s i) = false) := used_own HPL.out i
        have hc3 := HC3.out
        have i0 : (0 : Int) ≤ (i : Int) := by omega
        have i1 : (i : Int) < (n : Int) := by omega
        have i6 : (i : Int) ≤ (i : Int) + 1 := by omega
        have i7 : (i : Int) + 1 ≤ (c3 : Int) := by omega
        have i10 : c3 ≠ i := by omega
        have i12 : IntKind.i64.wrap ((i : Int) + 1) = (i : Int) + 1 := by rw [IntKind.wrap_i64]; omega
        go_wp2_with (fail)
        go_loopw [9, 10] (fun v9 v10 wr => ∃ k : Nat, v10 = .int .i64 k ∧ ((v9 = .int .i64 (-1) ∧ k ≤ s i) ∨ (v9 = .int .i64 (s i : Nat) ∧ k = s i + 1)) ∧ Hid (RowB wr U n (usedF t i)) ∧ Hid (Grew w3 wr)) (fun _ v10 _ => n + 1 - (intOf v10).toNat)
        case atStart => exact ⟨0, rfl, Or.inl ⟨rfl, Nat.zero_le _⟩, HUI.out, HGI.out⟩
        case round =>
          clear HUI HGI
          obtain ⟨k, rfl, hks, HU, HG⟩ := hrel
          rcases hks with ⟨rfl, hk⟩ | ⟨rfl, hks⟩
          · have hkn : k < n := by omega
            have k0 : (0 : Int) ≤ (k : Int) := by omega
            have k1 : (k : Int) < (n : Int) := by omega
            have k2 : decide ((k : Int) < (n : Int)) = true := decide_eq_true k1
            have k6 : (k : Int) ≤ (k : Int) + 1 := by omega
            have k7 : (k : Int) + 1 ≤ (c : Int) := by omega
            have k10 : c ≠ k := by omega
            have k12 : IntKind.i64.wrap ((k : Int) + 1) = (k : Int) + 1 := by rw [IntKind.wrap_i64]; omega
            go_wp2_with (fail)
            have hub := HU.out.1
            have huk := (HU.out.2 k hkn).1
            rcases Nat.eq_or_lt_of_le hk with hks | hks
            · rw [hks, HUO.out, ← hks] at huk
              have uk := grew_every (w := wr) (S := fun w' => w'.cell? ⟨U, k, none⟩ = some (.bool false)) (fun w' gg => (grew_cell gg (p := ⟨U, k, none⟩) hub).trans huk)
              have HRO := RowE.oneAtB (HR3.out.keep HG.out) i hlt bi0
              have HRL := RowE.oneAtB (HI3.out.keep HG.out) k hkn bi0
              rw [Option.map_some, Addr.add_mid, Nat.zero_add] at HRO
              rw [Option.map_some, Addr.add_mid] at HRL
              have HRO : Hid (RowE enB5 wr (some ⟨g, i * 5, none⟩) 1 [ol.getD i bi0]) := HRO
              have HRL : Hid (RowE enB5 wr (some ⟨bl, bo + k * 5, none⟩) 1 [l.getD k bi0]) := HRL
              have CM := fun w' (gg : Grew wr w') => kbids1_any (some ⟨g, i * 5, none⟩) (some ⟨bl, bo + k * 5, none⟩) (c3 - i) (c - k) (ol.getD i bi0) (l.getD k bi0) w' (HRO.out.keep gg) (HRL.out.keep gg)
              rw [show decide (ol.getD i bi0 = l.getD k bi0) = true from decide_eq_true (by rw [HOEi.out, hks])] at CM
              have HKS := Lib.hid hks
              clear huk hub HRO HRL hks
              refine wp_region_grew (by kernel_rfl) (by kernel_rfl) ?_
              repeat (go_big_quiet_step (first | with_reducible exact calls_every CM))
              refine wpQuiet_nil ?_
              intro w8 hw'
              have HG8 := Lib.hid (grew_trans HG.out (grew_of hw'))
              have HU8 := Lib.hid (HU.out.keep (grew_of hw'))
              clear hw' uk
              go_wp2
              go_roundw
              case rel => exact ⟨k + 1, by go_num, Or.inr ⟨by rw [HKS.out], by rw [HKS.out]⟩, HU8.out, HG8.out⟩
              case measure => simp only [intOf]; omega
            · cases hu : usedF t i k
              · rw [hu] at huk
                have uk := grew_every (w := wr) (S := fun w' => w'.cell? ⟨U, k, none⟩ = some (.bool false)) (fun w' gg => (grew_cell gg (p := ⟨U, k, none⟩) hub).trans huk)
                have HRO := RowE.oneAtB (HR3.out.keep HG.out) i hlt bi0
                have HRL := RowE.oneAtB (HI3.out.keep HG.out) k hkn bi0
                rw [Option.map_some, Addr.add_mid, Nat.zero_add] at HRO
                rw [Option.map_some, Addr.add_mid] at HRL
                have HRO : Hid (RowE enB5 wr (some ⟨g, i * 5, none⟩) 1 [ol.getD i bi0]) := HRO
                have HRL : Hid (RowE enB5 wr (some ⟨bl, bo + k * 5, none⟩) 1 [l.getD k bi0]) := HRL
                have CM := fun w' (gg : Grew wr w') => kbids1_any (some ⟨g, i * 5, none⟩) (some ⟨bl, bo + k * 5, none⟩) (c3 - i) (c - k) (ol.getD i bi0) (l.getD k bi0) w' (HRO.out.keep gg) (HRL.out.keep gg)
                rw [show decide (ol.getD i bi0 = l.getD k bi0) = false from decide_eq_false (fun e => HFSi.out k hks hu (by rw [← e, HOEi.out]))] at CM
                clear huk hub HRO HRL
                refine wp_region_grew (by kernel_rfl) (by kernel_rfl) ?_
                repeat (go_big_quiet_step (first | with_reducible exact calls_every CM))
                refine wpQuiet_nil ?_
                intro w8 hw'
                have HG8 := Lib.hid (grew_trans HG.out (grew_of hw'))
                have HU8 := Lib.hid (HU.out.keep (grew_of hw'))
                clear hw' uk
                go_wp2
                go_roundw
                case rel => exact ⟨k + 1, by go_num, Or.inl ⟨rfl, by omega⟩, HU8.out, HG8.out⟩
                case measure => simp only [intOf]; omega
              · rw [hu] at huk
                have uk := grew_every (w := wr) (S := fun w' => w'.cell? ⟨U, k, none⟩ = some (.bool true)) (fun w' gg => (grew_cell gg (p := ⟨U, k, none⟩) hub).trans huk)
                clear huk hub
                refine wp_region_grew (by kernel_rfl) (by kernel_rfl) ?_
                repeat (go_big_quiet_step (fail))
                refine wpQuiet_nil ?_
                intro w8 hw'
                have HG8 := Lib.hid (grew_trans HG.out (grew_of hw'))
                have HU8 := Lib.hid (HU.out.keep (grew_of hw'))
                clear hw' uk
                go_wp2
                go_roundw
                case rel => exact ⟨k + 1, by go_num, Or.inl ⟨rfl, by omega⟩, HU8.out, HG8.out⟩
                case measure => simp only [intOf]; omega
          · clear hks
            have hkz : ¬ ((s i : Nat) : Int) < 0 := by omega
            have hkz2 : decide (((s i : Nat) : Int) < 0) = false := decide_eq_false hkz
            go_upto_region 13 with (fail)
            go_cut [48] (fun s48 wx => s48 = .bool false ∧ wr = wx)
            case first =>
              by_cases hk9 : (k : Int) < (n : Int)
              · have k2 : decide ((k : Int) < (n : Int)) = true := decide_eq_true hk9
                go_wp2_with (fail)
                go_meet
                case rel => exact ⟨rfl, rfl⟩
              · have k2 : decide ((k : Int) < (n : Int)) = false := decide_eq_false hk9
                go_wp2_with (fail)
                go_meet
                case rel => exact ⟨rfl, rfl⟩
            case rest =>
             obtain ⟨rfl, rfl⟩ := hcut
             obtain ⟨huk, hufz⟩ := HU.out.2 (s i) hsi
             have HUN : Hid (RowB (wr.setCell ⟨U, s i, none⟩ (.bool true)) U n (usedF t (i + 1))) := by
               have h1 := HU.out.set (s i) true
               rw [used_next HPL.out i] at h1
               exact h1
             have HGN : Hid (Grew w3 (wr.setCell ⟨U, s i, none⟩ (.bool true))) := Below.setCell HG.out (p := ⟨U, s i, none⟩) (by rw [← HUU.out]; exact Nat.le_refl _) _
             have HSI := Lib.hid hsi
             have s0 : (0 : Int) ≤ ((s i : Nat) : Int) := by omega
             have s1 : ((s i : Nat) : Int) < (n : Int) := by omega
             clear HU HG
             generalize hS : s i = si at *
             have HSS := Lib.hid hS
             clear hS
             go_upto_region 20 with (fail)
             clear huk hufz
             generalize wr.setCell ⟨U, si, none⟩ (.bool true) = w6 at HUN HGN ⊢
             by_cases hi0 : 0 < i
             · have j2 : (i : Int) > 0 := by omega
               obtain ⟨j, rfl⟩ : ∃ q, i = q + 1 := ⟨i - 1, by omega⟩
               have zj : ((j + 1 : Nat) : Int) = (j : Int) + 1 := by omega
               have hp := HWAS.out (by omega)
               rw [Nat.add_sub_cancel] at hp
               have D := HSB.out s t HPL.out j (by rw [HL.out]; exact hlt)
               rw [← HOE.out j (by omega), ← HOE.out (j + 1) hlt, HSS.out] at D
               obtain ⟨g2, o2, e2, hgs, hcs⟩ := (HR3.out.keep HGN.out).rB5 hlt
               cases e2
               have ha := hcs j (by omega)
               have hb := hcs (j + 1) hlt
               rw [Nat.zero_add] at ha hb
               clear hcs
               generalize ol.getD j bi0 = a at *
               generalize ol.getD (j + 1) bi0 = b at *
               obtain ⟨a1, a2, a3, a4, a5⟩ := a
               obtain ⟨b1, b2, b3, b4, b5⟩ := b
               dsimp only at D
               obtain ⟨u0, u1, u2, u3, u4⟩ := ha
               obtain ⟨v0, v1, v2, v3, v4⟩ := hb
               dsimp only at u0 u1 u2 u3 u4 v0 v1 v2 v3 v4
               have k7 : IntKind.i64.wrap ((j : Int) + 1 - 1) = (j : Int) := by rw [IntKind.wrap_i64]; omega
               have k8 : (0 : Int) ≤ (j : Int) := by omega
               have k9 : (j : Int) < (n : Int) := by omega
               have HP := Lib.hid hp
               clear hp
               rw [zj] at i0 i1 i6 i7 i12 j2
               rw [zj]
               go_upto_region 21 with (fail)
               go_cut [11, 12] (fun s11 s12 wx => ∃ NA NB : Nat, s11 = .pointer (some ⟨NA, 0, none⟩) ∧ s12 = .pointer (some ⟨NB, 0, none⟩) ∧ Hid (OwnC wx NA [.int .i64 a1, .int .i64 a2, .int .i64 a3, .int .i64 a4, .int .i64 a5]) ∧ Hid (OwnC wx NB [.int .i64 b1, .int .i64 b2, .int .i64 b3, .int .i64 b4, .int .i64 b5]) ∧ Hid (Grew w6 wx))
               case first =>
                 go_big_region
                 all_goals
                   (go_wp2
                    go_meet
                    case rel =>
                      first
                        | exact ⟨_, _, rfl, rfl, (OwnC.new _ [.int .i64 a1, .int .i64 a2, .int .i64 a3, .int .i64 a4, .int .i64 a5] _ _ (by simp)).drew, ((OwnC.new _ [.int .i64 b1, .int .i64 b2, .int .i64 b3, .int .i64 b4, .int .i64 b5] _ _ rfl).keep (grew_alloc _ _ _)).drew, grew_trans (grew_trans (grew_alloc _ _ _) (grew_alloc _ _ _)) (grew_drew (grew_refl _))⟩
                        | exact ⟨_, _, rfl, rfl, ((OwnC.new _ [.int .i64 a1, .int .i64 a2, .int .i64 a3, .int .i64 a4, .int .i64 a5] _ _ rfl).keep (grew_alloc _ _ _)).drew, (OwnC.new _ [.int .i64 b1, .int .i64 b2, .int .i64 b3, .int .i64 b4, .int .i64 b5] _ _ (by simp)).drew, grew_trans (grew_trans (grew_alloc _ _ _) (grew_alloc _ _ _)) (grew_drew (grew_refl _))⟩)
               case rest =>
                 rename World => w9
                 obtain ⟨NA, NB, rfl, rfl, HNA, HNB, HG5⟩ := hcut
                 clear u0 u1 u2 u3 u4 v0 v1 v2 v3 v4 hgs
                 have HU9 := Lib.hid (HUN.out.keep HG5.out)
                 have HG9 := Lib.hid (grew_trans HGN.out HG5.out)
                 have u2 := HNA.out.at 2 _ rfl
                 have u4 := HNA.out.at 4 _ rfl
                 have v2 := HNB.out.at 2 _ rfl
                 have v4 := HNB.out.at 4 _ rfl
                 have hpp := HP.out
                 rcases D with D | ⟨D1, D | ⟨D2, D3⟩⟩
                 · cases long
                   · simp only [Bool.false_eq_true, if_false] at D
                     have d1 : (a5 != b5) = true := by simp; omega
                     have d2 : (a5 == b5) = false := by simp; omega
                     have d3 : decide (a5 > b5) = false := decide_eq_false (by omega)
                     have d4 : decide (b5 < a5) = false := decide_eq_false (by omega)
                     have d5 : a5 ≤ b5 := by omega
                     clear hpp
                     clear D
                     go_wp2
                     go_roundw
                     case rel => exact ⟨j + 1 + 1, si, by go_num, by omega, rfl, (fun _ => by rw [Nat.add_sub_cancel, HSS.out]), HU9.out, HG9.out⟩
                     case measure => simp only [intOf]; omega
                   · simp only [if_true] at D
                     have d1 : (a5 != b5) = true := by simp; omega
                     have d2 : (a5 == b5) = false := by simp; omega
                     have d3 : decide (a5 > b5) = true := decide_eq_true (by omega)
                     have d4 : decide (b5 < a5) = true := decide_eq_true (by omega)
                     clear hpp
                     clear D
                     go_wp2
                     go_roundw
                     case rel => exact ⟨j + 1 + 1, si, by go_num, by omega, rfl, (fun _ => by rw [Nat.add_sub_cancel, HSS.out]), HU9.out, HG9.out⟩
                     case measure => simp only [intOf]; omega
                 · have d1 : (a5 != b5) = false := by simp; omega
                   have d2 : (a5 == b5) = true := by simp; omega
                   have d3 : decide (a3 > b3) = false := decide_eq_false (by omega)
                   have d4 : decide (b3 < a3) = false := decide_eq_false (by omega)
                   have d5 : (a3 == b3) = false := by simp; omega
                   have d6 : a3 ≤ b3 := by omega
                   clear hpp D1
                   clear D
                   go_wp2
                   go_roundw
                   case rel => exact ⟨j + 1 + 1, si, by go_num, by omega, rfl, (fun _ => by rw [Nat.add_sub_cancel, HSS.out]), HU9.out, HG9.out⟩
                   case measure => simp only [intOf]; omega
                 · have d1 : (a5 != b5) = false := by simp; omega
                   have d2 : (a5 == b5) = true := by simp; omega
                   have d3 : decide (a3 > b3) = false := decide_eq_false (by omega)
                   have d4 : decide (b3 < a3) = false := decide_eq_false (by omega)
                   have d5 : (a3 == b3) = true := by simp; omega
                   have d6 : a3 ≤ b3 := by omega
                   have d7 : decide (p > (si : Int)) = false := decide_eq_false (by omega)
                   have d8 : decide ((si : Int) < p) = false := decide_eq_false (by omega)
                   have d9 : p ≤ (si : Int) := by omega
                   clear hpp D1 D2
                   clear D3
                   go_wp2
                   go_roundw
                   case rel => exact ⟨j + 1 + 1, si, by go_num, by omega, rfl, (fun _ => by rw [Nat.add_sub_cancel, HSS.out]), HU9.out, HG9.out⟩
                   case measure => simp only [intOf]; omega
             · have j2 : ¬ (i : Int) > 0 := by omega
               go_wp2_with (fail)
               go_roundw
               case rel => exact ⟨i + 1, si, by go_num, by omega, rfl, (fun _ => by rw [Nat.add_sub_cancel, HSS.out]), HUN.out, HGN.out⟩
               case measure => simp only [intOf]; omega
      · obtain rfl : i = n := by omega
        go_wp2_with (go_at_call 19; ((with_reducible refine (CW _).mono ?_); rintro e w9 ⟨rfl, hg⟩))
        go_ret
        exact ⟨rfl, grew_trans HGW.out (grew_trans HG.out hg)⟩
end Go.Proofs.Ytahioajpmlochaa.NumK
namespace Go.Proofs.Ytahioajpmlochaa.NumK
open Go.RowKit
theorem auctionOrders_row (w : World) (long : Bool) {A : Option Addr} {n c : Nat} {l : List B5} (h : Row spBi w A n l) (hk : A = none → c = 0) (hnc : n ≤ c) (hc : c ≤ 9223372036854775807) :
    Calls Try.prog 6 #[.bool long, .slice A n c] w fun e w' => e = .returned (.bool true) ∧ Grew w w' :=
  auctionOrders_walk long A n c l w (bis_row h) hk hnc hc (bis_in h)
end Go.Proofs.Ytahioajpmlochaa.NumK
namespace Go.Proofs.Ytahioajpmlochaa.auctionOrders
open Go.ChangeShapes Go.WideShapes Go.ChangeAt Go.RowKit
set_option linter.unusedVariables false

theorem own : ownKnob Try.prog.godebug = none := by kernel_rfl
theorem laidOut : laidOutB Try.prog = true := by kernel_rfl

set_option maxRecDepth 100000 in
theorem lifted (os : Os) (started : os.Started) (H : Type) (enc : TypeId × Value → H) :
    ReturnsInHanded {} Try.checked os 6 .any (Rows.auctionOrdersSpec.pre6 enc Try.prog Try.f6 Rows.auctionOrdersRow.domain false) (Rows.auctionOrdersSpec.post enc Try.prog Try.f6 false true false false) := by
  refine returnsInHanded_of_change (C := Try.checked) own started (by kernel_rfl) Try.func6
    (ChangeSpec.witness6 (enc := enc) (C := Try.checked) false ⟨#[], #[.bool false, .slice none 0 0], []⟩ 8 (by kernel_rfl) (by kernel_rfl) (by kernel_rfl) (by kernel_rfl)) ?_
  intro W base args ds gs before hval0 hW hcnd _
  have hval : ∀ (j : Nat) t v, Try.f6.params[j]? = some t → args[j]? = some v → Value.okWide Try.prog W .any base t v := hval0
  have hW' := hW
  obtain ⟨p, q, hA0, hV, rfl, hfz, hnd⟩ := hW
  have hA : DataW.TrodAll enc Try.prog W 0 (fun _ => true) true Try.f6.params.toList args.toList ds p := hA0
  skip
  rw [Try.params6] at hA hval
  obtain ⟨v0, vs0, d0, ds0, p0, q0, hargs, rfl, rfl, h0, r0⟩ := trodAll_cons hA
  obtain ⟨v1, vs1, d1, ds1, p1, q1, rfl, rfl, rfl, h1, r1⟩ := trodAll_cons r0
  obtain ⟨rfl, rfl, rfl⟩ := trodAll_nil r1
  obtain rfl : args = #[v0, v1] := by cases args; simp_all
  obtain ⟨rfl, rfl⟩ := trodVars_none hV
  obtain ⟨b0, rfl, rfl, rfl⟩ := open_bool Try.underlying4 (hval 0 4 v0 rfl rfl) h0
  have k1 := h1
  have lt1 : ∀ x ∈ p1, x.block < W.heap.size := by obtain ⟨m, hm⟩ := k1; exact DataW.trod_lt m _ _ _ hm
  obtain ⟨A1, len1, cap1, l1, rfl, ro1, n1, c1, m1⟩ := NumK.arg_slice Try.underlying22 NumK.opens_bis (hval 1 22 v1 rfl rfl) h1
  clear hA0 hval0
  refine (NumK.auctionOrders_row W b0 ro1 n1 c1 m1).mono fun e W' ⟨he, bel⟩ => ?_
  subst he
  exact ⟨_, rfl, _, _, _, [], _, [], hW', trodAll_mk1 (shut_bool Try.underlying4 _), (trodAll_cons_mk (shut_bool Try.underlying4 b0) (trodAll_cons_mk (Below.trod laidOut (by kernel_rfl) (of_decide_eq_true (by kernel_rfl)) k1 bel lt1) trodAll_mk0)), rfl, bel.frame _, fun h => by cases h⟩

theorem over : Rows.auctionOrdersRow.holds Try.pinned (OpenSpec.ofChange Rows.auctionOrdersSpec) :=
  OpenClaim.holds_of_wide 6 Try.f6 rfl rfl rfl rfl rfl rfl rfl ⟨rfl, rfl, rfl, rfl, rfl⟩ rfl rfl rfl rfl rfl (by kernel_rfl) Try.func6 (by kernel_rfl)
    (of_decide_eq_true (by kernel_rfl)) (by unfold Func.isWrapper; first | (rw [if_pos (by decide +kernel)]; kernel_rfl) | (rw [if_neg (by decide +kernel)]; exact ⟨rfl, rfl⟩))
    (fun os started H enc _ => lifted os started H enc)

/-! ### the statement -/
theorem proved : Rows.AuctionOrdersSaid := over
end Go.Proofs.Ytahioajpmlochaa.auctionOrders
