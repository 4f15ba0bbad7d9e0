/- The reference's Total and Ledger. -/
import Derived.Test.YtodnllopokoicaaGreatRH27
import Derived.Test.YtodnllopokoicaaGreatRH26
import Derived.Test.YtodnllopokoicaaGreatRH7
namespace Go.Proofs.YtodnllopokoicaaGreat.NumK
open Go.RowKit

set_option maxRecDepth 100000 in
set_option maxHeartbeats 4000000 in
theorem rtotal_any (last cur : Int) (A K : Option Addr) (n c kn kc : Nat) (l : List Lg) (ks : List Int) (w : World) (h : RowE enLg w A n l) (h2 : Ints w K kn ks) (hm : mayL l = true) (hn : n ≤ 90000) (hk : kn ≤ 90000) :
    Calls Tryz.prog 77 #[ldV last A n c, .int .i64 cur, .slice K kn kc] w fun e w' => e = .returned (.tuple #[.int .i64 (intV (sumK l cur ks)), .bool (isMoney (sumK l cur ks))]) ∧ Grew w w' := by
  have HI := Lib.hid h
  have HJ := Lib.hid h2
  have HL := Lib.hid h.len
  have HL2 : Hid (ks.length = kn) := h2.1
  have HM := Lib.hid hm
  clear h h2 hm
  unfold ldV
  go_enter Tryz.func77, Tryz.ntmps77
  go_wp2
  go_loopw [8, 9] (fun v8 v9 wr => ∃ j : Nat, v9 = .int .i64 j ∧ j ≤ n ∧ Hid (OwnE enInt wr (w.heap.size + 1) 3 v8 (amts (inK cur ks) (l.take j))) ∧ Hid (Grew (w.alloc (.cells #[.int .i64 last, .slice A n c] 35)) wr)) (fun _ v9 _ => n - (intOf v9).toNat)
  case atStart => exact ⟨0, rfl, by omega, OwnE.nil enInt _ _ _, grew_refl _⟩
  case round =>
    obtain ⟨j, rfl, hj, HO, HG⟩ := hrel
    have p1 : wr.cell? ⟨w.heap.size, 1, none⟩ = some (.slice A n c) := own_cell HG.out 1
    have hp1 : w.heap.size < wr.heap.size := own_lt HG.out
    have HG0 := Lib.hid (own_back HG.out)
    generalize wr = wo at *
    by_cases hlt : j < n
    · have hjl : j < l.length := by rw [HL.out]; exact hlt
      obtain ⟨b, o, rfl, hb, a1, a2, a3, a4⟩ := (HI.out.keep HG0.out).lg hlt
      have HA := Lib.hid (amts_snoc (inK cur ks) l j hjl)
      have HAL : Hid ((amts (inK cur ks) (l.take j)).length ≤ 90000) := by show _ ≤ _; have := amts_len (inK cur ks) (l.take j); rw [List.length_take] at this; omega
      have i1 : (j : Int) < (n : Int) := by omega
      have i0 : (0 : Int) ≤ (j : Int) := by omega
      have HIK : Hid (inK cur ks (l.getD j lg0) = (decide ((l.getD j lg0).1.2.2 = cur) && ks.contains (l.getD j lg0).1.1)) := rfl
      have HSZ : Hid (w.heap.size + 1 ≤ wo.heap.size) := hp1
      generalize l.getD j lg0 = x at *
      obtain ⟨⟨q1, q2, q3⟩, q4⟩ := x
      dsimp only at a1 a2 a3 a4 HIK
      have x1 : ∀ w', Grew wo w' → w'.cell? ⟨b, o + j * 4, none⟩ = some (.int .i64 q1) := fun w' g => (grew_cell g (p := ⟨b, o + j * 4, none⟩) hb).trans a1
      have x3 : ∀ w', Grew wo w' → w'.cell? ⟨b, o + j * 4 + 2, none⟩ = some (.int .i64 q3) := fun w' g => (grew_cell g (p := ⟨b, o + j * 4 + 2, none⟩) hb).trans a3
      have x4 : ∀ w', Grew wo w' → w'.cell? ⟨b, o + j * 4 + 3, none⟩ = some (.int .i64 q4) := fun w' g => (grew_cell g (p := ⟨b, o + j * 4 + 3, none⟩) hb).trans a4
      have x0 : ∀ w', Grew wo w' → w'.cell? ⟨w.heap.size, 1, none⟩ = some (.slice (some ⟨b, o, none⟩) n c) := fun w' g => (grew_cell g (p := ⟨w.heap.size, 1, none⟩) hp1).trans p1
      have HX := Lib.hid (And.intro x0 (And.intro x1 (And.intro x3 x4)))
      clear x0 x1 x3 x4 a1 a2 a3 a4 hb
      go_wp2
      clear p1 hp1
      go_loopw [10, 11] (fun v10 v11 wx => ∃ k : Nat, v11 = .int .i64 k ∧ k ≤ kn ∧ v10 = .bool ((ks.take k).contains q1) ∧ Hid (Grew wo wx)) (fun _ v11 _ => kn - (intOf v11).toNat)
      case atStart => exact ⟨0, rfl, by omega, rfl, grew_refl _⟩
      case round =>
        obtain ⟨k, rfl, hkk, rfl, HG2⟩ := hrel
        by_cases hlk : k < kn
        · have hkl : k < ks.length := by rw [HL2.out]; exact hlk
          obtain ⟨bk, ok, rfl, hbk, hck⟩ := HJ.out.2 (by omega)
          have hck := hck k hlk
          have HT : Hid ((ks.take (k + 1)).contains q1 = ((ks.take k).contains q1 || decide (ks.getD k 0 = q1))) := by show _ = _; rw [take_snoc ks k 0 hkl, contains_snoc']
          generalize ks.getD k 0 = y at *
          have z0 : ∀ p : GrewTo wr, p.to.cell? ⟨bk, ok + k, none⟩ = some (.int .i64 y) := fun p => (grew_cell (grew_trans HG0.out (grew_trans HG2.out p.h)) (p := ⟨bk, ok + k, none⟩) hbk).trans hck
          have z1 : ∀ p : GrewTo wr, p.to.cell? ⟨w.heap.size, 1, none⟩ = some (.slice (some ⟨b, o, none⟩) n c) := fun p => HX.out.1 _ (grew_trans HG2.out p.h)
          have z2 : ∀ p : GrewTo wr, p.to.cell? ⟨b, o + j * 4, none⟩ = some (.int .i64 q1) := fun p => HX.out.2.1 _ (grew_trans HG2.out p.h)
          have j1 : (k : Int) < (kn : Int) := by omega
          have j0 : (0 : Int) ≤ (k : Int) := by omega
          clear hck hbk
          generalize (ks.take k).contains q1 = bb at *
          cases bb
          · have d1 : (y == q1) = decide (y = q1) := by rw [Bool.eq_iff_iff]; simp
            have HT2 : Hid ((ks.take (k + 1)).contains q1 = decide (y = q1)) := by show _ = _; rw [HT.out]; rfl
            generalize decide (y = q1) = dd at *
            clear HT
            go_wp2_with fail
            refine wp_region_grew (by kernel_rfl) (by kernel_rfl) ?_
            repeat (go_big_quiet_step (fail))
            refine wpQuiet_nil ?_
            intro w6 hw'
            have HG6 := Lib.hid (grew_of hw')
            clear hw' z0 z1 z2
            go_wp2
            go_roundw
            case rel => exact ⟨k + 1, by go_num, by omega, by rw [HT2.out], grew_trans HG2.out HG6.out⟩
            case measure => simp only [intOf]; omega
          · have HT2 : Hid ((ks.take (k + 1)).contains q1 = true) := by show _ = _; rw [HT.out]; rfl
            clear HT
            go_wp2_with fail
            refine wp_region_grew (by kernel_rfl) (by kernel_rfl) ?_
            repeat (go_big_quiet_step (fail))
            refine wpQuiet_nil ?_
            intro w6 hw'
            have HG6 := Lib.hid (grew_of hw')
            clear hw' z0 z1 z2
            go_wp2
            go_roundw
            case rel => exact ⟨k + 1, by go_num, by omega, by rw [HT2.out], grew_trans HG2.out HG6.out⟩
            case measure => simp only [intOf]; omega
        · obtain rfl : k = kn := by omega
          rw [List.take_of_length_le (by rw [HL2.out]; exact Nat.le_refl _)]
          have z0 := HX.out.1 _ HG2.out
          have z1 := HX.out.2.1 _ HG2.out
          have z3 := HX.out.2.2.1 _ HG2.out
          have z4 := HX.out.2.2.2 _ HG2.out
          have HSZ2 : Hid (w.heap.size + 1 ≤ wr.heap.size) := Nat.le_trans HSZ.out HG2.out.size
          have HO2 := Lib.hid (HO.out.keep HG2.out)
          clear HX HO
          generalize ks.contains q1 = bb at *
          cases bb
          · have HA1 : Hid (amts (inK cur ks) (l.take (j + 1)) = amts (inK cur ks) (l.take j)) := by show _ = _; rw [HA.out, HIK.out, Bool.and_false]; simp
            rw [← HA1.out] at HO2
            clear HA HIK HA1
            go_wp2
            go_roundw
            case rel => exact ⟨j + 1, by go_num, by omega, HO2.out, grew_trans HG.out HG2.out⟩
            case measure => simp only [intOf]; omega
          · by_cases hc : q3 = cur
            · have HA1 : Hid (amts (inK cur ks) (l.take (j + 1)) = amts (inK cur ks) (l.take j) ++ [q4]) := by show _ = _; rw [HA.out, HIK.out, decide_eq_true hc]; simp
              have d1 : (q3 == cur) = true := by simpa using hc
              clear HA HIK hc
              go_wp2_with (at_builtin; refine (wpList_append_E rfl _ _ 72 3 (.int .i64 0) 8 rfl Tryz.underlying72 info_int1 rfl (w.heap.size + 1) _ _ rfl (HO2.out.keep (grew_alloc _ _ _)) _ 1 1 [q4] rfl (by intro h; cases h) (rowI_one _ _ _ _ rfl) (by have := HAL.out; unfold maxLen; omega) (by have := HAL.out; omega) (Nat.le_trans HSZ2.out (grew_alloc wr _ _).size) ?_); intro v6 w6 hv hb6; rw [← HA1.out] at hv; have HV6 := Lib.hid hv; have HG6 : Hid (Grew (w.alloc (.cells #[.int .i64 last, .slice (some ⟨b, o, none⟩) n c] 35)) w6) := Below.trans (grew_trans HG.out (grew_trans HG2.out (grew_alloc _ _ _))) (Below.mono hb6 (by simp)); clear hv hb6)
              go_roundw
              case rel => exact ⟨j + 1, by go_num, by omega, HV6.out, HG6.out⟩
              case measure => simp only [intOf]; omega
            · have HA1 : Hid (amts (inK cur ks) (l.take (j + 1)) = amts (inK cur ks) (l.take j)) := by show _ = _; rw [HA.out, HIK.out, decide_eq_false hc]; simp
              rw [← HA1.out] at HO2
              have d1 : (q3 == cur) = false := by simpa using hc
              clear HA HIK HA1 hc
              go_wp2
              go_roundw
              case rel => exact ⟨j + 1, by go_num, by omega, HO2.out, grew_trans HG.out HG2.out⟩
              case measure => simp only [intOf]; omega
    · obtain rfl : j = n := by omega
      rw [List.take_of_length_le (by rw [HL.out]; exact Nat.le_refl _)] at HO
      obtain ⟨A3, c3, rfl, hr3, _⟩ := HO.out.form
      have CA := add_any A3 _ c3 _ wo (ints_of_E hr3) (amts_in _ l HM.out) (Nat.le_trans (amts_len _ l) (by rw [HL.out]; omega))
      rw [show (amts (inK cur ks) l).sum = sumK l cur ks from rfl] at CA
      clear hr3 HO
      generalize (amts (inK cur ks) l).length = N3 at *
      go_wp2_with (go_at_call 34; ((with_reducible refine CA.mono ?_); rintro e w7 ⟨rfl, hg⟩; have HG7 := Lib.hid (grew_trans HG0.out hg); clear hg CA))
      go_ret2
      exact ⟨rfl, HG7.out⟩
end Go.Proofs.YtodnllopokoicaaGreat.NumK
