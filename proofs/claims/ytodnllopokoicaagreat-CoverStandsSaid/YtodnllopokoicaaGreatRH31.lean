/- ledger.total: the sum of those balances that count. -/
import Derived.Test.YtodnllopokoicaaGreatRH27
import Derived.Test.YtodnllopokoicaaGreatRH5
import Derived.Deep.CutBlock
import Derived.Shelf.Abstract
namespace Go.Proofs.YtodnllopokoicaaGreat.NumK
open Go.RowKit

/-- What is asked of a test of balances: in every world that has grown it answers p. -/
structure CntOK (g : Nat) (cb : Array Value) (p : Lg → Bool) (w0 : World) : Prop where
  call : ∀ w, Grew w0 w → ∀ x : Lg, Calls Tryz.prog g (#[legV x.1.1 x.1.2.1 x.1.2.2 x.2] ++ cb) w fun e w' => e = .returned (.bool (p x)) ∧ Grew w w'

set_option maxRecDepth 100000 in
set_option maxHeartbeats 1000000 in
theorem btotal_any (g : Nat) (cb : Array Value) (p : Lg → Bool) (A : Option Addr) (n c : Nat) (l : List Lg) (w : World) (eg : ∀ args w, (callFunc g args).run Tryz.prog w = .ok (.enter g args) w)
    (hC : CntOK g cb p w) (h : RowE enLg w A n l) (hn : n ≤ 90000) :
    Calls Tryz.prog 116 #[.slice A n c, .func (.func g) #[] cb] w fun e w' => e = .returned (.tuple #[.int .i64 (sumV (amts p l)), .int .i64 (sumE (amts p l))]) ∧ Grew w w' := by
  have HI := Lib.hid h
  have HC := Lib.hid hC
  have HL := Lib.hid h.len
  clear h hC
  go_enter Tryz.func116, Tryz.ntmps116
  go_wp2
  go_loopw [6, 11] (fun v6 v11 wr => ∃ j : Nat, v11 = .int .i64 j ∧ j ≤ n ∧ Hid (OwnE enInt wr w.heap.size 3 v6 (amts p (l.take j))) ∧ Hid (Grew w wr)) (fun _ v11 _ => n - (intOf v11).toNat)
  case atStart => exact ⟨0, rfl, by omega, OwnE.nil enInt _ _ _, grew_refl _⟩
  case round =>
    obtain ⟨j, rfl, hj, HO, HG⟩ := hrel
    by_cases hlt : j < n
    · have hjl : j < l.length := by rw [HL.out]; exact hlt
      obtain ⟨b, o, rfl, hb, a1, a2, a3, a4⟩ := (HI.out.keep HG.out).lg hlt
      have HA := Lib.hid (amts_snoc p l j hjl)
      have HAL : Hid ((amts p (l.take j)).length ≤ 90000) := by show _ ≤ _; have := amts_len p (l.take j); rw [List.length_take] at this; omega
      have CC := fun w1 (hg : Grew w w1) => HC.out.call w1 hg (l.getD j lg0)
      have i1 : (j : Int) < (n : Int) := by omega
      have i0 : (0 : Int) ≤ (j : Int) := by omega
      have HSZ : Hid (w.heap.size ≤ wr.heap.size) := HG.out.size
      clear hb
      generalize l.getD j lg0 = x at *
      unfold legV at CC
      by_cases hp : p x = true
      · have HA1 : Hid (amts p (l.take (j + 1)) = amts p (l.take j) ++ [x.2]) := by show _ = _; rw [HA.out, if_pos hp]
        rw [hp] at CC
        clear HA hp
        generalize x.1.1 = q1 at *
        generalize x.1.2.1 = q2 at *
        generalize x.1.2.2 = q3 at *
        generalize x.2 = q4 at *
        go_wp2_with (first
          | ((with_reducible refine (CC _ (grew_trans HG.out (grew_alloc _ _ _))).mono ?_); rintro e w5 ⟨rfl, hg⟩; have d3 : w5.cell? ⟨wr.heap.size, 3, none⟩ = some (.int .i64 q4) := own_cell hg 3; have HG5 := Lib.hid (own_back hg); clear hg)
          | (at_builtin; refine (wpList_append_E rfl _ _ 72 3 (.int .i64 0) 8 rfl Tryz.underlying72 info_int1 rfl w.heap.size _ _ rfl ((HO.out.keep HG5.out).keep (grew_alloc _ _ _)) _ 1 1 [q4] rfl (by intro h; cases h) (rowI_one _ _ _ _ rfl) (by have := HAL.out; unfold maxLen; omega) (by have := HAL.out; omega) (Nat.le_trans (Nat.le_trans HSZ.out HG5.out.size) (grew_alloc w5 _ _).size) ?_); intro v6 w6 hv hb6; rw [← HA1.out] at hv; have HV6 := Lib.hid hv; have HG6 : Hid (Grew w w6) := Below.trans (grew_trans HG.out (grew_trans HG5.out (grew_alloc _ _ _))) hb6; clear hv hb6))
        go_roundw
        case rel => exact ⟨j + 1, by go_num, by omega, HV6.out, HG6.out⟩
        case measure => simp only [intOf]; omega
      · have HA1 : Hid (amts p (l.take (j + 1)) = amts p (l.take j)) := by show _ = _; rw [HA.out, if_neg hp, List.append_nil]
        rw [← HA1.out] at HO
        rw [Bool.not_eq_true] at hp
        rw [hp] at CC
        clear HA hp HA1
        generalize x.1.1 = q1 at *
        generalize x.1.2.1 = q2 at *
        generalize x.1.2.2 = q3 at *
        generalize x.2 = q4 at *
        go_wp2_with ((with_reducible refine (CC _ (grew_trans HG.out (grew_alloc _ _ _))).mono ?_); rintro e w5 ⟨rfl, hg⟩; have HG5 := Lib.hid (own_back hg); clear hg)
        go_roundw
        case rel => exact ⟨j + 1, by go_num, by omega, HO.out.keep HG5.out, grew_trans HG.out HG5.out⟩
        case measure => simp only [intOf]; omega
    · obtain rfl : j = n := by omega
      rw [List.take_of_length_le (by rw [HL.out]; exact Nat.le_refl _)] at HO
      obtain ⟨A3, c3, rfl, hr3, _⟩ := HO.out.form
      have CS := sum_any A3 _ c3 _ wr (ints_of_E hr3) (Nat.le_trans (amts_len _ l) (by rw [HL.out]; omega))
      clear hr3 HO
      generalize (amts p l).length = N3 at *
      go_wp2_with (go_at_call 27; ((with_reducible refine CS.mono ?_); rintro e w7 ⟨rfl, hg⟩; have HG7 := Lib.hid (grew_trans HG.out hg); clear hg CS))
      go_ret2
      exact ⟨rfl, HG7.out⟩
end Go.Proofs.YtodnllopokoicaaGreat.NumK
namespace Go.Proofs.YtodnllopokoicaaGreat.NumK
open Go.RowKit

theorem evenP (cur : Int) (b : Nat) (w : World) (hb : w.cell? ⟨b, 0, none⟩ = some (.int .i64 cur)) (hl : b < w.heap.size) :
    CntOK 117 #[.pointer (some ⟨b, 0, none⟩)] (fun x => decide (x.1.2.2 = cur)) w := by
  refine ⟨fun w1 hg x => ?_⟩
  have hc : w1.cell? ⟨b, 0, none⟩ = some (.int .i64 cur) := (grew_cell hg (p := ⟨b, 0, none⟩) hl).trans hb
  have hl1 : b < w1.heap.size := Nat.lt_of_lt_of_le hl hg.size
  clear hg hb hl
  unfold legV
  show Calls Tryz.prog _ #[.agg #[.int .i64 x.1.1, .int .i64 x.1.2.1, .int .i64 x.1.2.2, .int .i64 x.2], .pointer (some ⟨b, 0, none⟩)] w1 _
  generalize x.1.1 = q1
  generalize x.1.2.1 = q2
  generalize x.1.2.2 = q3
  generalize x.2 = q4
  go_enter Tryz.func117, Tryz.ntmps117
  go_wp2
  go_ret
  exact ⟨ret_b (by rw [Bool.eq_iff_iff]; simp), grew_alloc _ _ _⟩

theorem amts_money (p : Lg → Bool) (l : List Lg) (hm : mayL l = true) : (amts p l).all isMoney = true := by
  rw [List.all_eq_true]
  intro z hz
  unfold amts at hz
  obtain ⟨x, hx, rfl⟩ := List.mem_map.1 hz
  have h1 := (List.all_eq_true.1 hm) x (List.mem_filter.1 hx).1
  rw [isMoney_iff]; exact (okL_parts h1).2
theorem sums_zero (s : Int) : (capV s = 0 ∧ capE s = 0) ↔ s = 0 := by
  constructor
  · rintro ⟨h1, h2⟩
    by_cases h : isMoney s = true
    · rw [capV_in h] at h1; exact h1
    · rw [Bool.not_eq_true] at h; rw [capE_out h] at h2; cases h2
  · rintro rfl; exact ⟨by decide, by decide⟩

set_option maxRecDepth 100000 in
theorem leven_any (A : Option Addr) (n c : Nat) (l : List Lg) (w : World) (h : RowE enLg w A n l) (hm : mayL l = true) (hn : n ≤ 90000) :
    Calls Tryz.prog 56 #[.slice A n c] w fun e w' => e = .returned (.bool (evenL l)) ∧ Grew w w' := by
  have HI := Lib.hid h
  have HM := Lib.hid hm
  have HEV : Hid ((∀ q : Nat, q < 3 → sumC l q = 0) → evenL l = true) := fun h => by
    unfold evenL; rw [show sumC l 0 = 0 from h 0 (by omega), show sumC l 1 = 0 from h 1 (by omega), show sumC l 2 = 0 from h 2 (by omega)]; rfl
  have HNE : Hid (∀ q : Nat, q < 3 → ¬ sumC l q = 0 → evenL l = false) := fun q hq h => by
    rw [Bool.eq_false_iff]
    unfold evenL
    have : q = 0 ∨ q = 1 ∨ q = 2 := by omega
    rcases this with rfl | rfl | rfl
    · simp only [ne_eq, Bool.and_eq_true, decide_eq_true_eq]; exact fun hh => h hh.1.1
    · simp only [ne_eq, Bool.and_eq_true, decide_eq_true_eq]; exact fun hh => h hh.1.2
    · simp only [ne_eq, Bool.and_eq_true, decide_eq_true_eq]; exact fun hh => h hh.2
  generalize evenL l = R at *
  clear h hm
  have eg := enters_of Tryz.func117 (by kernel_rfl) rfl
  go_enter Tryz.func56, Tryz.ntmps56
  go_wp2
  go_loopw [6] (fun v wr => ∃ q : Nat, v = .int .i64 q ∧ q ≤ 3 ∧ Hid (∀ i : Nat, i < q → sumC l i = 0) ∧ Hid (Grew w wr)) (fun v _ => 3 - (intOf v).toNat)
  case atStart => exact ⟨0, rfl, by omega, (by intro i hi; omega), grew_refl _⟩
  case round =>
    obtain ⟨q, rfl, hq, HQ, HG⟩ := hrel
    by_cases hq3 : q < 3
    · have i9 : (q : Int) < 3 := by omega
      have CT : ∀ N, N = wr.heap.size → Calls Tryz.prog 116 #[.slice A n c, .func (.func 117) #[] #[.pointer (some ⟨N, 0, none⟩)]] (wr.alloc (.cells #[.int .i64 q] 3)) fun e w' => e = .returned (.tuple #[.int .i64 (capV (sumC l q)), .int .i64 (capE (sumC l q))]) ∧ Grew wr w' := by
        rintro N rfl
        refine (btotal_any _ _ _ A n c l _ eg (evenP q wr.heap.size (wr.alloc (.cells #[.int .i64 q] 3)) (by simp) (by simp)) ((HI.out.keep HG.out).keep (grew_alloc _ _ _)) hn).mono ?_
        rintro e w' ⟨rfl, hg⟩
        have hs := amts_money (fun x => decide (x.1.2.2 = (q : Int))) l HM.out
        rw [sumV_in hs, sumE_in hs, amts_C]
        exact ⟨rfl, own_back hg⟩
      have HNE1 := Lib.hid (HNE.out q hq3)
      have HQ1 : Hid (sumC l q = 0 → ∀ i : Nat, i < q + 1 → sumC l i = 0) := fun h i hi => by
        rcases Nat.lt_or_ge i q with h1 | h1
        · exact HQ.out i h1
        · obtain rfl : i = q := by omega
          exact h
      have HZ := Lib.hid (sums_zero (sumC l q))
      clear eg
      generalize sumC l (q : Int) = s at *
      generalize hv : capV s = v at *
      generalize he : capE s = e at *
      clear hv he
      by_cases hs : s = 0
      · have HQ2 := Lib.hid (HQ1.out hs)
        obtain ⟨rfl, rfl⟩ := HZ.out.2 hs
        clear HQ1 HNE1 HZ hs
        go_wp2_with (go_at_call 116; ((with_reducible refine (CT _ rfl).mono ?_); rintro e w7 ⟨rfl, hg⟩; have HG7 := Lib.hid (grew_trans HG.out hg); clear hg CT))
        go_roundw
        case rel => exact ⟨q + 1, by go_num, by omega, HQ2.out, HG7.out⟩
        case measure => simp only [intOf]; omega
      · have HR := Lib.hid (HNE1.out hs)
        have hz : ¬ (v = 0 ∧ e = 0) := fun hh => hs (HZ.out.1 hh)
        clear HQ1 HNE1 HZ hs
        by_cases hv0 : v = 0
        · subst hv0
          have d1 : (e != 0) = true := by simpa using hz
          clear hz
          go_wp2_with (go_at_call 116; ((with_reducible refine (CT _ rfl).mono ?_); rintro e w7 ⟨rfl, hg⟩; have HG7 := Lib.hid (grew_trans HG.out hg); clear hg CT))
          go_ret
          exact ⟨ret_b HR.out.symm, HG7.out⟩
        · have d1 : (v != 0) = true := by simpa using hv0
          clear hz
          go_wp2_with (go_at_call 116; ((with_reducible refine (CT _ rfl).mono ?_); rintro e w7 ⟨rfl, hg⟩; have HG7 := Lib.hid (grew_trans HG.out hg); clear hg CT))
          go_ret
          exact ⟨ret_b HR.out.symm, HG7.out⟩
    · obtain rfl : q = 3 := by omega
      have HR0 := Lib.hid (HEV.out HQ.out)
      go_wp2
      go_ret
      exact ⟨ret_b HR0.out.symm, HG.out⟩
end Go.Proofs.YtodnllopokoicaaGreat.NumK
