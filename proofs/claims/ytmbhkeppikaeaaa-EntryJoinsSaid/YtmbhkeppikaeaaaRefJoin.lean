/- The reference's Check and Join. -/
import Derived.Test.YtmbhkeppikaeaaaCheck
import Derived.Test.YtmbhkeppikaeaaaRefAdd
import Derived.Test.YtmbhkeppikaeaaaAcD
namespace Go.Proofs.Ytmbhkeppikaeaaa.NumK
open Go.RowKit

def enInt : En Int := ⟨1, fun n => [.int .i64 n], fun _ => rfl, fun n v hv => by simp at hv; rw [hv]; rfl, by decide⟩
theorem info_int1 : (Try.prog.info? 3).map (fun i => (i.zero, i.size, i.bytes)) = some (some (.int .i64 0), 1, 8) := by kernel_rfl
theorem ints_of_E {w : World} {A : Option Addr} {n : Nat} {l : List Int} (h : RowE enInt w A n l) : Ints w A n l := by
  refine ⟨h.len, fun hn => ?_⟩
  obtain ⟨b, o, e, hb, hc⟩ := h.at hn
  refine ⟨b, o, e, hb, fun j hj => ?_⟩
  have hj2 : j < l.length := by rw [h.len]; exact hj
  have := hc j hj2 0 (by decide)
  rw [show o + j * enInt.size + 0 = o + j by show o + j * 1 + 0 = _; omega] at this
  rw [this]
  simp [enInt, List.getD, hj2]
theorem rowI_one (w : World) (n : Int) (t : TypeId) (N : Nat) (hN : w.heap.size = N) : RowE enInt (w.alloc (.cells #[.int .i64 n] t)) (some ⟨N, 0, none⟩) 1 [n] := by
  subst hN
  refine ⟨rfl, fun _ => ⟨_, _, rfl, by simp, fun j hj => ⟨_, rfl, fun i hi => ?_⟩⟩⟩
  have hi : i < 1 := hi
  have hj : j < 1 := hj
  match j, hj, i, hi with
  | 0, _, 0, _ => exact (World.cell?_alloc_at _ _ _ _ rfl).trans rfl

theorem same_any (k m c k' m' c' : Int) (w : World) : Calls Try.prog 30 #[acV k m c, acV k' m' c'] w fun e w' => e = .returned (.bool (sameA k m c k' m' c')) ∧ Grew w w' := by
  unfold acV
  go_enter Try.func30, Try.ntmps30
  go_wp2
  all_goals go_ret
  all_goals exact ⟨ret_b (by rw [Bool.eq_iff_iff]; simp_all [sameA]), grew_trans (grew_alloc _ _ _) (grew_alloc _ _ _)⟩

/-- The amounts of the legs of which p holds. -/
def amts (p : Lg → Bool) (l : List Lg) : List Int := (l.filter p).map (·.2)
theorem amts_snoc (p : Lg → Bool) (l : List Lg) (j : Nat) (h : j < l.length) : amts p (l.take (j + 1)) = amts p (l.take j) ++ if p (l.getD j lg0) then [(l.getD j lg0).2] else [] := by
  unfold amts
  rw [take_snoc l j lg0 h, List.filter_append, List.map_append]
  congr 1
  generalize l.getD j lg0 = x
  cases h : p x
  · simp [h]
  · simp [h]
theorem amts_len (p : Lg → Bool) (l : List Lg) : (amts p l).length ≤ l.length := by
  unfold amts; rw [List.length_map]; exact List.length_filter_le _ _
theorem amts_in (p : Lg → Bool) (l : List Lg) (h : mayL l = true) : ∀ z ∈ amts p l, -9223372036854775808 ≤ z ∧ z ≤ 9223372036854775807 := by
  intro z hz
  unfold amts at hz
  obtain ⟨x, hx, rfl⟩ := List.mem_map.1 hz
  have h1 := (List.all_eq_true.1 h) x (List.mem_filter.1 hx).1
  have := (okL_parts h1).2
  omega
theorem amts_C (l : List Lg) (c : Int) : (amts (fun x => decide (x.1.2.2 = c)) l).sum = sumC l c := rfl
theorem amts_A (l : List Lg) (a : Ac) : (amts (fun x => decide (x.1 = a)) l).sum = sumA l a := rfl
theorem intV_ne (s : Int) : (isMoney s = true ∧ intV s = 0) ↔ s = 0 := by
  unfold intV
  constructor
  · rintro ⟨h1, h2⟩; rw [h1] at h2; exact h2
  · rintro rfl; exact ⟨by decide, by decide⟩

set_option maxRecDepth 100000 in
set_option maxHeartbeats 2000000 in
theorem refCheck_any (A : Option Addr) (n c : Nat) (l : List Lg) (w : World) (h : RowE enLg w A n l) (hn : n ≤ 90000) :
    Calls Try.prog 11 #[.slice A n c] w fun e w' => e = .returned (.int .i64 (checkE l)) ∧ Grew w w' := by
  have HI := Lib.hid h
  have HL := Lib.hid h.len
  have CR := fun w (h : RowE enLg w A n l) => refMay_any A n c l w h (by omega)
  have HE : Hid (checkE l = if n = 0 then 2 else if 64 < n then 5 else if mayL l then (if evenL l then 0 else 12) else 3) := by show _ = _; unfold checkE; rw [h.len]
  generalize checkE l = R at *
  clear h
  by_cases h0 : n = 0
  · have HR : Hid (R = 2) := by show _ = _; rw [HE.out, if_pos h0]
    subst h0
    go_enter Try.func11, Try.ntmps11
    go_wp2
    go_ret
    exact ⟨ret_i HR.out.symm, grew_refl _⟩
  · have d0 : ((n : Int) == 0) = false := by simp; omega
    by_cases h1 : 64 < n
    · have HR : Hid (R = 5) := by show _ = _; rw [HE.out, if_neg h0, if_pos h1]
      have i1 : (64 : Int) < (n : Int) := by omega
      clear h0
      go_enter Try.func11, Try.ntmps11
      go_wp2
      go_ret
      exact ⟨ret_i HR.out.symm, grew_refl _⟩
    · have HR1 : Hid (R = if mayL l then (if evenL l then 0 else 12) else 3) := by show _ = _; rw [HE.out, if_neg h0, if_neg h1]
      have i1 : ¬ (64 : Int) < (n : Int) := by omega
      clear h0 HE
      by_cases hm : mayL l = true
      · rw [hm] at CR
        have HR2 : Hid (R = if evenL l then 0 else 12) := by show _ = _; rw [HR1.out, hm]; rfl
        have HM := Lib.hid hm
        have HEV : Hid ((∀ q : Nat, q < 3 → sumC l q = 0) → R = 0) := fun h => by
          rw [HR2.out]; unfold evenL; rw [show sumC l 0 = 0 from h 0 (by omega), show sumC l 1 = 0 from h 1 (by omega), show sumC l 2 = 0 from h 2 (by omega)]; rfl
        have HNE : Hid (∀ q : Nat, q < 3 → ¬ sumC l q = 0 → R = 12) := fun q hq h => by
          rw [HR2.out, if_neg]
          unfold evenL
          have : q = 0 ∨ q = 1 ∨ q = 2 := by omega
          rcases this with rfl | rfl | rfl
          · simp only [Bool.and_eq_true, decide_eq_true_eq]; exact fun hh => h hh.1.1
          · simp only [Bool.and_eq_true, decide_eq_true_eq]; exact fun hh => h hh.1.2
          · simp only [Bool.and_eq_true, decide_eq_true_eq]; exact fun hh => h hh.2
        clear HR1 HR2 hm
        go_enter Try.func11, Try.ntmps11
        go_wp2_with (go_at_call 24; ((with_reducible refine (CR _ HI.out).mono ?_); rintro e w1 ⟨rfl, hg⟩; have HG1 := Lib.hid hg; clear hg CR))
        go_loopw [3] (fun v3 wr => ∃ q : Nat, v3 = .int .i64 q ∧ q ≤ 3 ∧ Hid (∀ i : Nat, i < q → sumC l i = 0) ∧ Hid (Grew w wr)) (fun v3 _ => 3 - (intOf v3).toNat)
        case atStart => exact ⟨0, rfl, by omega, (by intro i hi; omega), HG1.out⟩
        case round =>
          clear HG1
          obtain ⟨q, rfl, hq, HQ, HG⟩ := hrel
          generalize wr = wo at *
          by_cases hq3 : q < 3
          · have i9 : (q : Int) < 3 := by omega
            go_wp2
            go_loopw [4, 5] (fun v4 v5 wx => ∃ j : Nat, v5 = .int .i64 j ∧ j ≤ n ∧ Hid (OwnE enInt wx wo.heap.size 3 v4 (amts (fun x => decide (x.1.2.2 = (q : Int))) (l.take j))) ∧ Hid (Grew wo wx)) (fun _ v5 _ => n - (intOf v5).toNat)
            case atStart => exact ⟨0, rfl, by omega, OwnE.nil enInt _ _ _, grew_refl _⟩
            case round =>
              obtain ⟨j, rfl, hj, HO, HG2⟩ := hrel
              by_cases hlt : j < n
              · have hjl : j < l.length := by rw [HL.out]; exact hlt
                obtain ⟨b, o, rfl, hb, a1, a2, a3, a4⟩ := (HI.out.keep (grew_trans HG.out HG2.out)).lg hlt
                have HA := Lib.hid (amts_snoc (fun x => decide (x.1.2.2 = (q : Int))) l j hjl)
                have HAL : Hid ((amts (fun x => decide (x.1.2.2 = (q : Int))) (l.take j)).length ≤ 90000) := by show _ ≤ _; have := amts_len (fun x => decide (x.1.2.2 = (q : Int))) (l.take j); rw [List.length_take] at this; omega
                have i2 : (j : Int) < (n : Int) := by omega
                have i3 : (0 : Int) ≤ (j : Int) := by omega
                have HSZ : Hid (wo.heap.size ≤ wr.heap.size) := HG2.out.size
                clear hb a1 a2
                generalize l.getD j lg0 = x at *
                by_cases hc : x.1.2.2 = (q : Int)
                · have HA1 : Hid (amts (fun x => decide (x.1.2.2 = (q : Int))) (l.take (j + 1)) = amts (fun x => decide (x.1.2.2 = (q : Int))) (l.take j) ++ [x.2]) := by show _ = _; rw [HA.out, if_pos (by simpa using hc)]
                  rw [hc] at a3
                  clear HA hc
                  generalize x.2 = q4 at *
                  go_wp2_with (at_builtin; refine (wpList_append_E rfl _ _ 43 3 (.int .i64 0) 8 rfl Try.underlying43 info_int1 rfl wo.heap.size _ _ rfl (HO.out.keep (grew_alloc _ _ _)) _ 1 1 [q4] rfl (by intro h; cases h) (rowI_one _ _ _ _ rfl) (by have := HAL.out; unfold maxLen; omega) (by have := HAL.out; omega) (Nat.le_trans HSZ.out (grew_alloc wr _ _).size) ?_); intro v6 w6 hv hb6; rw [← HA1.out] at hv; have HV6 := Lib.hid hv; have HG6 : Hid (Grew wo w6) := Below.trans (grew_trans HG2.out (grew_alloc _ _ _)) hb6; clear hv hb6)
                  go_roundw
                  case rel => exact ⟨j + 1, by go_num, by omega, HV6.out, HG6.out⟩
                  case measure => simp only [intOf]; omega
                · have HA1 : Hid (amts (fun x => decide (x.1.2.2 = (q : Int))) (l.take (j + 1)) = amts (fun x => decide (x.1.2.2 = (q : Int))) (l.take j)) := by show _ = _; rw [HA.out, if_neg (by simpa using hc), List.append_nil]
                  rw [← HA1.out] at HO
                  have d1 : (x.1.2.2 == (q : Int)) = false := by simpa using hc
                  clear HA hc
                  generalize x.1.2.2 = q3 at *
                  go_wp2
                  go_roundw
                  case rel => exact ⟨j + 1, by go_num, by omega, HO.out, HG2.out⟩
                  case measure => simp only [intOf]; omega
              · obtain rfl : j = n := by omega
                rw [List.take_of_length_le (by rw [HL.out]; exact Nat.le_refl _)] at HO
                obtain ⟨A3, c3, rfl, hr3, _⟩ := HO.out.form
                have CA := add_any A3 _ c3 _ wr (ints_of_E hr3) (amts_in _ l HM.out) (Nat.le_trans (amts_len _ l) (by rw [HL.out]; omega))
                rw [amts_C] at CA
                have HNE1 := Lib.hid (HNE.out q hq3)
                have HQ1 : Hid (sumC l q = 0 → ∀ i : Nat, i < q + 1 → sumC l i = 0) := fun h i hi => by
                  rcases Nat.lt_or_ge i q with h1 | h1
                  · exact HQ.out i h1
                  · obtain rfl : i = q := by omega
                    exact h
                have HIV := Lib.hid (intV_ne (sumC l q))
                generalize (amts (fun x => decide (x.1.2.2 = (q : Int))) l).length = N3 at *
                clear hr3 HO
                generalize sumC l (q : Int) = s at *
                by_cases hs : s = 0
                · have HQ2 := Lib.hid (HQ1.out hs)
                  obtain ⟨e1, e2⟩ := HIV.out.2 hs
                  rw [e1, e2] at CA
                  clear HQ1 HNE1 HIV hs e1 e2
                  go_wp2_with (go_at_call 25; ((with_reducible refine CA.mono ?_); rintro e w7 ⟨rfl, hg⟩; have HG7 := Lib.hid (grew_trans HG.out (grew_trans HG2.out hg)); clear hg CA))
                  go_roundw
                  case rel => exact ⟨q + 1, by go_num, by omega, HQ2.out, HG7.out⟩
                  case measure => simp only [intOf]; omega
                · have HR12 := Lib.hid (HNE1.out hs)
                  cases hmm : isMoney s
                  · rw [hmm] at CA
                    clear HQ1 HNE1 HIV hs hmm
                    generalize intV s = iv at *
                    go_wp2_with (go_at_call 25; ((with_reducible refine CA.mono ?_); rintro e w7 ⟨rfl, hg⟩; have HG7 := Lib.hid (grew_trans HG.out (grew_trans HG2.out hg)); clear hg CA))
                    go_ret
                    exact ⟨ret_i HR12.out.symm, HG7.out⟩
                  · rw [hmm, intV_in hmm] at CA
                    have d1 : (s != 0) = true := by simpa using hs
                    clear HQ1 HNE1 HIV hs hmm
                    go_wp2_with (go_at_call 25; ((with_reducible refine CA.mono ?_); rintro e w7 ⟨rfl, hg⟩; have HG7 := Lib.hid (grew_trans HG.out (grew_trans HG2.out hg)); clear hg CA))
                    go_ret
                    exact ⟨ret_i HR12.out.symm, HG7.out⟩
          · obtain rfl : q = 3 := by omega
            have HR0 := Lib.hid (HEV.out HQ.out)
            go_wp2
            go_ret
            exact ⟨ret_i HR0.out.symm, HG.out⟩
      · rw [Bool.not_eq_true] at hm
        rw [hm] at CR
        have HR2 : Hid (R = 3) := by show _ = _; rw [HR1.out, hm]; rfl
        clear HR1 hm
        go_enter Try.func11, Try.ntmps11
        go_wp2_with (go_at_call 24; ((with_reducible refine (CR _ HI.out).mono ?_); rintro e w1 ⟨rfl, hg⟩; have HG1 := Lib.hid hg; clear hg))
        go_ret
        exact ⟨ret_i HR2.out.symm, HG1.out⟩
end Go.Proofs.Ytmbhkeppikaeaaa.NumK
