/- The law GreedyAll. -/
import Derived.Test.YtkkemmfghjgmeaaWakes03
import Derived.Test.YtkkemmfghjgmeaaMay03
namespace Go.Proofs.Ytkkemmfghjgmeaa.NumK
open Go.RowKit

set_option maxRecDepth 100000 in
set_option maxHeartbeats 2000000 in
theorem greedyAll_walk (T : Int) (A : Option Addr) (n c : Nat) (zs : List Int) (w : World) (hz : Ints w A n zs) (hn : n ≤ 9223372036854775807) :
    Calls Try.prog 6 #[.int .i64 T, .slice A n c] w fun e w' => e = .returned (.bool true) ∧ Grew w w' := by
  have C1 := may03_any T A n c zs w hz hn
  have HZ := Lib.hid hz
  clear hz
  by_cases hm : mayB T zs = true
  · have hmm := mayB_chk hm
    rw [hm] at C1
    obtain ⟨m1, m2, m3, m4, m5⟩ := hmm
    have hl := HZ.out.1
    have hn2 : n ≤ 200 := by omega
    have hcap : ∀ k, k < n → 0 ≤ capAt zs k ∧ capAt zs k ≤ 4611686018427387904 := fun k hk => m3 _ (by unfold capAt; rw [List.getD_eq_getElem?_getD, List.getElem?_eq_getElem (by omega)]; exact List.getElem_mem _)
    have HC := Lib.hid hcap
    have HB := Lib.hid (gr_bd (c := capAt zs) (n := n) m4 (fun k hk => (hcap k hk).1))
    have CG := fun w' (g : Grew w w') => greedy_any T A n c zs w' (HZ.out.keep g) hn
    have CG2 : Hid (∀ w', Grew w w' → Calls Try.prog 15 #[.int .i64 T, .slice A n c] w' fun e w2 => ∃ B, w'.heap.size ≤ B ∧ e = .returned (.tuple #[.slice (some ⟨B, 0, none⟩) n n, .int .i64 (gr T (capAt zs) n), .int .i64 0]) ∧ RowI w2 B n (gp T (capAt zs)) ∧ Grew w' w2) := fun w' g =>
      (CG w' g).mono fun e w2 ⟨hg, h⟩ => by
        rcases h with h | ⟨_, B, hB, he, hR⟩
        · exact absurd m1 h.1
        · exact ⟨B, hB, he, hR, hg⟩
    have hr0 := HB.out n (Nat.le_refl _)
    obtain ⟨r1, r2⟩ := hr0
    generalize hrest : gr T (capAt zs) n = rest at *
    have HRE := Lib.hid hrest
    have M1 := Lib.hid m1
    clear m1 m3 hl hcap CG hm hrest
    go_enter Try.func6, Try.ntmps6
    go_wp2_with (first
      | (go_at_call 18; ((with_reducible refine C1.mono ?_); rintro e w1 ⟨rfl, hg1⟩; have HG1 := Lib.hid hg1; clear hg1))
      | (go_at_call 15; ((with_reducible refine (CG2.out _ HG1.out).mono ?_); rintro e w2 ⟨B, hB, rfl, hR, hg2⟩; have HR := Lib.hid hR; have HG2 : Hid (Grew w w2) := grew_trans HG1.out hg2; clear hR hg2 hB)))
    clear C1 CG2
    go_loopw [8, 9, 10] (fun v8 v9 vi wr => ∃ (k : Nat) (bl : Bool), vi = .int .i64 k ∧ k ≤ n ∧ v8 = .int .i64 (gr T (capAt zs) k) ∧ v9 = .bool bl ∧ Hid (bl = true → gr T (capAt zs) k = 0) ∧ Hid (RowI wr B n (gp T (capAt zs))) ∧ Hid (Grew w wr)) (fun _ _ vi _ => n - (intOf vi).toNat)
    case atStart => exact ⟨0, false, rfl, Nat.zero_le _, rfl, rfl, (fun h => by cases h), HR, HG2⟩
    case round =>
      clear HR HG2
      obtain ⟨k, bl, rfl, hk, rfl, rfl, HBL, HR, HG⟩ := hrel
      by_cases hlt : k < n
      · obtain ⟨b, o, rfl, hb, hc⟩ := (HZ.out.keep HG.out).2 (by omega)
        have a1 : wr.cell? ⟨b, o + k, none⟩ = some (.int .i64 (capAt zs k)) := hc k hlt
        have a2 := (HR.out.2 k hlt).1
        have a3 : (k : Int) < (n : Int) := by omega
        obtain ⟨y1, y2⟩ := HC.out k hlt
        obtain ⟨g1, g2⟩ := HB.out k hk
        have hgp : gp T (capAt zs) k = min (capAt zs k) (gr T (capAt zs) k) := rfl
        have HGR : Hid (gr T (capAt zs) (k + 1) = gr T (capAt zs) k - min (capAt zs k) (gr T (capAt zs) k)) := rfl
        rw [hgp] at a2
        clear hgp hc
        obtain ⟨x, hx⟩ : ∃ x, x = min (capAt zs k) (gr T (capAt zs) k) := ⟨_, rfl⟩
        rw [← hx] at a2 HGR
        have x1 : 0 ≤ x := by omega
        have x2 : x ≤ capAt zs k := by omega
        have x3 : x ≤ gr T (capAt zs) k := by omega
        have HX0 : Hid (bl = true → x = 0) := fun h => by have := HBL.out h; omega
        have HX1 : Hid (x < capAt zs k → gr T (capAt zs) (k + 1) = 0) := fun h => by rw [HGR.out]; omega
        have HX2 : Hid (bl = true → gr T (capAt zs) (k + 1) = 0) := fun h => by rw [HGR.out, HBL.out h]; have := HBL.out h; omega
        clear hx
        generalize capAt zs k = y at *
        generalize gr T (capAt zs) k = g at *
        have d1 : decide (x < 0) = false := decide_eq_false (by omega)
        have d2 : decide (y < x) = false := decide_eq_false (by omega)
        cases bl with
        | true =>
          have hx0 := HX0.out rfl
          subst hx0
          have HX4 := Lib.hid (HX2.out rfl)
          go_wp2_with fail
          go_quiet (fail)
          have HG3 : Hid (Grew w (wr.drewN nq)) := grew_drewN HG.out _
          have HR3 : Hid (RowI (wr.drewN nq) B n (gp T (capAt zs))) := HR.out.keep (grew_drewN (grew_refl _) _)
          have b1 : (wr.drewN nq).cell? ⟨b, o + k, none⟩ = some (.int .i64 y) := a1
          have b2 : (wr.drewN nq).cell? ⟨B, k, none⟩ = some (.int .i64 0) := a2
          clear a1 a2 HG HR
          generalize wr.drewN nq = w3 at HG3 HR3 b1 b2 ⊢
          go_wp2_with fail
          go_quiet (fail)
          have HG4 : Hid (Grew w (w3.drewN nq)) := grew_drewN HG3.out _
          have HR4 : Hid (RowI (w3.drewN nq) B n (gp T (capAt zs))) := HR3.out.keep (grew_drewN (grew_refl _) _)
          have b3 : (w3.drewN nq).cell? ⟨B, k, none⟩ = some (.int .i64 0) := b2
          clear b1 b2 HG3 HR3
          generalize w3.drewN nq = w4 at HG4 HR4 b3 ⊢
          go_wp2
          go_roundw
          case rel => exact ⟨k + 1, true, by go_num, by omega, by rw [HGR.out]; congr 1; omega, rfl, fun _ => HX4.out, HR4, HG4⟩
          case measure => simp only [intOf]; omega
        | false =>
          by_cases hxy : x < y
          all_goals
            first
              | (have d3 : decide (x < y) = true := decide_eq_true hxy; have HX4 : Hid (true = true → gr T (capAt zs) (k + 1) = 0) := fun _ => HX1.out hxy)
              | (have d3 : decide (x < y) = false := decide_eq_false hxy; have HX4 : Hid (false = true → gr T (capAt zs) (k + 1) = 0) := fun h => by cases h)
            go_wp2_with fail
            go_quiet (fail)
            have HG3 : Hid (Grew w (wr.drewN nq)) := grew_drewN HG.out _
            have HR3 : Hid (RowI (wr.drewN nq) B n (gp T (capAt zs))) := HR.out.keep (grew_drewN (grew_refl _) _)
            have b1 : (wr.drewN nq).cell? ⟨b, o + k, none⟩ = some (.int .i64 y) := a1
            have b2 : (wr.drewN nq).cell? ⟨B, k, none⟩ = some (.int .i64 x) := a2
            clear a1 a2 HG HR
            generalize wr.drewN nq = w3 at HG3 HR3 b1 b2 ⊢
            go_wp2_with fail
            go_quiet (fail)
            have HG4 : Hid (Grew w (w3.drewN nq)) := grew_drewN HG3.out _
            have HR4 : Hid (RowI (w3.drewN nq) B n (gp T (capAt zs))) := HR3.out.keep (grew_drewN (grew_refl _) _)
            have b3 : (w3.drewN nq).cell? ⟨B, k, none⟩ = some (.int .i64 x) := b2
            clear b1 b2 HG3 HR3
            generalize w3.drewN nq = w4 at HG4 HR4 b3 ⊢
            go_wp2
            go_roundw
            case rel => exact ⟨k + 1, _, by go_num, by omega, by rw [HGR.out], rfl, (by first | exact HX4 | exact (fun _ => HX4.out trivial) | exact (fun h => by cases h)), HR4, HG4⟩
            case measure => simp only [intOf]; omega
      · obtain rfl : k = n := by omega
        rw [HRE.out]
        have CW := fun w => wakes03_any w
        cases bl with
        | true =>
          have h0 : rest = 0 := by rw [← HRE.out]; exact HBL.out rfl
          subst h0
          go_wp2_with (go_at_call 17; ((with_reducible refine (CW _).mono ?_); rintro e w5 ⟨rfl, hg5⟩; have HG5 := Lib.hid hg5; clear hg5))
          go_ret
          exact ⟨rfl, grew_trans HG.out HG5.out⟩
        | false =>
          go_wp2_with (go_at_call 17; ((with_reducible refine (CW _).mono ?_); rintro e w5 ⟨rfl, hg5⟩; have HG5 := Lib.hid hg5; clear hg5))
          go_ret
          exact ⟨rfl, grew_trans HG.out HG5.out⟩
  · simp only [Bool.not_eq_true] at hm
    rw [hm] at C1
    clear hm
    go_enter Try.func6, Try.ntmps6
    go_wp2_with (go_at_call 18; ((with_reducible refine C1.mono ?_); rintro e w1 ⟨rfl, hg1⟩; have HG1 := Lib.hid hg1; clear hg1))
    go_ret
    exact ⟨rfl, HG1.out⟩
end Go.Proofs.Ytkkemmfghjgmeaa.NumK
