/- The law GreedyGrows. -/
import Derived.Test.YtkkemmfghjgmeaaWakes03
import Derived.Test.YtkkemmfghjgmeaaMay03
import Derived.Test.YtkkemmfghjgmeaaTwinInts
namespace Go.Proofs.Ytkkemmfghjgmeaa.NumK
open Go.RowKit

theorem gr_up {T M : Int} {c : Nat → Int} (h : T ≤ M) : ∀ k, gr T c k ≤ gr M c k := by
  intro k
  induction k with
  | zero => exact h
  | succ k ih => simp only [gr]; omega
theorem gp_up {T M : Int} {c : Nat → Int} (h : T ≤ M) (k : Nat) : gp T c k ≤ gp M c k := by
  have := gr_up (c := c) h k
  unfold gp; omega
theorem gr_down {T : Int} {c c' : Nat → Int} {n : Nat} (h : ∀ k, k < n → c k ≤ c' k) : ∀ k, k ≤ n → gr T c' k ≤ gr T c k := by
  intro k
  induction k with
  | zero => intro _; exact Int.le_refl _
  | succ k ih => intro hk; have h1 := ih (by omega); have h2 := h k (by omega); simp only [gr]; omega
theorem gr_congr {T : Int} {c c' : Nat → Int} {n : Nat} (h : ∀ k, k < n → c k = c' k) : ∀ k, k ≤ n → gr T c k = gr T c' k := by
  intro k
  induction k with
  | zero => intro _; rfl
  | succ k ih => intro hk; simp only [gr]; rw [ih (by omega), h k (by omega)]

def GreedyGot (T : Int) (l : List Int) (n : Nat) (w : World) (e : Ending) (w2 : World) : Prop :=
  ∃ B, w.heap.size ≤ B ∧ e = .returned (.tuple #[.slice (some ⟨B, 0, none⟩) n n, .int .i64 (gr T (capAt l) n), .int .i64 0]) ∧ RowI w2 B n (gp T (capAt l)) ∧ Grew w w2
theorem greedy_got (T : Int) (A : Option Addr) (n c : Nat) (zs : List Int) (w : World) (hz : Ints w A n zs) (hn : n ≤ 9223372036854775807) (hm : chkE T zs = 0) :
    Calls Try.prog 15 #[.int .i64 T, .slice A n c] w (GreedyGot T zs n w) :=
  (greedy_any T A n c zs w hz hn).mono fun e w2 ⟨hg, h⟩ => by
    rcases h with h | ⟨_, B, hB, he, hR⟩
    · exact absurd hm h.1
    · exact ⟨B, hB, he, hR, hg⟩

theorem mayB_of {T : Int} {l : List Int} (h1 : 0 ≤ T) (h2 : T ≤ 4611686018427387904) (h3 : l.length ≤ 200) (h4 : ∀ x ∈ l, 0 ≤ x ∧ x ≤ 4611686018427387904) : mayB T l = true := by
  unfold mayB
  rw [(inB_iff T).2 ⟨h1, h2⟩, decide_eq_true h3, List.all_eq_true.2 (fun x hx => (inB_iff x).2 (h4 x hx))]; rfl

set_option maxRecDepth 100000 in
set_option maxHeartbeats 4000000 in
theorem greedyGrows_main (T M : Int) (A : Option Addr) (n c : Nat) (zs : List Int) (at' cap : Int) (w : World) (hz : Ints w A n zs) (hA : A = none → c = 0) (hn : n ≤ 9223372036854775807)
    (hm1 : mayB T zs = true) (hm2 : mayB M zs = true) (hTM : T ≤ M) (hc0 : 0 ≤ cap) (hc1 : cap ≤ 4611686018427387904) :
    Calls Try.prog 7 #[.int .i64 T, .int .i64 M, .slice A n c, .int .i64 at', .int .i64 cap] w fun e w' => e = .returned (.bool true) ∧ Grew w w' := by
  have C1 := may03_any T A n c zs w hz hn
  have C2 := fun w' (g : Grew w w') => may03_any M A n c zs w' (hz.keep g) hn
  obtain ⟨m1, m2, m3, m4, m5⟩ := mayB_chk hm1
  obtain ⟨m1', _, _, m4', m5'⟩ := mayB_chk hm2
  rw [hm1] at C1
  rw [hm2] at C2
  have hl := hz.1
  have hn2 : n ≤ 200 := by omega
  have HZ := Lib.hid hz
  have HA := Lib.hid hA
  have G1 := Lib.hid (fun w' (g : Grew w w') => greedy_got T A n c zs w' (hz.keep g) hn m1)
  have G2 := Lib.hid (fun w' (g : Grew w w') => greedy_got M A n c zs w' (hz.keep g) hn m1')
  have CT := Lib.hid (fun w' (g : Grew w w') (h0 : 0 < n) => twinInts_got A n c zs w' (hz.keep g) hA (by omega) h0)
  have C2H := Lib.hid C2
  have M3 := Lib.hid m3
  have HL := Lib.hid hl
  have CW := fun w => wakes03_any w
  have x1 : gr T (capAt zs) n ≤ gr M (capAt zs) n := gr_up hTM n
  have d1 : ¬ gr M (capAt zs) n < gr T (capAt zs) n := by omega
  clear m1 m1' m3 hl hm1 hm2 hz hA C2 x1
  generalize hg1 : gr T (capAt zs) n = g1 at d1
  have HG1E := Lib.hid hg1
  generalize hg2 : gr M (capAt zs) n = g2 at d1
  have HG2E := Lib.hid hg2
  clear hg1 hg2
  have d2 : ¬ M < T := by omega
  have d3 : ¬ cap < 0 := by omega
  have d4 : ¬ 4611686018427387904 < cap := by omega
  go_enter Try.func7, Try.ntmps7
  go_wp2_with (first
    | (go_at_call 18; ((with_reducible refine C1.mono ?_); rintro e w1 ⟨rfl, hg1⟩; have HG1 := Lib.hid hg1; clear hg1))
    | (go_at_call 18; ((with_reducible refine (C2H.out _ HG1.out).mono ?_); rintro e w2 ⟨rfl, hg2⟩; have HG2 : Hid (Grew w w2) := grew_trans HG1.out hg2; clear hg2))
    | (go_at_call 15; ((with_reducible refine (G1.out _ HG2.out).mono ?_); rintro e w3 ⟨B1, hB1, rfl, hR1, hg3⟩; rw [HG1E.out]; have HR1 := Lib.hid hR1; have HG3 : Hid (Grew w w3) := grew_trans HG2.out hg3; clear hR1 hg3 hB1))
    | (go_at_call 15; ((with_reducible refine (G2.out _ HG3.out).mono ?_); rintro e w4 ⟨B2, hB2, rfl, hR2, hg4⟩; rw [HG2E.out]; have HR1' := Lib.hid (HR1.out.keep hg4); have HR2 := Lib.hid hR2; have HG4 : Hid (Grew w w4) := grew_trans HG3.out hg4; clear hR2 hg4 hB2)))
  clear C1
  go_loopw [17] (fun vi wr => ∃ k : Nat, vi = .int .i64 k ∧ k ≤ n ∧ Hid (RowI wr B1 n (gp T (capAt zs))) ∧ Hid (RowI wr B2 n (gp M (capAt zs))) ∧ Hid (Grew w wr)) (fun vi _ => n - (intOf vi).toNat)
  case atStart => exact ⟨0, rfl, Nat.zero_le _, HR1', HR2, HG4⟩
  case round =>
    clear HR1' HR2 HG4
    obtain ⟨k, rfl, hk, HR1, HR2, HG⟩ := hrel
    by_cases hlt : k < n
    · have a1 := (HR1.out.2 k hlt).1
      have a2 := (HR2.out.2 k hlt).1
      have a3 : (k : Int) < (n : Int) := by omega
      have a4 : gp T (capAt zs) k ≤ gp M (capAt zs) k := gp_up hTM k
      obtain ⟨x, hx⟩ : ∃ x, x = gp T (capAt zs) k := ⟨_, rfl⟩
      obtain ⟨y, hy⟩ : ∃ y, y = gp M (capAt zs) k := ⟨_, rfl⟩
      rw [← hx] at a1 a4
      rw [← hy] at a2 a4
      have a5 : decide (y < x) = false := decide_eq_false (by omega)
      clear hx hy
      go_wp2_with fail
      go_quiet (fail)
      have HG3 : Hid (Grew w (wr.drewN nq)) := grew_drewN HG.out _
      have HR3 : Hid (RowI (wr.drewN nq) B1 n (gp T (capAt zs))) := HR1.out.keep (grew_drewN (grew_refl _) _)
      have HR4 : Hid (RowI (wr.drewN nq) B2 n (gp M (capAt zs))) := HR2.out.keep (grew_drewN (grew_refl _) _)
      clear a1 a2 HG HR1 HR2
      generalize wr.drewN nq = w5 at HG3 HR3 HR4 ⊢
      go_wp2
      go_roundw
      case rel => exact ⟨k + 1, by go_num, by omega, HR3, HR4, HG3⟩
      case measure => simp only [intOf]; omega
    · obtain rfl : k = n := by omega
      by_cases h0 : k = 0
      · subst h0
        go_wp2_with (go_at_call 17; ((with_reducible refine (CW _).mono ?_); rintro e w5 ⟨rfl, hg5⟩; have HG5 := Lib.hid hg5; clear hg5))
        go_ret
        exact ⟨rfl, grew_trans HG.out HG5.out⟩
      · have b1 : ((k : Int) == 0) = false := by simp; omega
        obtain ⟨U, hU⟩ : ∃ U, U = IntKind.u64.wrap at' := ⟨_, rfl⟩
        have hU0 : 0 ≤ U ∧ U < 18446744073709551616 := by rw [hU, IntKind.wrap_u64]; omega
        have hW : IntKind.u64.wrap at' = U := hU.symm
        obtain ⟨q, hq⟩ : ∃ q : Nat, U % (k : Int) = (q : Int) := ⟨(U % (k : Int)).toNat, by have := Int.emod_nonneg U (show (k : Int) ≠ 0 by omega); omega⟩
        have hqk : q < k := by have := Int.emod_lt_of_pos U (show (0 : Int) < (k : Int) by omega); omega
        have hq2 : U.tmod (k : Int) = (q : Int) := by rw [Int.tmod_eq_emod_of_nonneg hU0.1]; exact hq
        obtain ⟨u0, u1⟩ := hU0
        have u2 : IntKind.u64.wrap (k : Int) = (k : Int) := by rw [IntKind.wrap_u64]; omega
        clear hU
        have hcap : ∀ k', k' < k → 0 ≤ capAt zs k' ∧ capAt zs k' ≤ 4611686018427387904 := fun k' hk' => M3.out _ (by unfold capAt; rw [List.getD_eq_getElem?_getD, List.getElem?_eq_getElem (by have := HL.out; omega)]; exact List.getElem_mem _)
        obtain ⟨y, hy⟩ : ∃ y, y = capAt zs q := ⟨_, rfl⟩
        have hyb := hcap q hqk
        rw [← hy] at hyb
        obtain ⟨v, hv⟩ : ∃ v, v = if cap < y then y else cap := ⟨_, rfl⟩
        have hv2 : (if y < cap then cap else y) = v := by rw [hv]; split <;> split <;> omega
        have hvb : y ≤ v ∧ 0 ≤ v ∧ v ≤ 4611686018427387904 := by rw [hv]; split <;> omega
        have HQF : Hid (∀ g w6, RowI w6 g k (fun j => zs.getD j 0) → ∃ ms : List Int, mayB T ms = true ∧ gr T (capAt ms) k ≤ g1 ∧ Ints (w6.setCell ⟨g, q, none⟩ (.int .i64 v)) (some ⟨g, 0, none⟩) k ms) := by
          intro g w6 h6
          refine ⟨(List.range k).map (fun j => if j = q then v else zs.getD j 0), ?_, ?_, ?_⟩
          · refine mayB_of m4 m5 (by simp; omega) (fun x hx => ?_)
            obtain ⟨j, hj, rfl⟩ := List.mem_map.1 hx
            split
            · omega
            · exact hcap j (by simpa using hj)
          · rw [← HG1E.out]
            have e1 : ∀ j, j < k → capAt ((List.range k).map (fun j => if j = q then v else zs.getD j 0)) j = if j = q then v else zs.getD j 0 := fun j hj => by unfold capAt; simp [List.getD, hj]
            refine gr_down (n := k) (fun j hj => ?_) k (Nat.le_refl _)
            rw [e1 j hj]
            split
            · next h => rw [h, ← hy]; exact hvb.1
            · exact Int.le_refl _
          · exact (h6.set q v).ints
        have HY := Lib.hid hy
        have u3 : (q : Int) < (k : Int) := by omega
        clear hy hv hcap
        go_wp2_with (go_at_call 10; ((with_reducible refine (CT.out _ HG.out (by omega)).mono ?_); rintro e w5 ⟨hg5, g, c2, rfl, hg6, hF2⟩; have HG5 : Hid (Grew w w5) := grew_trans HG.out hg5; have HF2 := Lib.hid hF2; have HG6 : Hid (w.heap.size ≤ g) := Nat.le_trans HG.out.size hg6; have s1 := (HF2.out.2 q hqk).1; have s2 := (HF2.out.2 q hqk).2; change w5.cell? ⟨g, q, none⟩ = some (.int .i64 (capAt zs q)) at s1; rw [← HY.out] at s1; clear hF2 hg5 hg6))
        obtain ⟨ms, p1, p2, p3⟩ := HQF.out g w5 HF2.out
        have HG7 : Hid (Grew w (w5.setCell ⟨g, q, none⟩ (.int .i64 v))) := grew_set HG5.out _ HG6.out
        have CL := Lib.hid (greedy_got T (some ⟨g, 0, none⟩) k c2 ms _ p3 (by omega) (mayB_chk p1).1)
        have d5 : ¬ g1 < gr T (capAt ms) k := by omega
        have d6 : decide (gr T (capAt ms) k ≤ g1) = true := decide_eq_true p2
        have P2 := Lib.hid p2
        clear s1 s2 HF2 HG6 HG5 HQF p1 p2 p3
        generalize w5.setCell ⟨g, q, none⟩ (.int .i64 v) = w6 at CL HG7 ⊢
        have CL2 := CL.out
        unfold GreedyGot at CL2
        generalize gr T (capAt ms) k = z at *
        have CL3 := Lib.hid CL2
        clear CL CL2
        refine Calls.mono CL3.out ?_
        rintro e w7 ⟨B3, hB3, rfl, hR3, hg7⟩
        have HG8 : Hid (Grew w w7) := grew_trans HG7.out hg7
        clear hB3 hR3 hg7
        go_wp2_with (go_at_call 17; ((with_reducible refine (CW _).mono ?_); rintro e w8 ⟨rfl, hg8⟩; have HG9 := Lib.hid hg8; clear hg8))
        go_ret
        exact ⟨rfl, grew_trans HG8.out HG9.out⟩

set_option maxRecDepth 100000 in
set_option maxHeartbeats 4000000 in
theorem greedyGrows_walk (T M : Int) (A : Option Addr) (n c : Nat) (zs : List Int) (at' cap : Int) (w : World) (hz : Ints w A n zs) (hA : A = none → c = 0) (hn : n ≤ 9223372036854775807) :
    Calls Try.prog 7 #[.int .i64 T, .int .i64 M, .slice A n c, .int .i64 at', .int .i64 cap] w fun e w' => e = .returned (.bool true) ∧ Grew w w' := by
  have C1 := may03_any T A n c zs w hz hn
  have C2 := fun w' (g : Grew w w') => may03_any M A n c zs w' (hz.keep g) hn
  have C2H := Lib.hid C2
  clear C2
  by_cases hm1 : mayB T zs = true
  · by_cases hm2 : mayB M zs = true
    · by_cases h1 : T ≤ M
      · by_cases h2 : 0 ≤ cap
        · by_cases h3 : cap ≤ 4611686018427387904
          · exact greedyGrows_main T M A n c zs at' cap w hz hA hn hm1 hm2 h1 h2 h3
          · clear hz
            have d1 : 4611686018427387904 < cap := by omega
            have d2 : ¬ cap < 0 := by omega
            have d3 : ¬ M < T := by omega
            rw [hm1] at C1
            rw [hm2] at C2H
            clear hm1 hm2 h1 h2 h3
            go_enter Try.func7, Try.ntmps7
            go_wp2_with (first
              | (go_at_call 18; ((with_reducible refine C1.mono ?_); rintro e w1 ⟨rfl, hg1⟩; have HG1 := Lib.hid hg1; clear hg1))
              | (go_at_call 18; ((with_reducible refine (C2H.out _ HG1.out).mono ?_); rintro e w2 ⟨rfl, hg2⟩; have HG2 : Hid (Grew w w2) := grew_trans HG1.out hg2; clear hg2)))
            go_ret
            exact ⟨rfl, HG2.out⟩
        · clear hz
          have d2 : cap < 0 := by omega
          have d3 : ¬ M < T := by omega
          rw [hm1] at C1
          rw [hm2] at C2H
          clear hm1 hm2 h1 h2
          go_enter Try.func7, Try.ntmps7
          go_wp2_with (first
            | (go_at_call 18; ((with_reducible refine C1.mono ?_); rintro e w1 ⟨rfl, hg1⟩; have HG1 := Lib.hid hg1; clear hg1))
            | (go_at_call 18; ((with_reducible refine (C2H.out _ HG1.out).mono ?_); rintro e w2 ⟨rfl, hg2⟩; have HG2 : Hid (Grew w w2) := grew_trans HG1.out hg2; clear hg2)))
          go_ret
          exact ⟨rfl, HG2.out⟩
      · clear hz
        have d3 : M < T := by omega
        rw [hm1] at C1
        rw [hm2] at C2H
        clear hm1 hm2 h1
        go_enter Try.func7, Try.ntmps7
        go_wp2_with (first
          | (go_at_call 18; ((with_reducible refine C1.mono ?_); rintro e w1 ⟨rfl, hg1⟩; have HG1 := Lib.hid hg1; clear hg1))
          | (go_at_call 18; ((with_reducible refine (C2H.out _ HG1.out).mono ?_); rintro e w2 ⟨rfl, hg2⟩; have HG2 : Hid (Grew w w2) := grew_trans HG1.out hg2; clear hg2)))
        go_ret
        exact ⟨rfl, HG2.out⟩
    · clear hz
      simp only [Bool.not_eq_true] at hm2
      rw [hm1] at C1
      rw [hm2] at C2H
      clear hm1 hm2
      go_enter Try.func7, Try.ntmps7
      go_wp2_with (first
        | (go_at_call 18; ((with_reducible refine C1.mono ?_); rintro e w1 ⟨rfl, hg1⟩; have HG1 := Lib.hid hg1; clear hg1))
        | (go_at_call 18; ((with_reducible refine (C2H.out _ HG1.out).mono ?_); rintro e w2 ⟨rfl, hg2⟩; have HG2 : Hid (Grew w w2) := grew_trans HG1.out hg2; clear hg2)))
      go_ret
      exact ⟨rfl, HG2.out⟩
  · clear hz
    simp only [Bool.not_eq_true] at hm1
    rw [hm1] at C1
    clear hm1
    go_enter Try.func7, Try.ntmps7
    go_wp2_with (go_at_call 18; ((with_reducible refine C1.mono ?_); rintro e w1 ⟨rfl, hg1⟩; have HG1 := Lib.hid hg1; clear hg1))
    go_ret
    exact ⟨rfl, HG1.out⟩
end Go.Proofs.Ytkkemmfghjgmeaa.NumK
