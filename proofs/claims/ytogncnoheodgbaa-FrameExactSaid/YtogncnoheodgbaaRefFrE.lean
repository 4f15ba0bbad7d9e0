/- The reference of frame: First, of any bytes. -/
import Derived.Test.YtogncnoheodgbaaRefFrD
namespace Go.Proofs.Ytogncnoheodgbaa.NumK
open Go.RowKit

set_option maxRecDepth 100000 in
set_option maxHeartbeats 2000000 in
theorem refFirst_any (A : Option Addr) (n c : Nat) (l : List UInt8) (w : World) (h : Bys w A n l) (hA : A = none → c = 0) (hc : n ≤ c) (hn : c ≤ 9223372036854775807) :
    Calls Try.prog 19 #[.slice A n c] w (RefFirstPost l w) := by
  have hl := h.1
  by_cases h21 : n < 21
  · have d1 : (n : Int) < 21 := by omega
    have HP : Hid (RefFirstPost l w (.returned (.tuple #[.int .i64 0, .int .i64 0, .slice none 0 0, .int .i64 0, .bool false])) w) := ⟨grew_refl _, Or.inl ⟨frs_short (by omega), rfl⟩⟩
    clear h hA hc hn hl h21
    go_enter Try.func19, Try.ntmps19
    go_wp2
    (try simp only [Exit.inBlock, Exit.then]); refine bodyPost_ret (results_tmp5 rfl _ _ _) rfl ?_
    exact HP.out
  · obtain ⟨b, o, rfl, _, hcell⟩ := h.2 (by omega)
    have a0 := hcell 0 (by omega)
    rw [Nat.add_zero] at a0
    have d1 : ¬ (n : Int) < 21 := by omega
    by_cases h0 : l.getD 0 0 = 195
    · have hu : (l.getD 0 0).toNat = 195 := by rw [h0]; rfl
      rw [hu] at a0
      have CN1 : Hid (∀ w', Grew w w' → Calls Try.prog 26 #[.slice (some ⟨b, o + 1, none⟩) 8 (c - 1)] w' fun e w'' => e = .returned (.int .u64 (num ((l.drop 1).take 8) : Int)) ∧ w' = w'') := fun w' g => refNumber_any (some ⟨b, o + 1, none⟩) 8 (c - 1) ((l.drop 1).take 8) w' (((h.keep g).drop (k := 1) (by omega)).take (k := 8) (by omega)) (by omega)
      have CN2 : Hid (∀ w', Grew w w' → Calls Try.prog 26 #[.slice (some ⟨b, o + 9, none⟩) 4 (c - 9)] w' fun e w'' => e = .returned (.int .u64 (num ((l.drop 9).take 4) : Int)) ∧ w' = w'') := fun w' g => refNumber_any (some ⟨b, o + 9, none⟩) 4 (c - 9) ((l.drop 9).take 4) w' (((h.keep g).drop (k := 9) (by omega)).take (k := 4) (by omega)) (by omega)
      have CN3 : Hid (∀ w', Grew w w' → Calls Try.prog 26 #[.slice (some ⟨b, o + 13, none⟩) 4 (c - 13)] w' fun e w'' => e = .returned (.int .u64 (num ((l.drop 13).take 4) : Int)) ∧ w' = w'') := fun w' g => refNumber_any (some ⟨b, o + 13, none⟩) 4 (c - 13) ((l.drop 13).take 4) w' (((h.keep g).drop (k := 13) (by omega)).take (k := 4) (by omega)) (by omega)
      obtain ⟨G, hG⟩ : ∃ G : Int, G = ((num ((l.drop 1).take 8) : Nat) : Int) := ⟨_, rfl⟩
      obtain ⟨M, hM⟩ : ∃ M : Int, M = ((num ((l.drop 9).take 4) : Nat) : Int) := ⟨_, rfl⟩
      obtain ⟨s, hs⟩ : ∃ s : Nat, s = num ((l.drop 13).take 4) := ⟨_, rfl⟩
      rw [← hG] at CN1
      rw [← hM] at CN2
      rw [← hs] at CN3
      have j0 : (n : Int) ≤ 9223372036854775807 := by omega
      have j1 : (17 : Int) ≤ (c : Int) := by omega
      have j2 : (9 : Int) ≤ (c : Int) := by omega
      have j3 : (13 : Int) ≤ (c : Int) := by omega
      by_cases k1 : 1099511627776 < G
      · have HP : Hid (∀ w', Grew w w' → RefFirstPost l w (.returned (.tuple #[.int .i64 0, .int .i64 0, .slice none 0 0, .int .i64 0, .bool false])) w') := fun w' g => ⟨g, Or.inl ⟨frs_nums (Or.inl (by omega)), rfl⟩⟩
        clear h hA hc hn hl h21 hcell h0 hu hG hM hs
        go_enter Try.func19, Try.ntmps19
        go_wp2
        go_quiet (first
          | (go_at_call 26; with_reducible exact quiet_same (CN1.out _ (grew_drewN (grew_refl _) _)))
          | (go_at_call 26; with_reducible exact quiet_same (CN2.out _ (grew_drewN (grew_refl _) _)))
          | (go_at_call 26; with_reducible exact quiet_same (CN3.out _ (grew_drewN (grew_refl _) _))))
        go_wp2
        (try simp only [Exit.inBlock, Exit.then]); refine bodyPost_ret (results_tmp5 rfl _ _ _) rfl ?_
        exact HP.out _ (grew_drewN (grew_refl _) _)
      · by_cases k2 : 2147483647 < M
        · have HP : Hid (∀ w', Grew w w' → RefFirstPost l w (.returned (.tuple #[.int .i64 0, .int .i64 0, .slice none 0 0, .int .i64 0, .bool false])) w') := fun w' g => ⟨g, Or.inl ⟨frs_nums (Or.inr (Or.inl (by omega))), rfl⟩⟩
          clear h hA hc hn hl h21 hcell h0 hu hG hM hs
          go_enter Try.func19, Try.ntmps19
          go_wp2
          go_quiet (first
            | (go_at_call 26; with_reducible exact quiet_same (CN1.out _ (grew_drewN (grew_refl _) _)))
            | (go_at_call 26; with_reducible exact quiet_same (CN2.out _ (grew_drewN (grew_refl _) _)))
            | (go_at_call 26; with_reducible exact quiet_same (CN3.out _ (grew_drewN (grew_refl _) _))))
          go_wp2
          (try simp only [Exit.inBlock, Exit.then]); refine bodyPost_ret (results_tmp5 rfl _ _ _) rfl ?_
          exact HP.out _ (grew_drewN (grew_refl _) _)
        · by_cases k3 : 65536 < s
          · have HP : Hid (∀ w', Grew w w' → RefFirstPost l w (.returned (.tuple #[.int .i64 0, .int .i64 0, .slice none 0 0, .int .i64 0, .bool false])) w') := fun w' g => ⟨g, Or.inl ⟨frs_nums (Or.inr (Or.inr (by omega))), rfl⟩⟩
            have k3' : (65536 : Int) < (s : Int) := by omega
            clear h hA hc hn hl h21 hcell h0 hu hG hM hs k3
            go_enter Try.func19, Try.ntmps19
            go_wp2
            go_quiet (first
              | (go_at_call 26; with_reducible exact quiet_same (CN1.out _ (grew_drewN (grew_refl _) _)))
              | (go_at_call 26; with_reducible exact quiet_same (CN2.out _ (grew_drewN (grew_refl _) _)))
              | (go_at_call 26; with_reducible exact quiet_same (CN3.out _ (grew_drewN (grew_refl _) _))))
            go_wp2
            (try simp only [Exit.inBlock, Exit.then]); refine bodyPost_ret (results_tmp5 rfl _ _ _) rfl ?_
            exact HP.out _ (grew_drewN (grew_refl _) _)
          · have k3' : ¬ (65536 : Int) < (s : Int) := by omega
            have w7 : IntKind.i64.wrap (s : Int) = (s : Int) := by rw [IntKind.wrap_i64]; omega
            by_cases k4 : n < 21 + s
            · have HP : Hid (∀ w', Grew w w' → RefFirstPost l w (.returned (.tuple #[.int .i64 0, .int .i64 0, .slice none 0 0, .int .i64 0, .bool false])) w') := fun w' g => ⟨g, Or.inl ⟨frs_sum hs (Or.inl (by omega)), rfl⟩⟩
              have k4' : (n : Int) - 21 < (s : Int) := by omega
              clear h hA hc hn hl h21 hcell h0 hu hG hM hs k3 k4
              go_enter Try.func19, Try.ntmps19
              go_wp2
              go_quiet (first
                | (go_at_call 26; with_reducible exact quiet_same (CN1.out _ (grew_drewN (grew_refl _) _)))
                | (go_at_call 26; with_reducible exact quiet_same (CN2.out _ (grew_drewN (grew_refl _) _)))
                | (go_at_call 26; with_reducible exact quiet_same (CN3.out _ (grew_drewN (grew_refl _) _))))
              go_wp2
              (try simp only [Exit.inBlock, Exit.then]); refine bodyPost_ret (results_tmp5 rfl _ _ _) rfl ?_
              exact HP.out _ (grew_drewN (grew_refl _) _)
            · exact refFirst_ok b o n c l w h hc hn h21 h0 (by omega) (by omega) (by omega) (by omega)
    · have hu : ((l.getD 0 0).toNat : Int) ≠ 195 := by
        intro e
        exact h0 (UInt8.toNat_inj.1 (by show (l.getD 0 0).toNat = 195; omega))
      have HP : Hid (RefFirstPost l w (.returned (.tuple #[.int .i64 0, .int .i64 0, .slice none 0 0, .int .i64 0, .bool false])) w) := ⟨grew_refl _, Or.inl ⟨frs_byte h0, rfl⟩⟩
      generalize (l.getD 0 0).toNat = u at *
      have d2 : ((u : Int) != 195) = true := by simpa using hu
      clear h hA hc hn hl h21 hcell h0 hu
      go_enter Try.func19, Try.ntmps19
      go_wp2
      (try simp only [Exit.inBlock, Exit.then]); refine bodyPost_ret (results_tmp5 rfl _ _ _) rfl ?_
      exact HP.out
end Go.Proofs.Ytogncnoheodgbaa.NumK
