/- The document's journal: Mark, Blocks, Head. -/
import Derived.Test.YthnhhhfjgbgpgaaRRefG
import Derived.Test.YthnhhhfjgbgpgaaRJnA
import Derived.Test.YthnhhhfjgbgpgaaRMath
namespace Go.Proofs.Ythnhhhfjgbgpgaa.NumK
open Go.RowKit

theorem rmark_any (g : Nat) (hg : g ≤ 9223372036854775807) (w : World) : Calls Try.prog 62 #[.int .i64 (g : Int)] w fun e w' => e = .returned (.int .u8 ((markG g).toNat : Int)) ∧ w = w' := by
  have H : Hid ((markG g).toNat = 1 + g % 255) := markG_nat g
  have h1 : (g : Int).tmod 255 = ((g % 255 : Nat) : Int) := by rw [Int.tmod_eq_emod_of_nonneg (by omega)]; omega
  have h2 : g % 255 < 255 := Nat.mod_lt _ (by omega)
  generalize (markG g).toNat = r at *
  generalize g % 255 = u at *
  have h5 : IntKind.i64.wrap (u : Int) = (u : Int) := by rw [IntKind.wrap_i64]; omega
  have h3 : IntKind.i64.wrap (1 + (u : Int)) = 1 + (u : Int) := by rw [IntKind.wrap_i64]; omega
  have h4 : IntKind.u8.wrap (1 + (u : Int)) = 1 + (u : Int) := by rw [IntKind.wrap_u8]; omega
  go_enter Try.func62, Try.ntmps62
  go_wp2
  go_ret
  exact ⟨ret_i (by rw [H.out]; omega), rfl⟩
theorem rblocks_any (n : Nat) (hn : n ≤ 9223372036854775700) (w : World) : Calls Try.prog 49 #[.int .i64 (n : Int)] w fun e w' => e = .returned (.int .i64 (nbk n : Int)) ∧ w = w' := by
  have H : Hid (nbk n = (n + 61) / 62) := rfl
  generalize nbk n = r at *
  have h1 : IntKind.i64.wrap ((n : Int) + 62) = (n : Int) + 62 := by rw [IntKind.wrap_i64]; omega
  have h3 : IntKind.i64.wrap ((n : Int) + 62 - 1) = (n : Int) + 62 - 1 := by rw [IntKind.wrap_i64]; omega
  have h4 : ((n : Int) + 62 - 1).tdiv 62 = (((n + 61) / 62 : Nat) : Int) := by rw [Int.tdiv_eq_ediv_of_nonneg (by omega)]; omega
  have h5 : IntKind.i64.wrap (((n + 61) / 62 : Nat) : Int) = (((n + 61) / 62 : Nat) : Int) := by rw [IntKind.wrap_i64]; omega
  generalize (n + 61) / 62 = u at *
  go_enter Try.func49, Try.ntmps49
  go_wp2
  go_ret
  exact ⟨ret_i (by rw [H.out]), rfl⟩
theorem results_tmp4 {fn : Func} {t u v x : Tmp} (h : fn.results = #[.tmp t, .tmp u, .tmp v, .tmp x]) (tmps : Array Value) (P : Program) (w : World) :
    (results fn tmps).run P w = .ok (.tuple #[tmps.getD t undef, tmps.getD u undef, tmps.getD v undef, tmps.getD x undef]) w := by
  simp [results, h]
def headV : Option (Nat × Nat × Nat) → Value
  | none => .tuple #[.int .i64 0, .int .i64 0, .int .i64 0, .bool false]
  | some (g, k, n) => .tuple #[.int .i64 (g : Int), .int .i64 (k : Int), .int .i64 (n : Int), .bool true]
set_option maxRecDepth 100000 in
set_option maxHeartbeats 2000000 in
theorem rhead_any (b o n c : Nat) (l : List UInt8) (w : World) (h : Bys w (some ⟨b, o, none⟩) n l) (hc : n ≤ c) (hn : c ≤ 9223372036854775807) (h21 : 21 ≤ n) :
    Calls Try.prog 67 #[.slice (some ⟨b, o, none⟩) n c] w fun e w' => e = .returned (headV (headOf l)) ∧ Grew w w' := by
  have hl := h.1
  have a0 := h.cell (j := 0) (by omega)
  rw [Nat.add_zero] at a0
  have d1 : ¬ (n : Int) < 21 := by omega
  have hhd : headOf l = if l.getD 0 0 ≠ 195 then none else if 1099511627776 < num ((l.drop 1).take 8) ∨ 2147483647 < num ((l.drop 9).take 4) ∨ 65536 < num ((l.drop 13).take 4) then none else some (num ((l.drop 1).take 8), num ((l.drop 9).take 4), num ((l.drop 13).take 4)) := by
    unfold headOf
    by_cases h0 : l.getD 0 0 = 195
    · rw [if_neg (by rw [not_or]; exact ⟨by omega, fun hh => hh h0⟩), if_neg (show ¬ l.getD 0 0 ≠ 195 from fun hh => hh h0)]
    · rw [if_pos (Or.inr h0), if_pos h0]
  by_cases h0 : l.getD 0 0 = 195
  · have hu : (l.getD 0 0).toNat = 195 := by rw [h0]; rfl
    rw [hu] at a0
    rw [if_neg (fun hh => hh h0)] at hhd
    have CN1 : Hid (∀ w', Grew w w' → Calls Try.prog 73 #[.slice (some ⟨b, o + 1, none⟩) 8 (c - 1)] w' fun e w'' => e = .returned (.int .u64 (num ((l.drop 1).take 8) : Int)) ∧ w' = w'') := fun w' g => refNumber_any (some ⟨b, o + 1, none⟩) 8 (c - 1) ((l.drop 1).take 8) w' (((h.keep g).drop (k := 1) (by omega)).take (k := 8) (by omega)) (by omega)
    have CN2 : Hid (∀ w', Grew w w' → Calls Try.prog 73 #[.slice (some ⟨b, o + 9, none⟩) 4 (c - 9)] w' fun e w'' => e = .returned (.int .u64 (num ((l.drop 9).take 4) : Int)) ∧ w' = w'') := fun w' g => refNumber_any (some ⟨b, o + 9, none⟩) 4 (c - 9) ((l.drop 9).take 4) w' (((h.keep g).drop (k := 9) (by omega)).take (k := 4) (by omega)) (by omega)
    have CN3 : Hid (∀ w', Grew w w' → Calls Try.prog 73 #[.slice (some ⟨b, o + 13, none⟩) 4 (c - 13)] w' fun e w'' => e = .returned (.int .u64 (num ((l.drop 13).take 4) : Int)) ∧ w' = w'') := fun w' g => refNumber_any (some ⟨b, o + 13, none⟩) 4 (c - 13) ((l.drop 13).take 4) w' (((h.keep g).drop (k := 13) (by omega)).take (k := 4) (by omega)) (by omega)
    generalize num ((l.drop 1).take 8) = G at *
    generalize num ((l.drop 9).take 4) = M at *
    generalize num ((l.drop 13).take 4) = s at *
    have j0 : (n : Int) ≤ 9223372036854775807 := by omega
    have j1 : (17 : Int) ≤ (c : Int) := by omega
    have j2 : (9 : Int) ≤ (c : Int) := by omega
    have j3 : (13 : Int) ≤ (c : Int) := by omega
    have HH := Lib.hid hhd
    clear h hc hn hl h21 h0 hu hhd
    by_cases k1 : 1099511627776 < G
    · have k1' : (1099511627776 : Int) < (G : Int) := by omega
      have HP : Hid (headV (headOf l) = headV none) := by show _ = _; rw [HH.out, if_pos (Or.inl k1)]
      go_enter Try.func67, Try.ntmps67
      go_wp2
      go_quiet (first
        | (go_at_call 73; with_reducible exact quiet_same (CN1.out _ (grew_drewN (grew_refl _) _)))
        | (go_at_call 73; with_reducible exact quiet_same (CN2.out _ (grew_drewN (grew_refl _) _)))
        | (go_at_call 73; with_reducible exact quiet_same (CN3.out _ (grew_drewN (grew_refl _) _))))
      go_wp2
      (try simp only [Exit.inBlock, Exit.then]); refine bodyPost_ret (results_tmp4 rfl _ _ _) rfl ?_
      exact ⟨by rw [HP.out]; rfl, grew_drewN (grew_refl _) _⟩
    · have k1' : ¬ (1099511627776 : Int) < (G : Int) := by omega
      by_cases k2 : 2147483647 < M
      · have k2' : (2147483647 : Int) < (M : Int) := by omega
        have HP : Hid (headV (headOf l) = headV none) := by show _ = _; rw [HH.out, if_pos (Or.inr (Or.inl k2))]
        go_enter Try.func67, Try.ntmps67
        go_wp2
        go_quiet (first
          | (go_at_call 73; with_reducible exact quiet_same (CN1.out _ (grew_drewN (grew_refl _) _)))
          | (go_at_call 73; with_reducible exact quiet_same (CN2.out _ (grew_drewN (grew_refl _) _)))
          | (go_at_call 73; with_reducible exact quiet_same (CN3.out _ (grew_drewN (grew_refl _) _))))
        go_wp2
        (try simp only [Exit.inBlock, Exit.then]); refine bodyPost_ret (results_tmp4 rfl _ _ _) rfl ?_
        exact ⟨by rw [HP.out]; rfl, grew_drewN (grew_refl _) _⟩
      · have k2' : ¬ (2147483647 : Int) < (M : Int) := by omega
        by_cases k3 : 65536 < s
        · have k3' : (65536 : Int) < (s : Int) := by omega
          have HP : Hid (headV (headOf l) = headV none) := by show _ = _; rw [HH.out, if_pos (Or.inr (Or.inr k3))]
          go_enter Try.func67, Try.ntmps67
          go_wp2
          go_quiet (first
            | (go_at_call 73; with_reducible exact quiet_same (CN1.out _ (grew_drewN (grew_refl _) _)))
            | (go_at_call 73; with_reducible exact quiet_same (CN2.out _ (grew_drewN (grew_refl _) _)))
            | (go_at_call 73; with_reducible exact quiet_same (CN3.out _ (grew_drewN (grew_refl _) _))))
          go_wp2
          (try simp only [Exit.inBlock, Exit.then]); refine bodyPost_ret (results_tmp4 rfl _ _ _) rfl ?_
          exact ⟨by rw [HP.out]; rfl, grew_drewN (grew_refl _) _⟩
        · have k3' : ¬ (65536 : Int) < (s : Int) := by omega
          have w7 : IntKind.i64.wrap (s : Int) = (s : Int) := by rw [IntKind.wrap_i64]; omega
          have w8 : IntKind.i64.wrap (G : Int) = (G : Int) := by rw [IntKind.wrap_i64]; omega
          have w9 : IntKind.i64.wrap (M : Int) = (M : Int) := by rw [IntKind.wrap_i64]; omega
          have HP : Hid (headV (headOf l) = headV (some (G, M, s))) := by show _ = _; rw [HH.out, if_neg (by rw [not_or, not_or]; exact ⟨k1, k2, k3⟩)]
          go_enter Try.func67, Try.ntmps67
          go_wp2
          go_quiet (first
            | (go_at_call 73; with_reducible exact quiet_same (CN1.out _ (grew_drewN (grew_refl _) _)))
            | (go_at_call 73; with_reducible exact quiet_same (CN2.out _ (grew_drewN (grew_refl _) _)))
            | (go_at_call 73; with_reducible exact quiet_same (CN3.out _ (grew_drewN (grew_refl _) _))))
          go_wp2
          (try simp only [Exit.inBlock, Exit.then]); refine bodyPost_ret (results_tmp4 rfl _ _ _) rfl ?_
          exact ⟨by rw [HP.out]; rfl, grew_drewN (grew_refl _) _⟩
  · have hu : (l.getD 0 0).toNat ≠ 195 := fun hh => h0 (UInt8.toNat_inj.1 (by rw [hh]; rfl))
    have d2 : (((l.getD 0 0).toNat : Int) != 195) = true := bne_iff_ne.2 (by omega)
    rw [if_pos h0] at hhd
    have HP : Hid (headV (headOf l) = headV none) := by show _ = _; rw [hhd]
    generalize (l.getD 0 0).toNat = u at *
    clear h hc hn hl h21 h0 hhd hu
    go_enter Try.func67, Try.ntmps67
    go_wp2
    (try simp only [Exit.inBlock, Exit.then]); refine bodyPost_ret (results_tmp4 rfl _ _ _) rfl ?_
    exact ⟨by rw [HP.out]; rfl, grew_refl _⟩
end Go.Proofs.Ythnhhhfjgbgpgaa.NumK
