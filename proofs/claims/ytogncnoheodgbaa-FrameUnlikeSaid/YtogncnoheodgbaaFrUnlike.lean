/- The law FrameUnlike. -/
import Derived.Test.YtogncnoheodgbaaFrLaw0
namespace Go.Proofs.Ytogncnoheodgbaa.NumK
open Go.RowKit

theorem may_fits {gen no : Int} {n : Nat} (h : mayI gen no n = 0) : 0 ≤ gen ∧ gen ≤ 1099511627776 ∧ 0 ≤ no ∧ no ≤ 2147483647 ∧ n ≤ 65536 := by
  unfold mayI at h
  split at h
  · omega
  · split at h
    · omega
    · omega

set_option maxRecDepth 100000 in
set_option maxHeartbeats 4000000 in
theorem frameUnlike_walk (gen no gen2 no2 : Int) (A A1 : Option Addr) (n c m c1 : Nat) (l l1 : List UInt8) (w : World) (h : Bys w A n l) (hA : A = none → c = 0) (hc : n ≤ c) (h1 : Bys w A1 m l1) (hA1 : A1 = none → c1 = 0) (hc1 : m ≤ c1) :
    Calls Try.prog 8 #[.int .i64 gen, .int .i64 no, .int .i64 gen2, .int .i64 no2, .slice A n c, .slice A1 m c1] w fun e w' => e = .returned (.bool true) ∧ Grew w w' := by
  by_cases k1 : (65536 : Int) < (n : Int)
  · clear h h1 hA hA1 hc hc1
    go_enter Try.func8, Try.ntmps8
    go_wp2
    go_ret
    exact ⟨rfl, grew_refl _⟩
  by_cases k2 : (65536 : Int) < (m : Int)
  · clear h h1 hA hA1 hc hc1
    go_enter Try.func8, Try.ntmps8
    go_wp2
    go_ret
    exact ⟨rfl, grew_refl _⟩
  have CW := Lib.hid (fun w => wakes05_any w)
  have hn9 : n ≤ 70000 := by omega
  have hm9 : m ≤ 70000 := by omega
  by_cases m1 : mayI gen no n = 0
  · obtain ⟨N, hN⟩ : ∃ N : Nat, N = n + 21 := ⟨_, rfl⟩
    obtain ⟨g1, g2, g3, g4, g5⟩ := may_fits m1
    have CS1 := Lib.hid (seal_fits gen no A n c N l w hN h hA hc g1 g2 g3 g4 g5)
    by_cases m2 : mayI gen2 no2 m = 0
    · obtain ⟨M, hM⟩ : ∃ M : Nat, M = m + 21 := ⟨_, rfl⟩
      obtain ⟨q1, q2, q3, q4, q5⟩ := may_fits m2
      have CS2 := Lib.hid (fun w' (g : Grew w w') => seal_fits gen2 no2 A1 m c1 M l1 w' hM (h1.keep g) hA1 hc1 q1 q2 q3 q4 q5)
      have CK := Lib.hid (fun A5 A6 c5 c6 w' hb hb2 => keepBytes_any A5 A6 N M c5 c6 (frameB gen.toNat no.toNat l) (frameB gen2.toNat no2.toNat l1) w' hb hb2 (by omega) (by omega))
      have CL := Lib.hid (fun w' (g : Grew w w') => keepBytes_any A A1 n m c c1 l l1 w' (h.keep g) (h1.keep g) (by omega) (by omega))
      have hinj : frameB gen.toNat no.toNat l = frameB gen2.toNat no2.toNat l1 → gen = gen2 ∧ no = no2 ∧ l = l1 := fun e => by
        have := frameB_inj (by omega) (by omega) (by have := h.1; omega) (by omega) (by omega) (by have := h1.1; omega) e
        exact ⟨by omega, by omega, this.2.2⟩
      have hfw : gen = gen2 → no = no2 → (decide (frameB gen.toNat no.toNat l = frameB gen2.toNat no2.toNat l1) = decide (l = l1)) := fun e1 e2 => by
        subst e1; subst e2
        by_cases e3 : l = l1
        · subst e3; simp
        · rw [decide_eq_false e3, decide_eq_false (fun e => e3 (hinj e).2.2)]
      have HNO : Hid (gen ≠ gen2 ∨ no ≠ no2 → decide (frameB gen.toNat no.toNat l = frameB gen2.toNat no2.toNat l1) = false) := fun hne => decide_eq_false (fun e => by have := hinj e; rcases hne with h | h; exact h this.1; exact h this.2.1)
      have HYES := Lib.hid hfw
      clear h h1 hA hA1 hc hc1 hN hM m1 m2 hinj hfw g1 g2 g3 g4 g5 q1 q2 q3 q4 q5
      generalize decide (frameB gen.toNat no.toNat l = frameB gen2.toNat no2.toNat l1) = b1 at *
      generalize decide (l = l1) = b2 at *
      generalize frameB gen.toNat no.toNat l = F1 at *
      generalize frameB gen2.toNat no2.toNat l1 = F2 at *
      go_enter Try.func8, Try.ntmps8
      go_upto_region 5 with (first
        | (go_at_call 14; ((with_reducible refine CS1.out.mono ?_); rintro e x1 ⟨hg, A5, c5, rfl, ho⟩; have HG1 := Lib.hid hg; have HO1 := Lib.hid ho; have CS2' := Lib.hid (CS2.out x1 hg); clear hg ho CS1 CS2))
        | (go_at_call 14; ((with_reducible refine CS2'.out.mono ?_); rintro e x2 ⟨hg, A6, c6, rfl, ho⟩; have HG2 := Lib.hid (grew_trans HG1.out hg); have HK := Lib.hid (CK.out A5 A6 c5 c6 x2 (HO1.out.2.1.keep hg) ho.2.1); clear hg ho CS2')))
      by_cases e1 : gen = gen2
      · by_cases e2 : no = no2
        · have hb := HYES.out e1 e2
          have d1 : (gen == gen2) = true := by simpa using e1
          have d2 : (no == no2) = true := by simpa using e2
          subst hb
          clear HYES HNO e1 e2
          cases b1 with
          | true =>
            go_wp2_with (first
              | (go_at_call 16; ((with_reducible refine HK.out.mono ?_); rintro e x3 ⟨rfl, hg⟩; have HG3 := Lib.hid (grew_trans HG2.out hg); clear hg HK))
              | (go_at_call 16; ((with_reducible refine (CL.out _ HG3.out).mono ?_); rintro e x4 ⟨rfl, hg⟩; have HG4 := Lib.hid (grew_trans HG3.out hg); clear hg CL))
              | (go_at_call 12; ((with_reducible refine (CW.out _).mono ?_); rintro e x7 ⟨rfl, hg⟩; have HG7 := Lib.hid (grew_trans HG4.out hg); clear hg)))
            go_ret
            exact ⟨rfl, HG7.out⟩
          | false =>
            go_wp2_with (first
              | (go_at_call 16; ((with_reducible refine HK.out.mono ?_); rintro e x3 ⟨rfl, hg⟩; have HG3 := Lib.hid (grew_trans HG2.out hg); clear hg HK))
              | (go_at_call 16; ((with_reducible refine (CL.out _ HG3.out).mono ?_); rintro e x4 ⟨rfl, hg⟩; have HG4 := Lib.hid (grew_trans HG3.out hg); clear hg CL))
              | (go_at_call 12; ((with_reducible refine (CW.out _).mono ?_); rintro e x7 ⟨rfl, hg⟩; have HG7 := Lib.hid (grew_trans HG4.out hg); clear hg)))
            go_ret
            exact ⟨rfl, HG7.out⟩
        · have hb := HNO.out (Or.inr e2)
          have d1 : (gen == gen2) = true := by simpa using e1
          have d2 : (no == no2) = false := by simpa using e2
          subst hb
          clear HYES HNO e1 e2
          go_wp2_with (first
            | (go_at_call 16; ((with_reducible refine HK.out.mono ?_); rintro e x3 ⟨rfl, hg⟩; have HG3 := Lib.hid (grew_trans HG2.out hg); clear hg HK))
            | (go_at_call 12; ((with_reducible refine (CW.out _).mono ?_); rintro e x7 ⟨rfl, hg⟩; have HG7 := Lib.hid (grew_trans HG3.out hg); clear hg)))
          go_ret
          exact ⟨rfl, HG7.out⟩
      · have hb := HNO.out (Or.inl e1)
        have d1 : (gen == gen2) = false := by simpa using e1
        subst hb
        clear HYES HNO e1
        go_wp2_with (first
          | (go_at_call 16; ((with_reducible refine HK.out.mono ?_); rintro e x3 ⟨rfl, hg⟩; have HG3 := Lib.hid (grew_trans HG2.out hg); clear hg HK))
          | (go_at_call 12; ((with_reducible refine (CW.out _).mono ?_); rintro e x7 ⟨rfl, hg⟩; have HG7 := Lib.hid (grew_trans HG3.out hg); clear hg)))
        go_ret
        exact ⟨rfl, HG7.out⟩
    · have CS2 := Lib.hid (fun w' (g : Grew w w') => seal_none gen2 no2 A1 m c1 l1 w' (h1.keep g) hA1 hc1 m2)
      have d : (mayI gen2 no2 m != 0) = true := by simpa using m2
      generalize mayI gen2 no2 m = z at *
      clear h h1 hA hA1 hc hc1 hN m1 m2 g1 g2 g3 g4 g5
      go_enter Try.func8, Try.ntmps8
      go_upto_region 5 with (first
        | (go_at_call 14; ((with_reducible refine CS1.out.mono ?_); rintro e x1 ⟨hg, A5, c5, rfl, ho⟩; have HG1 := Lib.hid hg; have CS2' := Lib.hid (CS2.out x1 hg); clear hg ho CS1 CS2))
        | (go_at_call 14; ((with_reducible refine CS2'.out.mono ?_); rintro e x2 ⟨hg, rfl⟩; have HG2 := Lib.hid (grew_trans HG1.out hg); clear hg CS2')))
      go_wp2_with (go_at_call 12; ((with_reducible refine (CW.out _).mono ?_); rintro e x7 ⟨rfl, hg⟩; have HG7 := Lib.hid (grew_trans HG2.out hg); clear hg))
      go_ret
      exact ⟨rfl, HG7.out⟩
  · have CS1 := Lib.hid (seal_none gen no A n c l w h hA hc m1)
    have CS2 := Lib.hid (fun w' (g : Grew w w') => seal_any gen2 no2 A1 m c1 l1 w' (h1.keep g) hA1 hc1)
    have d : (mayI gen no n != 0) = true := by simpa using m1
    generalize mayI gen no n = z at *
    clear h h1 hA hA1 hc hc1 m1
    go_enter Try.func8, Try.ntmps8
    go_upto_region 5 with (first
      | (go_at_call 14; ((with_reducible refine CS1.out.mono ?_); rintro e x1 ⟨hg, rfl⟩; have HG1 := Lib.hid hg; have CS2' := Lib.hid (CS2.out x1 hg); clear hg CS1 CS2))
      | (go_at_call 14; ((with_reducible refine CS2'.out.mono ?_); rintro e x2 ⟨hg, hs⟩; have HG2 := Lib.hid (grew_trans HG1.out hg); rcases hs with ⟨_, rfl⟩ | ⟨_, v, rfl, _⟩; clear hg CS2')))
    all_goals
      go_wp2_with (go_at_call 12; ((with_reducible refine (CW.out _).mono ?_); rintro e x7 ⟨rfl, hg⟩; have HG7 := Lib.hid (grew_trans HG2.out hg); clear hg))
      go_ret
      exact ⟨rfl, HG7.out⟩

theorem frameUnlike_row (gen no gen2 no2 : Int) (A A1 : Option Addr) (n c m c1 : Nat) (l l1 : List Int) (w : World) (h : Row (spInt .u8) w A n l) (hA : A = none → c = 0) (hc : n ≤ c) (h1 : Row (spInt .u8) w A1 m l1) (hA1 : A1 = none → c1 = 0) (hc1 : m ≤ c1) :
    Calls Try.prog 8 #[.int .i64 gen, .int .i64 no, .int .i64 gen2, .int .i64 no2, .slice A n c, .slice A1 m c1] w fun e w' => e = .returned (.bool true) ∧ Grew w w' := by
  obtain ⟨xs, hx⟩ := bys_of_row h
  obtain ⟨ys, hy⟩ := bys_of_row h1
  exact frameUnlike_walk gen no gen2 no2 A A1 n c m c1 xs ys w hx hA hc hy hA1 hc1
end Go.Proofs.Ytogncnoheodgbaa.NumK
