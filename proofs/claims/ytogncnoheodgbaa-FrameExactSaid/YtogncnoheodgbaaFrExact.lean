/- The law FrameExact. -/
import Derived.Test.YtogncnoheodgbaaFrLaw0
import Derived.Test.YtogncnoheodgbaaRefFrE
namespace Go.Proofs.Ytogncnoheodgbaa.NumK
open Go.RowKit

theorem first_some (A : Option Addr) (N c : Nat) (l : List UInt8) (w : World) (g m s T : Nat) (hT : T = 21 + s) (h : Bys w A N l) (hA : A = none → c = 0) (hc : N ≤ c) (hc2 : c ≤ 9223372036854775807) (hf : frs l = some (g, m, s)) :
    Calls Try.prog 18 #[.slice A N c] w fun e w' => Grew w w' ∧ ∃ A2 c2, e = .returned (.tuple #[.int .i64 (g : Int), .int .i64 (m : Int), .slice A2 s c2, .int .i64 (T : Int), .int .i64 0]) ∧ Bys w' A2 s ((l.drop 21).take s) ∧ FreshB w w' A2 s c2 := by
  refine (first_any A N c _ w h hA hc hc2).mono fun e w' ⟨hg, hs⟩ => ⟨hg, ?_⟩
  rcases hs with ⟨h0, _⟩ | ⟨g', m', s', v, h0, he, ho⟩
  · rw [hf] at h0; cases h0
  · rw [hf] at h0
    simp only [Option.some.injEq, Prod.mk.injEq] at h0
    obtain ⟨rfl, rfl, rfl⟩ := h0
    obtain ⟨A2, c2, rfl, h1, _, _, _, h2⟩ := bys_own2 ho
    exact ⟨A2, c2, by rw [he, hT], h1, h2 w (Nat.le_refl _)⟩
theorem ref_some (A : Option Addr) (N c : Nat) (l : List UInt8) (w : World) (g m s T : Nat) (hT : T = 21 + s) (h : Bys w A N l) (hA : A = none → c = 0) (hc : N ≤ c) (hc2 : c ≤ 9223372036854775807) (hf : frs l = some (g, m, s)) :
    Calls Try.prog 19 #[.slice A N c] w fun e w' => Grew w w' ∧ ∃ A2 c2, e = .returned (.tuple #[.int .i64 (g : Int), .int .i64 (m : Int), .slice A2 s c2, .int .i64 (T : Int), .bool true]) ∧ Bys w' A2 s ((l.drop 21).take s) := by
  refine (refFirst_any A N c _ w h hA hc hc2).mono fun e w' ⟨hg, hs⟩ => ⟨hg, ?_⟩
  rcases hs with ⟨h0, _⟩ | ⟨g', m', s', v, h0, he, ho⟩
  · rw [hf] at h0; cases h0
  · rw [hf] at h0
    simp only [Option.some.injEq, Prod.mk.injEq] at h0
    obtain ⟨rfl, rfl, rfl⟩ := h0
    obtain ⟨A2, c2, rfl, h1, _⟩ := bys_own2 ho
    exact ⟨A2, c2, by rw [he, hT], h1⟩
theorem ref_none (A : Option Addr) (N c : Nat) (l : List UInt8) (w : World) (h : Bys w A N l) (hA : A = none → c = 0) (hc : N ≤ c) (hc2 : c ≤ 9223372036854775807) (hf : frs l = none) :
    Calls Try.prog 19 #[.slice A N c] w fun e w' => Grew w w' ∧ e = .returned (.tuple #[.int .i64 0, .int .i64 0, .slice none 0 0, .int .i64 0, .bool false]) := by
  refine (refFirst_any A N c _ w h hA hc hc2).mono fun e w' ⟨hg, hs⟩ => ⟨hg, ?_⟩
  rcases hs with ⟨_, he⟩ | ⟨g, m, s, v, h0, _⟩
  · exact he
  · rw [hf] at h0; cases h0
theorem keep_same (A B : Option Addr) (n c c2 : Nat) (l : List UInt8) (w : World) (h1 : Bys w A n l) (h2 : Bys w B n l) (hn : n ≤ 9223372036854775807) :
    Calls Try.prog 16 #[.slice A n c, .slice B n c2] w fun e w' => e = .returned (.bool true) ∧ Grew w w' := by
  have := keepBytes_any A B n n c c2 l l w h1 h2 hn hn
  rwa [decide_eq_true (p := l = l) rfl] at this
/-- A twin, with all that is told of it. -/
theorem twin_own (A : Option Addr) (n c : Nat) (l : List UInt8) (w : World) (hb : Bys w A n l) (hA : A = none → c = 0) (hn : n ≤ 140737488355328) :
    Calls Try.prog 13 #[.slice A n c] w fun e w' => Grew w w' ∧ ∃ A2 c2, e = .returned (.slice A2 n c2) ∧ OwnB w.heap.size w' A2 n c2 l := by
  refine (twinB_any A n c l w hb hA hn).mono fun e w' ⟨hg, A2, c2, he, ho, _⟩ => ⟨hg, ?_⟩
  obtain ⟨A3, c3, e3, h3⟩ := ownB_of ho
  cases e3
  exact ⟨A2, c2, he, h3⟩
theorem may_fits0 {gen no : Int} {n : Nat} (h : mayI gen no n = 0) : 0 ≤ gen ∧ gen ≤ 1099511627776 ∧ 0 ≤ no ∧ no ≤ 2147483647 ∧ n ≤ 65536 := by
  unfold mayI at h
  split at h
  · omega
  · split at h
    · omega
    · omega

set_option maxRecDepth 100000 in
set_option maxHeartbeats 4000000 in
theorem frameExact_walk (gen no : Int) (A A1 : Option Addr) (n c m c1 : Nat) (l l1 : List UInt8) (w : World) (h : Bys w A n l) (hA : A = none → c = 0) (h1 : Bys w A1 m l1) (hA1 : A1 = none → c1 = 0) (hc1 : m ≤ c1) (hc12 : c1 ≤ 9223372036854775807) :
    Calls Try.prog 4 #[.int .i64 gen, .int .i64 no, .slice A n c, .slice A1 m c1] w fun e w' => e = .returned (.bool true) ∧ Grew w w' := by
  by_cases k1 : (131072 : Int) < (n : Int)
  · clear h h1 hA hA1 hc1 hc12
    go_enter Try.func4, Try.ntmps4
    go_wp2
    go_ret
    exact ⟨rfl, grew_refl _⟩
  by_cases k2 : (131072 : Int) < (m : Int)
  · clear h h1 hA hA1 hc1 hc12
    go_enter Try.func4, Try.ntmps4
    go_wp2
    go_ret
    exact ⟨rfl, grew_refl _⟩
  have CW := Lib.hid (fun w => wakes05_any w)
  have HL := Lib.hid h
  have HL1 := Lib.hid h1
  have HA1 := Lib.hid hA1
  have HC1 := Lib.hid (And.intro hc1 hc12)
  have CT := Lib.hid (twin_own A n c l w h hA (by omega))
  have CT1 := Lib.hid (fun w' (g : Grew w w') => twin_own A1 m c1 l1 w' (h1.keep g) hA1 (by omega))
  have CM := Lib.hid (fun w' => refMay_any gen no n w')
  by_cases m1 : mayI gen no n = 0
  · obtain ⟨g1, g2, g3, g4, g5⟩ := may_fits0 m1
    obtain ⟨N, hN⟩ : ∃ N : Nat, N = n + 21 := ⟨_, rfl⟩
    have hN9 : N ≤ 70000 := by omega
    have CS := Lib.hid (fun A2 c2 w' hb hA hc => seal_fits gen no A2 n c2 N l w' hN hb hA hc g1 g2 g3 g4 g5)
    have CR := Lib.hid (fun w' (g : Grew w w') => refSeal_any gen.toNat no.toNat A n c l w' (h.keep g) hA (by omega) (by omega) (by omega))
    rw [Int.toNat_of_nonneg g1, Int.toNat_of_nonneg g3, ← hN] at CR
    rw [m1] at CM
    generalize frameB gen.toNat no.toNat l = F at *
    clear h h1 hA hA1 hc1 hc12 m1 hN g1 g2 g3 g4
    go_enter Try.func4, Try.ntmps4
    go_upto_region 5 with (first
      | (go_at_call 13; ((with_reducible refine CT.out.mono ?_); rintro e x1 ⟨hg, A2, c2, rfl, ho⟩; have HG1 := Lib.hid hg; have HB1 := Lib.hid ho.2.1; have HS := Lib.hid (CS.out A2 c2 x1 ho.2.1 ho.2.2.1 ho.2.2.2.1); clear hg ho CT CS))
      | (go_at_call 14; ((with_reducible refine HS.out.mono ?_); rintro e x2 ⟨hg, A3, c3, rfl, ho⟩; have HG2 := Lib.hid (grew_trans HG1.out hg); have HB2 := Lib.hid (HB1.out.keep hg); have HF2 := Lib.hid ho.2.1; clear hg ho HS)))
    clear HB1
    go_upto_region 7 with (first
      | (go_at_call 15; ((with_reducible refine (CM.out _).mono ?_); rintro e x ⟨rfl, rfl⟩))
      | (go_at_call 17; ((with_reducible refine (CR.out _ HG2.out).mono ?_); rintro e x3 ⟨hg, v3, rfl, ho⟩; obtain ⟨A4, c4, rfl, ho4⟩ := ownB_of ho; have HG3 := Lib.hid (grew_trans HG2.out hg); have HB3 := Lib.hid (HB2.out.keep hg); have HK := Lib.hid (keep_same A3 A4 N c3 c4 F x3 (HF2.out.keep hg) ho4.2.1 (by omega)); clear hg ho ho4 CR))
      | (go_at_call 16; ((with_reducible refine HK.out.mono ?_); rintro e x4 ⟨rfl, hg⟩; have HG4 := Lib.hid (grew_trans HG3.out hg); have HK2 := Lib.hid (keep_same A2 A n c2 c l x4 (HB3.out.keep hg) (HL.out.keep (grew_trans HG3.out hg)) (by omega)); clear hg HK))
      | (go_at_call 16; ((with_reducible refine HK2.out.mono ?_); rintro e x5 ⟨rfl, hg⟩; have HG5 := Lib.hid (grew_trans HG4.out hg); clear hg HK2)))
    clear HG1 HG2 HG3 HG4 HB2 HB3 HF2
    cases hf : frs l1 with
    | none =>
      have CF := Lib.hid (fun A3 c3 w3 hb hA hc hc2 => first_none A3 m c3 l1 w3 hb hA hc hc2 hf)
      have CR := Lib.hid (fun w3 (g : Grew w w3) => ref_none A1 m c1 l1 w3 (HL1.out.keep g) HA1.out HC1.out.1 HC1.out.2 hf)
      clear hf
      go_upto_region 10 with (first
        | (go_at_call 13; ((with_reducible refine (CT1.out _ HG5.out).mono ?_); rintro e y1 ⟨hg, A6, c6, rfl, ho⟩; have HY1 := Lib.hid (grew_trans HG5.out hg); have HB6 := Lib.hid ho.2.1; have HF := Lib.hid (CF.out A6 c6 y1 ho.2.1 ho.2.2.1 ho.2.2.2.1 ho.2.2.2.2); clear hg ho CF CT1))
        | (go_at_call 18; ((with_reducible refine HF.out.mono ?_); rintro e y2 ⟨hg, rfl⟩; have HY2 := Lib.hid (grew_trans HY1.out hg); have HB7 := Lib.hid (HB6.out.keep hg); clear hg HF))
        | (go_at_call 19; ((with_reducible refine (CR.out _ HY2.out).mono ?_); rintro e y3 ⟨hg, rfl⟩; have HY3 := Lib.hid (grew_trans HY2.out hg); have HB8 := Lib.hid (HB7.out.keep hg); clear hg CR)))
      clear HB6 HB7
      have HK1 := Lib.hid (keep_same none none 0 0 0 [] y3 (bys0 _ _) (bys0 _ _) (by omega))
      go_upto_region 12 with (go_at_call 16; ((with_reducible refine HK1.out.mono ?_); rintro e y4 ⟨rfl, hg⟩; have HY4 := Lib.hid (grew_trans HY3.out hg); have HB9 := Lib.hid (HB8.out.keep hg); clear hg HK1))
      have HSP := Lib.hid (spoilB_none y4)
      have HK2 := Lib.hid (keep_same A6 A1 m c6 c1 l1 y4 HB9.out (HL1.out.keep HY4.out) (by omega))
      go_wp2_with (first
        | (go_at_call 20; ((with_reducible refine HSP.out.mono ?_); rintro e y5 ⟨rfl, rfl⟩))
        | (go_at_call 16; ((with_reducible refine HK2.out.mono ?_); rintro e y6 ⟨rfl, hg⟩; have HY6 := Lib.hid (grew_trans HY4.out hg); clear hg HK2))
        | (go_at_call 12; ((with_reducible refine (CW.out _).mono ?_); rintro e y7 ⟨rfl, hg⟩; have HY7 := Lib.hid (grew_trans HY6.out hg); clear hg)))
      go_ret
      exact ⟨rfl, HY7.out⟩
    | some t =>
      obtain ⟨g, mm, s⟩ := t
      obtain ⟨T, hT⟩ : ∃ T : Nat, T = 21 + s := ⟨_, rfl⟩
      have CF := Lib.hid (fun A3 c3 w3 hb hA hc hc2 => first_some A3 m c3 l1 w3 g mm s T hT hb hA hc hc2 hf)
      have CR := Lib.hid (fun w3 (g' : Grew w w3) => ref_some A1 m c1 l1 w3 g mm s T hT (HL1.out.keep g') HA1.out HC1.out.1 HC1.out.2 hf)
      have hs9 : s ≤ 65536 := (frs_some hf).2.2.2.2.1
      clear hf hT
      generalize (l1.drop 21).take s = L5 at *
      go_upto_region 10 with (first
        | (go_at_call 13; ((with_reducible refine (CT1.out _ HG5.out).mono ?_); rintro e y1 ⟨hg, A6, c6, rfl, ho⟩; have HY1 := Lib.hid (grew_trans HG5.out hg); have HB6 := Lib.hid ho.2.1; have HF := Lib.hid (CF.out A6 c6 y1 ho.2.1 ho.2.2.1 ho.2.2.2.1 ho.2.2.2.2); clear hg ho CF CT1))
        | (go_at_call 18; ((with_reducible refine HF.out.mono ?_); rintro e y2 ⟨hg, A7, c7, rfl, hb7, hf7⟩; have HGF := Lib.hid hg; have HB7 := Lib.hid hb7; have HF7 := Lib.hid hf7; have HY2 := Lib.hid (grew_trans HY1.out hg); clear hg hb7 hf7 HF))
        | (go_at_call 19; ((with_reducible refine (CR.out _ HY2.out).mono ?_); rintro e y3 ⟨hg, A8, c8, rfl, hb8⟩; have HY3 := Lib.hid (grew_trans HGF.out hg); have HK1 := Lib.hid (keep_same A7 A8 s c7 c8 L5 y3 (HB7.out.keep hg) hb8 (by omega)); have HF8 := Lib.hid (HF7.out.keep hg); clear hg CR hb8)))
      clear HB7 HF7 HGF
      go_upto_region 12 with (go_at_call 16; ((with_reducible refine HK1.out.mono ?_); rintro e y4 ⟨rfl, hg⟩; have HY4 := Lib.hid (grew_trans HY3.out hg); have HF9 := Lib.hid (HF8.out.keep hg); clear hg HK1))
      have HSP := Lib.hid (spoilB_any A7 s c7 y1 y4 HF9.out HY4.out (by omega))
      go_wp2_with (first
        | (go_at_call 20; ((with_reducible refine HSP.out.mono ?_); rintro e y5 ⟨rfl, hg, _⟩; have HY5 := Lib.hid (grew_trans HY1.out hg); have HK2 := Lib.hid (keep_same A6 A1 m c6 c1 l1 y5 (HB6.out.keep hg) (HL1.out.keep (grew_trans HY1.out hg)) (by omega)); clear hg HSP))
        | (go_at_call 16; ((with_reducible refine HK2.out.mono ?_); rintro e y6 ⟨rfl, hg⟩; have HY6 := Lib.hid (grew_trans HY5.out hg); clear hg HK2))
        | (go_at_call 12; ((with_reducible refine (CW.out _).mono ?_); rintro e y7 ⟨rfl, hg⟩; have HY7 := Lib.hid (grew_trans HY6.out hg); clear hg)))
      go_ret
      exact ⟨rfl, HY7.out⟩
  · have CS := Lib.hid (fun A2 c2 w' hb hA hc => seal_none gen no A2 n c2 l w' hb hA hc m1)
    have d1 : (mayI gen no n == 0) = false := by simpa using m1
    have d2 : (mayI gen no n != 0) = true := by simpa using m1
    generalize mayI gen no n = z at *
    clear h h1 hA hA1 hc1 hc12 m1
    go_enter Try.func4, Try.ntmps4
    go_upto_region 5 with (first
      | (go_at_call 13; ((with_reducible refine CT.out.mono ?_); rintro e x1 ⟨hg, A2, c2, rfl, ho⟩; have HG1 := Lib.hid hg; have HB1 := Lib.hid ho.2.1; have HS := Lib.hid (CS.out A2 c2 x1 ho.2.1 ho.2.2.1 ho.2.2.2.1); clear hg ho CT CS))
      | (go_at_call 14; ((with_reducible refine HS.out.mono ?_); rintro e x2 ⟨hg, rfl⟩; have HG2 := Lib.hid (grew_trans HG1.out hg); have HK2 := Lib.hid (keep_same A2 A n c2 c l x2 (HB1.out.keep hg) (HL.out.keep (grew_trans HG1.out hg)) (by omega)); clear hg HS)))
    clear HB1
    go_upto_region 7 with (first
      | (go_at_call 15; ((with_reducible refine (CM.out _).mono ?_); rintro e x ⟨rfl, rfl⟩))
      | (go_at_call 16; ((with_reducible refine HK2.out.mono ?_); rintro e x5 ⟨rfl, hg⟩; have HG5 := Lib.hid (grew_trans HG2.out hg); clear hg HK2)))
    clear HG1 HG2
    cases hf : frs l1 with
    | none =>
      have CF := Lib.hid (fun A3 c3 w3 hb hA hc hc2 => first_none A3 m c3 l1 w3 hb hA hc hc2 hf)
      have CR := Lib.hid (fun w3 (g : Grew w w3) => ref_none A1 m c1 l1 w3 (HL1.out.keep g) HA1.out HC1.out.1 HC1.out.2 hf)
      clear hf
      go_upto_region 10 with (first
        | (go_at_call 13; ((with_reducible refine (CT1.out _ HG5.out).mono ?_); rintro e y1 ⟨hg, A6, c6, rfl, ho⟩; have HY1 := Lib.hid (grew_trans HG5.out hg); have HB6 := Lib.hid ho.2.1; have HF := Lib.hid (CF.out A6 c6 y1 ho.2.1 ho.2.2.1 ho.2.2.2.1 ho.2.2.2.2); clear hg ho CF CT1))
        | (go_at_call 18; ((with_reducible refine HF.out.mono ?_); rintro e y2 ⟨hg, rfl⟩; have HY2 := Lib.hid (grew_trans HY1.out hg); have HB7 := Lib.hid (HB6.out.keep hg); clear hg HF))
        | (go_at_call 19; ((with_reducible refine (CR.out _ HY2.out).mono ?_); rintro e y3 ⟨hg, rfl⟩; have HY3 := Lib.hid (grew_trans HY2.out hg); have HB8 := Lib.hid (HB7.out.keep hg); clear hg CR)))
      clear HB6 HB7
      have HK1 := Lib.hid (keep_same none none 0 0 0 [] y3 (bys0 _ _) (bys0 _ _) (by omega))
      go_upto_region 12 with (go_at_call 16; ((with_reducible refine HK1.out.mono ?_); rintro e y4 ⟨rfl, hg⟩; have HY4 := Lib.hid (grew_trans HY3.out hg); have HB9 := Lib.hid (HB8.out.keep hg); clear hg HK1))
      have HSP := Lib.hid (spoilB_none y4)
      have HK2 := Lib.hid (keep_same A6 A1 m c6 c1 l1 y4 HB9.out (HL1.out.keep HY4.out) (by omega))
      go_wp2_with (first
        | (go_at_call 20; ((with_reducible refine HSP.out.mono ?_); rintro e y5 ⟨rfl, rfl⟩))
        | (go_at_call 16; ((with_reducible refine HK2.out.mono ?_); rintro e y6 ⟨rfl, hg⟩; have HY6 := Lib.hid (grew_trans HY4.out hg); clear hg HK2))
        | (go_at_call 12; ((with_reducible refine (CW.out _).mono ?_); rintro e y7 ⟨rfl, hg⟩; have HY7 := Lib.hid (grew_trans HY6.out hg); clear hg)))
      go_ret
      exact ⟨rfl, HY7.out⟩
    | some t =>
      obtain ⟨g, mm, s⟩ := t
      obtain ⟨T, hT⟩ : ∃ T : Nat, T = 21 + s := ⟨_, rfl⟩
      have CF := Lib.hid (fun A3 c3 w3 hb hA hc hc2 => first_some A3 m c3 l1 w3 g mm s T hT hb hA hc hc2 hf)
      have CR := Lib.hid (fun w3 (g' : Grew w w3) => ref_some A1 m c1 l1 w3 g mm s T hT (HL1.out.keep g') HA1.out HC1.out.1 HC1.out.2 hf)
      have hs9 : s ≤ 65536 := (frs_some hf).2.2.2.2.1
      clear hf hT
      generalize (l1.drop 21).take s = L5 at *
      go_upto_region 10 with (first
        | (go_at_call 13; ((with_reducible refine (CT1.out _ HG5.out).mono ?_); rintro e y1 ⟨hg, A6, c6, rfl, ho⟩; have HY1 := Lib.hid (grew_trans HG5.out hg); have HB6 := Lib.hid ho.2.1; have HF := Lib.hid (CF.out A6 c6 y1 ho.2.1 ho.2.2.1 ho.2.2.2.1 ho.2.2.2.2); clear hg ho CF CT1))
        | (go_at_call 18; ((with_reducible refine HF.out.mono ?_); rintro e y2 ⟨hg, A7, c7, rfl, hb7, hf7⟩; have HGF := Lib.hid hg; have HB7 := Lib.hid hb7; have HF7 := Lib.hid hf7; have HY2 := Lib.hid (grew_trans HY1.out hg); clear hg hb7 hf7 HF))
        | (go_at_call 19; ((with_reducible refine (CR.out _ HY2.out).mono ?_); rintro e y3 ⟨hg, A8, c8, rfl, hb8⟩; have HY3 := Lib.hid (grew_trans HGF.out hg); have HK1 := Lib.hid (keep_same A7 A8 s c7 c8 L5 y3 (HB7.out.keep hg) hb8 (by omega)); have HF8 := Lib.hid (HF7.out.keep hg); clear hg CR hb8)))
      clear HB7 HF7 HGF
      go_upto_region 12 with (go_at_call 16; ((with_reducible refine HK1.out.mono ?_); rintro e y4 ⟨rfl, hg⟩; have HY4 := Lib.hid (grew_trans HY3.out hg); have HF9 := Lib.hid (HF8.out.keep hg); clear hg HK1))
      have HSP := Lib.hid (spoilB_any A7 s c7 y1 y4 HF9.out HY4.out (by omega))
      go_wp2_with (first
        | (go_at_call 20; ((with_reducible refine HSP.out.mono ?_); rintro e y5 ⟨rfl, hg, _⟩; have HY5 := Lib.hid (grew_trans HY1.out hg); have HK2 := Lib.hid (keep_same A6 A1 m c6 c1 l1 y5 (HB6.out.keep hg) (HL1.out.keep (grew_trans HY1.out hg)) (by omega)); clear hg HSP))
        | (go_at_call 16; ((with_reducible refine HK2.out.mono ?_); rintro e y6 ⟨rfl, hg⟩; have HY6 := Lib.hid (grew_trans HY5.out hg); clear hg HK2))
        | (go_at_call 12; ((with_reducible refine (CW.out _).mono ?_); rintro e y7 ⟨rfl, hg⟩; have HY7 := Lib.hid (grew_trans HY6.out hg); clear hg)))
      go_ret
      exact ⟨rfl, HY7.out⟩

theorem frameExact_row (gen no : Int) (A A1 : Option Addr) (n c m c1 : Nat) (l l1 : List Int) (w : World) (h : Row (spInt .u8) w A n l) (hA : A = none → c = 0) (h1 : Row (spInt .u8) w A1 m l1) (hA1 : A1 = none → c1 = 0) (hc1 : m ≤ c1) (hc12 : c1 ≤ 9223372036854775807) :
    Calls Try.prog 4 #[.int .i64 gen, .int .i64 no, .slice A n c, .slice A1 m c1] w fun e w' => e = .returned (.bool true) ∧ Grew w w' := by
  obtain ⟨xs, hx⟩ := bys_of_row h
  obtain ⟨ys, hy⟩ := bys_of_row h1
  exact frameExact_walk gen no A A1 n c m c1 xs ys w hx hA hy hA1 hc1 hc12
end Go.Proofs.Ytogncnoheodgbaa.NumK
