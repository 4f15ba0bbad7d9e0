/- The law FrameSpoilt. -/
import Derived.Test.YtogncnoheodgbaaFrLaw0
import Derived.Test.YtogncnoheodgbaaFrSpMath
namespace Go.Proofs.Ytogncnoheodgbaa.NumK
open Go.RowKit

/-- A row of bytes of the call's own that may be written. -/
def RowU (w : World) (b n : Nat) (l : List UInt8) : Prop := Bys w (some ⟨b, 0, none⟩) n l ∧ WrB w b n
theorem RowU.set {w : World} {b n : Nat} {l : List UInt8} (h : RowU w b n l) {j : Nat} (hj : j < n) (v : UInt8) : RowU (w.setCell ⟨b, j, none⟩ (.int .u8 (v.toNat : Int))) b n (l.set j v) := by
  refine ⟨⟨by rw [List.length_set]; exact h.1.1, fun _ => ⟨b, 0, rfl, (h.2.set j _).1, fun k hk => ?_⟩⟩, h.2.set j _⟩
  rw [Nat.zero_add]
  have hc := h.1.cell hk
  rw [Nat.zero_add] at hc
  have hl := h.1.1
  by_cases e : k = j
  · subst e
    rw [World.cell?_setCell_same _ _ _ hc]
    simp [List.getD, hl, hk]
  · rw [World.cell?_setCell_other _ _ _ _ (by intro e2; simp only [Addr.mk.injEq] at e2; omega), hc]
    simp only [List.getD_eq_getElem?_getD]
    rw [List.getElem?_set_ne (by omega)]
theorem seal_row (gen no : Int) (A : Option Addr) (n c N : Nat) (l : List UInt8) (w : World) (hN : N = n + 21) (h : Bys w A n l) (hA : A = none → c = 0) (hc : n ≤ c) (g1 : 0 ≤ gen) (g2 : gen ≤ 1099511627776) (n1 : 0 ≤ no) (n2 : no ≤ 2147483647) (hn : n ≤ 65536) :
    Calls Try.prog 14 #[.int .i64 gen, .int .i64 no, .slice A n c] w fun e w' => Grew w w' ∧ ∃ b c2, e = .returned (.tuple #[.slice (some ⟨b, 0, none⟩) N c2, .int .i64 0]) ∧ w.heap.size ≤ b ∧ N ≤ c2 ∧ c2 ≤ 9223372036854775807 ∧ RowU w' b N (frameB gen.toNat no.toNat l) := by
  refine (seal_fits gen no A n c N l w hN h hA hc g1 g2 n1 n2 hn).mono fun e w' ⟨hg, A2, c2, he, ho⟩ => ⟨hg, ?_⟩
  obtain ⟨A3, c3, e3, h1, _, h3, h4, h5⟩ := bys_own2 ho.1
  cases e3
  rcases h5 w (Nat.le_refl _) with ⟨_, h0, _⟩ | ⟨b, rfl, hb, hw⟩
  · omega
  · exact ⟨b, c2, he, hb, h3, h4, h1, hw⟩
theorem xor_u8 (x y : UInt8) : bits .xor .u8 (x.toNat : Int) (y.toNat : Int) = (((x ^^^ y).toNat : Nat) : Int) := by
  rw [UInt8.toNat_xor]
  exact u8_xor_nat _ _ x.toNat_lt y.toNat_lt

set_option maxRecDepth 100000 in
set_option maxHeartbeats 8000000 in
theorem frameSpoilt_walk (gen no at' sh : Int) (A : Option Addr) (n c B : Nat) (l : List UInt8) (w : World) (h : Bys w A n l) (hA : A = none → c = 0) (hc : n ≤ c) (hB : B < 4294967296) :
    Calls Try.prog 7 #[.int .i64 gen, .int .i64 no, .slice A n c, .int .i64 at', .int .u32 (B : Int), .int .i64 sh] w fun e w' => e = .returned (.bool true) ∧ Grew w w' := by
  by_cases k1 : (65536 : Int) < (n : Int)
  · clear h hA hc hB
    go_enter Try.func7, Try.ntmps7
    go_wp2
    go_ret
    exact ⟨rfl, grew_refl _⟩
  by_cases k2 : gen < 0
  · clear h hA hc hB
    go_enter Try.func7, Try.ntmps7
    go_wp2
    go_ret
    exact ⟨rfl, grew_refl _⟩
  by_cases k3 : 1099511627776 < gen
  · clear h hA hc hB
    go_enter Try.func7, Try.ntmps7
    go_wp2
    go_ret
    exact ⟨rfl, grew_refl _⟩
  by_cases k4 : no < 0
  · clear h hA hc hB
    go_enter Try.func7, Try.ntmps7
    go_wp2
    go_ret
    exact ⟨rfl, grew_refl _⟩
  by_cases k5 : 2147483647 < no
  · clear h hA hc hB
    go_enter Try.func7, Try.ntmps7
    go_wp2
    go_ret
    exact ⟨rfl, grew_refl _⟩
  by_cases k6 : B = 0
  · have d6 : ((B : Int) == 0) = true := by simp; omega
    clear h hA hc hB k6
    go_enter Try.func7, Try.ntmps7
    go_wp2
    go_ret
    exact ⟨rfl, grew_refl _⟩
  have d6 : ((B : Int) == 0) = false := by simp; omega
  have CW := Lib.hid (fun w => wakes05_any w)
  obtain ⟨N, hN⟩ : ∃ N : Nat, N = n + 21 := ⟨_, rfl⟩
  have hN9 : N ≤ 70000 := by omega
  have wN : IntKind.i64.wrap (21 + (n : Int)) = (N : Int) := by rw [IntKind.wrap_i64]; omega
  have wB : IntKind.u64.wrap (B : Int) = (B : Int) := by rw [IntKind.wrap_u64]; omega
  have CSeal := Lib.hid (seal_row gen no A n c N l w hN h hA hc (by omega) (by omega) (by omega) (by omega) (by omega))
  have hl := h.1
  have HFN : Hid (∀ lst off k m S, Chg (frameB gen.toNat no.toNat l) lst off k m (B * 2 ^ S) → Part off k N → S < 8 → 0 < m → (B * 2 ^ S) % 256 ^ m ≠ 0 → frs lst = none) := fun lst off k m S hch hp hS hm ht =>
    spoilt_none (by omega) (by omega) (by omega) hch (by rw [frameB_len, hl, ← hN]; exact hp) hB hS hm ht
  have HFL : Hid ((frameB gen.toNat no.toNat l).length = N) := by show _ = _; rw [frameB_len, hl, ← hN]
  obtain ⟨U, hU⟩ : ∃ U : Int, U = IntKind.u64.wrap at' := ⟨_, rfl⟩
  have hU0 : 0 ≤ U := by rw [hU, IntKind.wrap_u64]; omega
  have hKU := hU.symm
  obtain ⟨U2, hU2⟩ : ∃ U2 : Int, U2 = IntKind.u64.wrap sh := ⟨_, rfl⟩
  have hU20 : 0 ≤ U2 := by rw [hU2, IntKind.wrap_u64]; omega
  have hKU2 := hU2.symm
  obtain ⟨S, hS⟩ : ∃ S : Nat, U2 % 8 = (S : Int) := ⟨(U2 % 8).toNat, by omega⟩
  have hS8 : S < 8 := by omega
  obtain ⟨X, hX⟩ : ∃ X : Nat, X = B * 2 ^ S := ⟨_, rfl⟩
  have hX9 : X < 4294967296 * 128 := by
    rw [hX]
    have : 2 ^ S ≤ 128 := Nat.le_trans (Nat.pow_le_pow_right (by omega) (show S ≤ 7 by omega)) (by decide)
    exact Nat.lt_of_le_of_lt (Nat.mul_le_mul_left B this) (by omega)
  have wX : IntKind.u64.wrap ((B : Int) * 2 ^ S) = (X : Int) := by
    have : (B : Int) * 2 ^ S = (X : Int) := by rw [hX]; simp
    rw [this, IntKind.wrap_u64]; omega
  have HX := Lib.hid hX
  have HN := Lib.hid hN
  have hN21 : 21 ≤ N := by omega
  clear h hA hU hU2 hX hl hB hX9 hN
  generalize frameB gen.toNat no.toNat l = F at *
  go_enter Try.func7, Try.ntmps7
  go_upto_region 6 with (go_at_call 14; ((with_reducible refine CSeal.out.mono ?_); rintro e x1 ⟨hg, b, c2, rfl, hb, hNc, hc2, hr⟩; have HG1 := Lib.hid hg; have HR1 := Lib.hid hr; have HB := Lib.hid hb; have HC2 := Lib.hid (And.intro hNc hc2); clear hg hr hb hNc hc2 CSeal))
  by_cases ha : at' < 0
  · by_cases hn0 : n = 0
    · have z0 : ¬ (0 : Int) < (n : Int) := by omega
      clear hn0
      obtain ⟨K0, hK⟩ : ∃ K0 : Nat, U % 12 = (K0 : Int) := ⟨(U % 12).toNat, by omega⟩
      have hK0 : K0 < 12 := by omega
      obtain ⟨K, hKe⟩ : ∃ K : Nat, K = 1 + K0 := ⟨_, rfl⟩
      have hKs : (1 : Int) + (K0 : Int) = (K : Int) := by omega
      have HPK : Hid (Part 1 K N) := Or.inl ⟨rfl, by omega, by omega⟩
      have hK1 : 1 ≤ K := by omega
      have hKN : K < 13 := by omega
      clear hKe
      go_upto_region 14 with (fail)
      clear hKU hKU2 hS wX hK hKs wN wB d6
      go_loopw [20, 21] (fun v20 v21 wr => ∃ (i : Nat) (lst : List UInt8), v21 = .int .i64 i ∧ i ≤ 5 ∧ v20 = .bool (decide (X % 256 ^ i ≠ 0)) ∧ Hid (RowU wr b N lst) ∧ Hid (Chg F lst 1 K i X) ∧ Hid (Grew w wr)) (fun _ v21 _ => 5 - (intOf v21).toNat)
      case atStart => exact ⟨0, F, rfl, by omega, by simp [Nat.mod_one], HR1, Chg.zero F 1 K X, HG1⟩
      case round =>
        clear HR1 HG1
        obtain ⟨i, lst, rfl, hi, rfl, HR, HC, HG⟩ := hrel
        by_cases hi5 : i < 5
        · have a3 : (i : Int) < 5 := by omega
          obtain ⟨J, hJ⟩ : ∃ J : Nat, J = K + i := ⟨_, rfl⟩
          have hJs : (K : Int) + (i : Int) = (J : Int) := by omega
          by_cases hJT : J < 13
          · have a4 : (J : Int) < 13 := by omega
            have a5 : (0 : Int) ≤ (J : Int) := by omega
            have a6 : (J : Int) < (N : Int) := by omega
            have hJN : J < N := by omega
            have a1 := HR.out.1.cell (j := J) hJN
            rw [Nat.zero_add] at a1
            have a2 := (HR.out.2.2 J hJN).2
            have e1 := byte_at X i
            have e2 := xor_u8 (lst.getD J 0) (UInt8.ofNat (X / 256 ^ i))
            have HR2 := Lib.hid (HR.out.set hJN (lst.getD J 0 ^^^ UInt8.ofNat (X / 256 ^ i)))
            have HC3 := Lib.hid (HC.out.step (by rw [HFL.out]; omega) (by omega) (show Part 1 (K + i) F.length by rw [HFL.out]; unfold Part; omega))
            rw [← hJ] at HC3
            clear hJ
            have HTM := Lib.hid (turned_more X i)
            generalize lst.set J (lst.getD J 0 ^^^ UInt8.ofNat (X / 256 ^ i)) = lst2 at *
            generalize lst.getD J 0 ^^^ UInt8.ofNat (X / 256 ^ i) = yv at *
            generalize lst.getD J 0 = y at *
            generalize UInt8.ofNat (X / 256 ^ i) = cb at *
            generalize decide (X % 256 ^ i ≠ 0) = tb at *
            obtain ⟨tb2, ht2⟩ : ∃ tb2, decide (X % 256 ^ (i + 1) ≠ 0) = tb2 := ⟨_, rfl⟩
            rw [ht2] at HTM
            have HT2 := Lib.hid ht2
            clear ht2
            have HG2 := Lib.hid (Turn.new HG.out ((Turn.refl b wr).setCell J (.int .u8 (yv.toNat : Int))) HB.out)
            generalize yv.toNat = yn at *
            generalize y.toNat = yo at *
            generalize cb.toNat = cn at *
            cases tb with
            | true =>
              obtain rfl : tb2 = true := by rw [HTM.out]; rfl
              clear HTM
              go_wp2
              go_roundw
              case rel => exact ⟨i + 1, lst2, by go_num, by omega, by rw [HT2.out], HR2, HC3, HG2⟩
              case measure => simp only [intOf]; omega
            | false =>
              obtain rfl : tb2 = ((cn : Int) != 0) := by rw [HTM.out]; rfl
              clear HTM
              go_wp2
              go_roundw
              case rel => exact ⟨i + 1, lst2, by go_num, by omega, by rw [HT2.out], HR2, HC3, HG2⟩
              case measure => simp only [intOf]; omega
          · have a4 : ¬ (J : Int) < 13 := by omega
            have hi0 : 0 < i := by omega
            clear hJ
            by_cases htb : X % 256 ^ i = 0
            · have dt : decide (X % 256 ^ i ≠ 0) = false := by simp [htb]
              generalize decide (X % 256 ^ i ≠ 0) = tb at *
              subst dt
              clear htb
              go_wp2_with (go_at_call 12; ((with_reducible refine (CW.out _).mono ?_); rintro e y2 ⟨rfl, hg⟩; have HY2 := Lib.hid (grew_trans HG.out hg); clear hg))
              go_ret
              exact ⟨rfl, HY2.out⟩
            · have dt : decide (X % 256 ^ i ≠ 0) = true := by simp [htb]
              have HTB := Lib.hid htb
              generalize decide (X % 256 ^ i ≠ 0) = tb at *
              subst dt
              clear htb
              have HNONE := Lib.hid (HFN.out lst 1 K i S (by rw [← HX.out]; exact HC.out) HPK.out hS8 (by omega) (by rw [← HX.out]; exact HTB.out))
              have HF := Lib.hid (first_none (some ⟨b, 0, none⟩) N c2 lst wr HR.out.1 (fun h => by cases h) HC2.out.1 HC2.out.2 HNONE.out)
              go_wp2_with (first
                | (go_at_call 18; ((with_reducible refine HF.out.mono ?_); rintro e y1 ⟨hg, rfl⟩; have HY1 := Lib.hid (grew_trans HG.out hg); clear hg HF))
                | (go_at_call 12; ((with_reducible refine (CW.out _).mono ?_); rintro e y2 ⟨rfl, hg⟩; have HY2 := Lib.hid (grew_trans HY1.out hg); clear hg)))
              go_ret
              exact ⟨rfl, HY2.out⟩
        · have a3 : ¬ (i : Int) < 5 := by omega
          by_cases htb : X % 256 ^ i = 0
          · have dt : decide (X % 256 ^ i ≠ 0) = false := by simp [htb]
            generalize decide (X % 256 ^ i ≠ 0) = tb at *
            subst dt
            clear htb
            go_wp2_with (go_at_call 12; ((with_reducible refine (CW.out _).mono ?_); rintro e y2 ⟨rfl, hg⟩; have HY2 := Lib.hid (grew_trans HG.out hg); clear hg))
            go_ret
            exact ⟨rfl, HY2.out⟩
          · have dt : decide (X % 256 ^ i ≠ 0) = true := by simp [htb]
            have HTB := Lib.hid htb
            generalize decide (X % 256 ^ i ≠ 0) = tb at *
            subst dt
            clear htb
            have HNONE := Lib.hid (HFN.out lst 1 K i S (by rw [← HX.out]; exact HC.out) HPK.out hS8 (by omega) (by rw [← HX.out]; exact HTB.out))
            have HF := Lib.hid (first_none (some ⟨b, 0, none⟩) N c2 lst wr HR.out.1 (fun h => by cases h) HC2.out.1 HC2.out.2 HNONE.out)
            go_wp2_with (first
              | (go_at_call 18; ((with_reducible refine HF.out.mono ?_); rintro e y1 ⟨hg, rfl⟩; have HY1 := Lib.hid (grew_trans HG.out hg); clear hg HF))
              | (go_at_call 12; ((with_reducible refine (CW.out _).mono ?_); rintro e y2 ⟨rfl, hg⟩; have HY2 := Lib.hid (grew_trans HY1.out hg); clear hg)))
            go_ret
            exact ⟨rfl, HY2.out⟩
    · skip
      have z0 : (0 : Int) < (n : Int) := by omega
      have z1 : ((n : Int) == 0) = false := by simp; omega
      have z2 : (N : Int) - 21 = (n : Int) := by have := HN.out; omega
      have z3 : IntKind.u64.wrap (n : Int) = (n : Int) := by rw [IntKind.wrap_u64]; omega
      obtain ⟨K0, hK⟩ : ∃ K0 : Nat, U % (n : Int) = (K0 : Int) := ⟨(U % (n : Int)).toNat, by have := Int.emod_nonneg U (show (n : Int) ≠ 0 by omega); omega⟩
      have hK0 : K0 < n := by have := Int.emod_lt_of_pos U (show (0 : Int) < (n : Int) by omega); omega
      obtain ⟨K, hKe⟩ : ∃ K : Nat, K = 21 + K0 := ⟨_, rfl⟩
      have hKs : (21 : Int) + (K0 : Int) = (K : Int) := by omega
      have HPK : Hid (Part 5 K N) := Or.inr ⟨rfl, by omega, by have := HN.out; omega⟩
      have hKN : K < N := by have := HN.out; omega
      have hK1 : 21 ≤ K := by omega
      have z4 : ¬ ((n : Int) = 0) := by omega
      clear hKe
      go_upto_region 14 with (fail)
      clear z0 z1 z2 z3 z4
      clear hKU hKU2 hS wX hK hKs wN wB d6
      go_loopw [20, 21] (fun v20 v21 wr => ∃ (i : Nat) (lst : List UInt8), v21 = .int .i64 i ∧ i ≤ 5 ∧ v20 = .bool (decide (X % 256 ^ i ≠ 0)) ∧ Hid (RowU wr b N lst) ∧ Hid (Chg F lst 5 K i X) ∧ Hid (Grew w wr)) (fun _ v21 _ => 5 - (intOf v21).toNat)
      case atStart => exact ⟨0, F, rfl, by omega, by simp [Nat.mod_one], HR1, Chg.zero F 5 K X, HG1⟩
      case round =>
        clear HR1 HG1
        obtain ⟨i, lst, rfl, hi, rfl, HR, HC, HG⟩ := hrel
        by_cases hi5 : i < 5
        · have a3 : (i : Int) < 5 := by omega
          obtain ⟨J, hJ⟩ : ∃ J : Nat, J = K + i := ⟨_, rfl⟩
          have hJs : (K : Int) + (i : Int) = (J : Int) := by omega
          by_cases hJT : J < N
          · have a4 : (J : Int) < (N : Int) := by omega
            have a5 : (0 : Int) ≤ (J : Int) := by omega
            have a6 : (J : Int) < (N : Int) := by omega
            have hJN : J < N := by omega
            have a1 := HR.out.1.cell (j := J) hJN
            rw [Nat.zero_add] at a1
            have a2 := (HR.out.2.2 J hJN).2
            have e1 := byte_at X i
            have e2 := xor_u8 (lst.getD J 0) (UInt8.ofNat (X / 256 ^ i))
            have HR2 := Lib.hid (HR.out.set hJN (lst.getD J 0 ^^^ UInt8.ofNat (X / 256 ^ i)))
            have HC3 := Lib.hid (HC.out.step (by rw [HFL.out]; omega) (by omega) (show Part 5 (K + i) F.length by rw [HFL.out]; unfold Part; omega))
            rw [← hJ] at HC3
            clear hJ
            have HTM := Lib.hid (turned_more X i)
            generalize lst.set J (lst.getD J 0 ^^^ UInt8.ofNat (X / 256 ^ i)) = lst2 at *
            generalize lst.getD J 0 ^^^ UInt8.ofNat (X / 256 ^ i) = yv at *
            generalize lst.getD J 0 = y at *
            generalize UInt8.ofNat (X / 256 ^ i) = cb at *
            generalize decide (X % 256 ^ i ≠ 0) = tb at *
            obtain ⟨tb2, ht2⟩ : ∃ tb2, decide (X % 256 ^ (i + 1) ≠ 0) = tb2 := ⟨_, rfl⟩
            rw [ht2] at HTM
            have HT2 := Lib.hid ht2
            clear ht2
            have HG2 := Lib.hid (Turn.new HG.out ((Turn.refl b wr).setCell J (.int .u8 (yv.toNat : Int))) HB.out)
            generalize yv.toNat = yn at *
            generalize y.toNat = yo at *
            generalize cb.toNat = cn at *
            cases tb with
            | true =>
              obtain rfl : tb2 = true := by rw [HTM.out]; rfl
              clear HTM
              go_wp2
              go_roundw
              case rel => exact ⟨i + 1, lst2, by go_num, by omega, by rw [HT2.out], HR2, HC3, HG2⟩
              case measure => simp only [intOf]; omega
            | false =>
              obtain rfl : tb2 = ((cn : Int) != 0) := by rw [HTM.out]; rfl
              clear HTM
              go_wp2
              go_roundw
              case rel => exact ⟨i + 1, lst2, by go_num, by omega, by rw [HT2.out], HR2, HC3, HG2⟩
              case measure => simp only [intOf]; omega
          · have a4 : ¬ (J : Int) < (N : Int) := by omega
            have hi0 : 0 < i := by omega
            clear hJ
            by_cases htb : X % 256 ^ i = 0
            · have dt : decide (X % 256 ^ i ≠ 0) = false := by simp [htb]
              generalize decide (X % 256 ^ i ≠ 0) = tb at *
              subst dt
              clear htb
              go_wp2_with (go_at_call 12; ((with_reducible refine (CW.out _).mono ?_); rintro e y2 ⟨rfl, hg⟩; have HY2 := Lib.hid (grew_trans HG.out hg); clear hg))
              go_ret
              exact ⟨rfl, HY2.out⟩
            · have dt : decide (X % 256 ^ i ≠ 0) = true := by simp [htb]
              have HTB := Lib.hid htb
              generalize decide (X % 256 ^ i ≠ 0) = tb at *
              subst dt
              clear htb
              have HNONE := Lib.hid (HFN.out lst 5 K i S (by rw [← HX.out]; exact HC.out) HPK.out hS8 (by omega) (by rw [← HX.out]; exact HTB.out))
              have HF := Lib.hid (first_none (some ⟨b, 0, none⟩) N c2 lst wr HR.out.1 (fun h => by cases h) HC2.out.1 HC2.out.2 HNONE.out)
              go_wp2_with (first
                | (go_at_call 18; ((with_reducible refine HF.out.mono ?_); rintro e y1 ⟨hg, rfl⟩; have HY1 := Lib.hid (grew_trans HG.out hg); clear hg HF))
                | (go_at_call 12; ((with_reducible refine (CW.out _).mono ?_); rintro e y2 ⟨rfl, hg⟩; have HY2 := Lib.hid (grew_trans HY1.out hg); clear hg)))
              go_ret
              exact ⟨rfl, HY2.out⟩
        · have a3 : ¬ (i : Int) < 5 := by omega
          by_cases htb : X % 256 ^ i = 0
          · have dt : decide (X % 256 ^ i ≠ 0) = false := by simp [htb]
            generalize decide (X % 256 ^ i ≠ 0) = tb at *
            subst dt
            clear htb
            go_wp2_with (go_at_call 12; ((with_reducible refine (CW.out _).mono ?_); rintro e y2 ⟨rfl, hg⟩; have HY2 := Lib.hid (grew_trans HG.out hg); clear hg))
            go_ret
            exact ⟨rfl, HY2.out⟩
          · have dt : decide (X % 256 ^ i ≠ 0) = true := by simp [htb]
            have HTB := Lib.hid htb
            generalize decide (X % 256 ^ i ≠ 0) = tb at *
            subst dt
            clear htb
            have HNONE := Lib.hid (HFN.out lst 5 K i S (by rw [← HX.out]; exact HC.out) HPK.out hS8 (by omega) (by rw [← HX.out]; exact HTB.out))
            have HF := Lib.hid (first_none (some ⟨b, 0, none⟩) N c2 lst wr HR.out.1 (fun h => by cases h) HC2.out.1 HC2.out.2 HNONE.out)
            go_wp2_with (first
              | (go_at_call 18; ((with_reducible refine HF.out.mono ?_); rintro e y1 ⟨hg, rfl⟩; have HY1 := Lib.hid (grew_trans HG.out hg); clear hg HF))
              | (go_at_call 12; ((with_reducible refine (CW.out _).mono ?_); rintro e y2 ⟨rfl, hg⟩; have HY2 := Lib.hid (grew_trans HY1.out hg); clear hg)))
            go_ret
            exact ⟨rfl, HY2.out⟩
  · skip
    obtain ⟨K0, hK⟩ : ∃ K0 : Nat, U % 12 = (K0 : Int) := ⟨(U % 12).toNat, by omega⟩
    have hK0 : K0 < 12 := by omega
    obtain ⟨K, hKe⟩ : ∃ K : Nat, K = 1 + K0 := ⟨_, rfl⟩
    have hKs : (1 : Int) + (K0 : Int) = (K : Int) := by omega
    have HPK : Hid (Part 1 K N) := Or.inl ⟨rfl, by omega, by omega⟩
    have hK1 : 1 ≤ K := by omega
    have hKN : K < 13 := by omega
    clear hKe
    go_upto_region 14 with (fail)
    clear hKU hKU2 hS wX hK hKs wN wB d6
    go_loopw [20, 21] (fun v20 v21 wr => ∃ (i : Nat) (lst : List UInt8), v21 = .int .i64 i ∧ i ≤ 5 ∧ v20 = .bool (decide (X % 256 ^ i ≠ 0)) ∧ Hid (RowU wr b N lst) ∧ Hid (Chg F lst 1 K i X) ∧ Hid (Grew w wr)) (fun _ v21 _ => 5 - (intOf v21).toNat)
    case atStart => exact ⟨0, F, rfl, by omega, by simp [Nat.mod_one], HR1, Chg.zero F 1 K X, HG1⟩
    case round =>
      clear HR1 HG1
      obtain ⟨i, lst, rfl, hi, rfl, HR, HC, HG⟩ := hrel
      by_cases hi5 : i < 5
      · have a3 : (i : Int) < 5 := by omega
        obtain ⟨J, hJ⟩ : ∃ J : Nat, J = K + i := ⟨_, rfl⟩
        have hJs : (K : Int) + (i : Int) = (J : Int) := by omega
        by_cases hJT : J < 13
        · have a4 : (J : Int) < 13 := by omega
          have a5 : (0 : Int) ≤ (J : Int) := by omega
          have a6 : (J : Int) < (N : Int) := by omega
          have hJN : J < N := by omega
          have a1 := HR.out.1.cell (j := J) hJN
          rw [Nat.zero_add] at a1
          have a2 := (HR.out.2.2 J hJN).2
          have e1 := byte_at X i
          have e2 := xor_u8 (lst.getD J 0) (UInt8.ofNat (X / 256 ^ i))
          have HR2 := Lib.hid (HR.out.set hJN (lst.getD J 0 ^^^ UInt8.ofNat (X / 256 ^ i)))
          have HC3 := Lib.hid (HC.out.step (by rw [HFL.out]; omega) (by omega) (show Part 1 (K + i) F.length by rw [HFL.out]; unfold Part; omega))
          rw [← hJ] at HC3
          clear hJ
          have HTM := Lib.hid (turned_more X i)
          generalize lst.set J (lst.getD J 0 ^^^ UInt8.ofNat (X / 256 ^ i)) = lst2 at *
          generalize lst.getD J 0 ^^^ UInt8.ofNat (X / 256 ^ i) = yv at *
          generalize lst.getD J 0 = y at *
          generalize UInt8.ofNat (X / 256 ^ i) = cb at *
          generalize decide (X % 256 ^ i ≠ 0) = tb at *
          obtain ⟨tb2, ht2⟩ : ∃ tb2, decide (X % 256 ^ (i + 1) ≠ 0) = tb2 := ⟨_, rfl⟩
          rw [ht2] at HTM
          have HT2 := Lib.hid ht2
          clear ht2
          have HG2 := Lib.hid (Turn.new HG.out ((Turn.refl b wr).setCell J (.int .u8 (yv.toNat : Int))) HB.out)
          generalize yv.toNat = yn at *
          generalize y.toNat = yo at *
          generalize cb.toNat = cn at *
          cases tb with
          | true =>
            obtain rfl : tb2 = true := by rw [HTM.out]; rfl
            clear HTM
            go_wp2
            go_roundw
            case rel => exact ⟨i + 1, lst2, by go_num, by omega, by rw [HT2.out], HR2, HC3, HG2⟩
            case measure => simp only [intOf]; omega
          | false =>
            obtain rfl : tb2 = ((cn : Int) != 0) := by rw [HTM.out]; rfl
            clear HTM
            go_wp2
            go_roundw
            case rel => exact ⟨i + 1, lst2, by go_num, by omega, by rw [HT2.out], HR2, HC3, HG2⟩
            case measure => simp only [intOf]; omega
        · have a4 : ¬ (J : Int) < 13 := by omega
          have hi0 : 0 < i := by omega
          clear hJ
          by_cases htb : X % 256 ^ i = 0
          · have dt : decide (X % 256 ^ i ≠ 0) = false := by simp [htb]
            generalize decide (X % 256 ^ i ≠ 0) = tb at *
            subst dt
            clear htb
            go_wp2_with (go_at_call 12; ((with_reducible refine (CW.out _).mono ?_); rintro e y2 ⟨rfl, hg⟩; have HY2 := Lib.hid (grew_trans HG.out hg); clear hg))
            go_ret
            exact ⟨rfl, HY2.out⟩
          · have dt : decide (X % 256 ^ i ≠ 0) = true := by simp [htb]
            have HTB := Lib.hid htb
            generalize decide (X % 256 ^ i ≠ 0) = tb at *
            subst dt
            clear htb
            have HNONE := Lib.hid (HFN.out lst 1 K i S (by rw [← HX.out]; exact HC.out) HPK.out hS8 (by omega) (by rw [← HX.out]; exact HTB.out))
            have HF := Lib.hid (first_none (some ⟨b, 0, none⟩) N c2 lst wr HR.out.1 (fun h => by cases h) HC2.out.1 HC2.out.2 HNONE.out)
            go_wp2_with (first
              | (go_at_call 18; ((with_reducible refine HF.out.mono ?_); rintro e y1 ⟨hg, rfl⟩; have HY1 := Lib.hid (grew_trans HG.out hg); clear hg HF))
              | (go_at_call 12; ((with_reducible refine (CW.out _).mono ?_); rintro e y2 ⟨rfl, hg⟩; have HY2 := Lib.hid (grew_trans HY1.out hg); clear hg)))
            go_ret
            exact ⟨rfl, HY2.out⟩
      · have a3 : ¬ (i : Int) < 5 := by omega
        by_cases htb : X % 256 ^ i = 0
        · have dt : decide (X % 256 ^ i ≠ 0) = false := by simp [htb]
          generalize decide (X % 256 ^ i ≠ 0) = tb at *
          subst dt
          clear htb
          go_wp2_with (go_at_call 12; ((with_reducible refine (CW.out _).mono ?_); rintro e y2 ⟨rfl, hg⟩; have HY2 := Lib.hid (grew_trans HG.out hg); clear hg))
          go_ret
          exact ⟨rfl, HY2.out⟩
        · have dt : decide (X % 256 ^ i ≠ 0) = true := by simp [htb]
          have HTB := Lib.hid htb
          generalize decide (X % 256 ^ i ≠ 0) = tb at *
          subst dt
          clear htb
          have HNONE := Lib.hid (HFN.out lst 1 K i S (by rw [← HX.out]; exact HC.out) HPK.out hS8 (by omega) (by rw [← HX.out]; exact HTB.out))
          have HF := Lib.hid (first_none (some ⟨b, 0, none⟩) N c2 lst wr HR.out.1 (fun h => by cases h) HC2.out.1 HC2.out.2 HNONE.out)
          go_wp2_with (first
            | (go_at_call 18; ((with_reducible refine HF.out.mono ?_); rintro e y1 ⟨hg, rfl⟩; have HY1 := Lib.hid (grew_trans HG.out hg); clear hg HF))
            | (go_at_call 12; ((with_reducible refine (CW.out _).mono ?_); rintro e y2 ⟨rfl, hg⟩; have HY2 := Lib.hid (grew_trans HY1.out hg); clear hg)))
          go_ret
          exact ⟨rfl, HY2.out⟩

theorem frameSpoilt_row (gen no at' sh b32 : Int) (A : Option Addr) (n c : Nat) (l : List Int) (w : World) (h : Row (spInt .u8) w A n l) (hA : A = none → c = 0) (hc : n ≤ c) (h0 : 0 ≤ b32) (h1 : b32 ≤ 4294967295) :
    Calls Try.prog 7 #[.int .i64 gen, .int .i64 no, .slice A n c, .int .i64 at', .int .u32 b32, .int .i64 sh] w fun e w' => e = .returned (.bool true) ∧ Grew w w' := by
  obtain ⟨xs, hx⟩ := bys_of_row h
  obtain ⟨B, rfl⟩ : ∃ B : Nat, b32 = (B : Int) := ⟨b32.toNat, by omega⟩
  exact frameSpoilt_walk gen no at' sh A n c B xs w hx hA hc (by omega)
end Go.Proofs.Ytogncnoheodgbaa.NumK
