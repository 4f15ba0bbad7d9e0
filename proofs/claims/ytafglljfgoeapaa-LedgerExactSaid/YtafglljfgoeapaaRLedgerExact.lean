/-
  For every ledger, of whatever number and balances, every number, every slice of legs, every account, every currency and every slice of kinds: whether the ledger is right, what the account has, what stands behind the posting, or the error, and the total are what the reference tells (P10.1 to P10.3); the ledger stays, what is told is new memory; more than 200 balances, legs or kinds the statement lets by.
-/
import Derived.Test.YtafglljfgoeapaaRS
import Derived.Test.YtafglljfgoeapaaRows
import Derived.WalkKit
import Derived.ProofKit
import Derived.OpenShut
import Derived.ShutString
import Derived.ChangeOld
import Derived.Below
import Derived.Carry
namespace Go.Proofs.Ytafglljfgoeapaa.NumK
open Go.RowKit
set_option linter.unusedVariables false

theorem exact_keep {w w1 w' : World} {last k m r : Int} {A A1 : Option Addr} {n c c1 : Nat} {l : List Lg} {t1 t2 t3 : TypeId} (hg : Grew ((w.alloc (.cells #[.int .i64 last, .slice A n c] t1)).alloc (.cells #[.int .i64 k, .int .i64 m, .int .i64 r] t2)) w1) (ho : RowE enLg w1 A1 n l)
    (g : Grew (w1.alloc (.cells #[.int .i64 last, .slice A1 n c1] t3)) w') :
    (w'.cell? ⟨w.heap.size, 0, none⟩ = some (.int .i64 last) ∧ w'.cell? ⟨w.heap.size, 1, none⟩ = some (.slice A n c)) ∧ (w'.cell? ⟨w.heap.size + 1, 0, none⟩ = some (.int .i64 k) ∧ w'.cell? ⟨w.heap.size + 1, 1, none⟩ = some (.int .i64 m) ∧ w'.cell? ⟨w.heap.size + 1, 2, none⟩ = some (.int .i64 r))
    ∧ (w'.cell? ⟨w1.heap.size, 0, none⟩ = some (.int .i64 last) ∧ w'.cell? ⟨w1.heap.size, 1, none⟩ = some (.slice A1 n c1)) ∧ Grew w w' ∧ RowE enLg w' A1 n l := by
  obtain ⟨t1, t2, hw⟩ := two_cells (grew_trans hg (own_back g))
  exact ⟨⟨t1 0, t1 1⟩, ⟨t2 0, t2 1, t2 2⟩, ⟨own_cell g 0, own_cell g 1⟩, hw, ho.keep (own_back g)⟩

theorem own_row {w : World} {base n c : Nat} {A : Option Addr} {l : List Lg} {t : TypeId} (h : OwnE enLg w base t (.slice A n c) l) : RowE enLg w A n l := by
  obtain ⟨A', c', e, hr, _⟩ := h.form
  cases e; exact hr

set_option maxRecDepth 100000 in
set_option maxHeartbeats 8000000 in
theorem ledgerExact_walk (last id k m r cur : Int) (A B K : Option Addr) (n c bn bc kn kc : Nat) (l ls : List Lg) (ks : List Int) (w : World) (h : RowE enLg w A n l) (hA : A = none → c = 0) (hn : n ≤ 9223372036854775807) (h2 : RowE enLg w B bn ls) (hB : B = none → bc = 0) (hbn : bn ≤ 9223372036854775807) (h3 : Ints w K kn ks) (hkn : kn ≤ 9223372036854775807) :
    Calls Try.prog 3 #[ldV last A n c, .int .i64 id, .slice B bn bc, acV k m r, .int .i64 cur, .slice K kn kc] w fun e w' => e = .returned (.bool true) ∧ Grew w w' := by
  by_cases z1 : (200 : Int) < (n : Int)
  · unfold ldV acV
    go_enter Try.func3, Try.ntmps3
    go_wp2
    go_ret
    exact ⟨rfl, grew_trans (grew_alloc _ _ _) (grew_alloc _ _ _)⟩
  by_cases z2 : (200 : Int) < (bn : Int)
  · unfold ldV acV
    go_enter Try.func3, Try.ntmps3
    go_wp2
    go_ret
    exact ⟨rfl, grew_trans (grew_alloc _ _ _) (grew_alloc _ _ _)⟩
  by_cases z3 : (200 : Int) < (kn : Int)
  · unfold ldV acV
    go_enter Try.func3, Try.ntmps3
    go_wp2
    go_ret
    exact ⟨rfl, grew_trans (grew_alloc _ _ _) (grew_alloc _ _ _)⟩
  have HI := Lib.hid h
  have HJ := Lib.hid h2
  have HK := Lib.hid h3
  have hn2 : n ≤ 200 := by omega
  have hbn2 : bn ≤ 200 := by omega
  have hkn2 : kn ≤ 200 := by omega
  have CT := fun w (h : RowE enLg w A n l) => twinLedger_any last A n c l w h hA (by omega)
  have CRL := fun w h => rledger_any last A n c l w h (by omega)
  have CCK := fun A1 c1 w h => lcheck_any last A1 n c1 l w h (by omega)
  have CO1 := fun A1 c1 w h => lof_any last A1 n c1 l k m r w h (by omega)
  have CO2 := fun w h => rof_any last A n c l k m r w h (by omega)
  have CP1 := fun A1 c1 w h h2 => lpost_any last id A1 B n c1 bn bc l ls w h h2 hB (by omega) (by omega)
  have CP2 := fun w h h2 => rpost_any last id A B n c bn bc l ls w h h2 hB (by omega) (by omega)
  have CTT := fun A1 c1 w h hk => ltotal_any last cur A1 K n c1 kn kc l ks w h hk (by omega) (by omega)
  have CLE := fun A1 c1 w h h2 => ledger_yes last A1 A n c1 c l w h h2 (by omega)
  have WK := fun w => wakes10_any w
  have CKP : ∀ A4 c4 A5 c5 w b4 b5, OwnE enLg w b4 64 (.slice A4 (postL last l id ls).length c4) (postL last l id ls) → OwnE enLg w b5 64 (.slice A5 (postL last l id ls).length c5) (postL last l id ls) →
      Calls Try.prog 17 #[.agg #[.int .i64 (postN last l id ls), .slice A4 (postL last l id ls).length c4], .agg #[.int .i64 (postN last l id ls), .slice A5 (postL last l id ls).length c5]] w fun e w' => e = .returned (.bool true) ∧ Grew w w' := by
    intro A4 c4 A5 c5 w b4 b5 h4 h5
    obtain ⟨A', c', e, hr4, _⟩ := h4.form
    cases e
    obtain ⟨A', c', e, hr5, _⟩ := h5.form
    cases e
    refine ledger_yes _ _ _ _ _ _ _ w hr4 hr5 ?_
    unfold postL
    split
    · exact Nat.le_trans (joinF_len _ _) (by omega)
    · simp
  have CSP : ∀ A4 c4 w b4, b4 ≤ w.heap.size → OwnE enLg w b4 64 (.slice A4 (postL last l id ls).length c4) (postL last l id ls) → Calls Try.prog 18 #[.agg #[.int .i64 (postN last l id ls), .slice A4 (postL last l id ls).length c4]] w fun e w' => e = .returned (.tuple #[]) ∧ Below b4 w w' := by
    intro A4 c4 w b4 hb h4
    obtain ⟨A', c', e, hs⟩ := h4.slab
    cases e
    refine spoilLedger_any _ _ _ _ b4 w hs ?_ hb
    unfold postL
    split
    · exact Nat.le_trans (joinF_len _ _) (by omega)
    · simp
  unfold PostP at CP1 CP2
  generalize postN last l id ls = PN at *
  generalize postL last l id ls = PL at *
  generalize postE last l id ls = PE at *
  generalize PL.length = PLn at *
  clear h h2 h3 hA hB hn hbn hkn z1 z2 z3
  by_cases hV : ledgerB last l = true
  · rw [hV] at CRL
    rw [if_pos hV] at CCK
    unfold totV totE at CTT
    rw [if_pos hV, if_pos hV] at CTT
    have CRT := fun w h hk => rtotal_any last cur A K n c kn kc l ks w h hk (rightB_may (ledger_parts hV).2.1) (by omega) (by omega)
    generalize sumK l cur ks = s at *
    cases hm : isMoney s
    · rw [hm, intV_out hm] at CRT
      rw [capV_out hm, capE_out hm] at CTT
      clear hm hV
      unfold ldV acV at *
      go_enter Try.func3, Try.ntmps3
      go_wp2_with (first
        | (go_at_call 10; ((with_reducible refine (CT _ (HI.out.keep (grew_trans (grew_alloc _ _ _) (grew_alloc _ _ _)))).mono ?_); rintro e w1 ⟨A1, c1, rfl, ho, hg⟩; have hr := own_row ho; have HC := Lib.hid (fun w' g => exact_keep (w' := w') (c1 := c1) (t3 := 24) hg hr g); have e0 : w1.cell? ⟨w.heap.size, 0, none⟩ = some (.int .i64 last) := (two_cells hg).1 0; have e1 : w1.cell? ⟨w.heap.size, 1, none⟩ = some (.slice A n c) := (two_cells hg).1 1; have hw1 : w.heap.size < w1.heap.size := (by have := hg.size; simp at this; omega); have HSZ : Hid (∀ w', Grew (w1.alloc (.cells #[.int .i64 last, .slice A1 n c1] 24)) w' → w.heap.size < w'.heap.size) := (fun w' g => by have := hg.size; have := (own_back g).size; simp at *; omega); clear ho hr hg CT))
        | (go_at_call 11; ((with_reducible refine (CRL _ (HI.out.keep (HC.out _ (grew_refl _)).2.2.2.1)).mono ?_); rintro e w2 ⟨rfl, hg⟩; have G2 := Lib.hid hg; clear hg CRL e0 e1 hw1)))
      have HC2 := Lib.hid (fun w' (g : Grew w2 w') => HC.out w' (grew_trans G2.out g))
      have x0 : ∀ p : GrewTo w2, p.to.cell? ⟨w.heap.size, 0, none⟩ = _ := fun p => (HC2.out _ p.h).1.1
      have x1 : ∀ p : GrewTo w2, p.to.cell? ⟨w.heap.size, 1, none⟩ = _ := fun p => (HC2.out _ p.h).1.2
      have x2 : ∀ p : GrewTo w2, p.to.cell? ⟨w.heap.size + 1, 0, none⟩ = _ := fun p => (HC2.out _ p.h).2.1.1
      have x3 : ∀ p : GrewTo w2, p.to.cell? ⟨w.heap.size + 1, 1, none⟩ = _ := fun p => (HC2.out _ p.h).2.1.2.1
      have x4 : ∀ p : GrewTo w2, p.to.cell? ⟨w.heap.size + 1, 2, none⟩ = _ := fun p => (HC2.out _ p.h).2.1.2.2
      have x5 : ∀ p : GrewTo w2, p.to.cell? ⟨w1.heap.size, 0, none⟩ = _ := fun p => (HC2.out _ p.h).2.2.1.1
      have x6 : ∀ p : GrewTo w2, p.to.cell? ⟨w1.heap.size, 1, none⟩ = _ := fun p => (HC2.out _ p.h).2.2.1.2
      have CK := fun p : GrewTo w2 => CCK A1 c1 p.to (HC2.out _ p.h).2.2.2.2
      have CX := fun p : GrewTo w2 => CO1 A1 c1 p.to (HC2.out _ p.h).2.2.2.2
      have CY := fun p : GrewTo w2 => CO2 p.to (HI.out.keep (HC2.out _ p.h).2.2.2.1)
      go_upto_region 5 with fail
      refine wp_region_grew (by kernel_rfl) (by kernel_rfl) ?_
      repeat (go_big_quiet_step (first | with_reducible exact calls_grew (CK _) | with_reducible exact calls_grew (CX _) | with_reducible exact calls_grew (CY _)))
      refine wpQuiet_nil ?_
      intro w3 hw'
      have G3 := Lib.hid (grew_trans G2.out (grew_of hw'))
      obtain ⟨-, -, ⟨s0, s1⟩, -⟩ := HC.out _ G3.out
      clear hw' x0 x1 x2 x3 x4 x5 x6 HC2 CK CX CY
      go_wp2_with (first
        | (go_at_call 15; ((with_reducible refine (CP1 _ _ _ (HC.out _ G3.out).2.2.2.2 (HJ.out.keep (HC.out _ G3.out).2.2.2.1)).mono ?_); rintro e w4 ⟨A4, c4, rfl, ho, hg⟩; have HO4 := Lib.hid ho; have G34 := Lib.hid hg; have G4 := Lib.hid (grew_trans G3.out hg); obtain ⟨⟨e0, e1⟩, -⟩ := HC.out _ G4.out; have hw4 : w.heap.size < w4.heap.size := (HSZ.out _ G4.out); clear ho hg CP1))
        | (go_at_call 16; ((with_reducible refine (CP2 _ (HI.out.keep (HC.out _ (grew_trans G4.out (grew_alloc _ _ _))).2.2.2.1) (HJ.out.keep (HC.out _ (grew_trans G4.out (grew_alloc _ _ _))).2.2.2.1)).mono ?_); rintro e w5 ⟨A5, c5, rfl, ho, hg⟩; have HO5 := Lib.hid ho; have HO45 := Lib.hid (HO4.out.keep (own_back hg)); have y0 : w5.cell? ⟨w4.heap.size, 0, none⟩ = some (.int .i64 PN) := own_cell hg 0; have y1 : w5.cell? ⟨w4.heap.size, 1, none⟩ = some (.slice A4 PLn c4) := own_cell hg 1; have hy : w4.heap.size < w5.heap.size := own_lt hg; have G5 := Lib.hid (grew_trans G4.out (own_back hg)); clear ho hg CP2 e0 e1 hw4))
        | (go_at_call 17; ((with_reducible refine (CKP _ _ _ _ _ _ _ (HO45.out.keep (grew_alloc _ _ _)) (HO5.out.keep (grew_alloc _ _ _))).mono ?_); rintro e w6 ⟨rfl, hg⟩; have y2 : w6.cell? ⟨w4.heap.size, 0, none⟩ = some (.int .i64 PN) := (grew_cell (own_back hg) (p := ⟨w4.heap.size, 0, none⟩) hy).trans y0; have y3 : w6.cell? ⟨w4.heap.size, 1, none⟩ = some (.slice A4 PLn c4) := (grew_cell (own_back hg) (p := ⟨w4.heap.size, 1, none⟩) hy).trans y1; have HO6 := Lib.hid (HO45.out.keep (own_back hg)); have G6 := Lib.hid (grew_trans G5.out (own_back hg)); have hb36 : w3.heap.size ≤ w6.heap.size := Nat.le_trans G34.out.size (Nat.le_trans (Nat.le_of_lt hy) (Nat.le_of_lt (own_lt hg))); clear hg CKP y0 y1))
        | (go_at_call 18; ((with_reducible refine (CSP _ _ _ _ hb36 HO6.out).mono ?_); rintro e w7 ⟨rfl, hg⟩; have G7 := Lib.hid (grew_below G6.out hg G3.out.size); obtain ⟨-, -, ⟨s0, s1⟩, -⟩ := HC.out _ G7.out; clear hg CSP y2 y3))
        | (go_at_call 19; ((with_reducible refine (CTT _ _ _ (HC.out _ G7.out).2.2.2.2 (HK.out.keep (HC.out _ G7.out).2.2.2.1)).mono ?_); rintro e w8 ⟨rfl, hg⟩; have G8 := Lib.hid (grew_trans G7.out hg); clear s0 s1; obtain ⟨⟨e0, e1⟩, -⟩ := HC.out _ G8.out; obtain ⟨-, -, ⟨s0, s1⟩, -⟩ := HC.out _ G8.out; clear hg CTT))
        | (go_at_call 20; ((with_reducible refine (CRT _ (HI.out.keep (HC.out _ G8.out).2.2.2.1) (HK.out.keep (HC.out _ G8.out).2.2.2.1)).mono ?_); rintro e w9 ⟨rfl, hg⟩; have G9 := Lib.hid (grew_trans G8.out hg); clear s0 s1 e0 e1; obtain ⟨⟨e0, e1⟩, -⟩ := HC.out _ G9.out; obtain ⟨-, -, ⟨s0, s1⟩, -⟩ := HC.out _ G9.out; clear hg CRT))
        | (go_at_call 17; ((with_reducible refine (CLE _ _ _ (HC.out _ G9.out).2.2.2.2 (HI.out.keep (HC.out _ G9.out).2.2.2.1)).mono ?_); rintro e w10 ⟨rfl, hg⟩; have G10 := Lib.hid (grew_trans G9.out hg); clear hg))
        | (go_at_call 21; ((with_reducible refine (WK _).mono ?_); rintro e w11 ⟨rfl, hg⟩; have G11 := Lib.hid (grew_trans G10.out hg); clear hg)))
      go_ret
      exact ⟨rfl, (HC.out _ G11.out).2.2.2.1⟩
    · rw [hm, intV_in hm] at CRT
      rw [capV_in hm, capE_in hm] at CTT
      clear hm hV
      unfold ldV acV at *
      go_enter Try.func3, Try.ntmps3
      go_wp2_with (first
        | (go_at_call 10; ((with_reducible refine (CT _ (HI.out.keep (grew_trans (grew_alloc _ _ _) (grew_alloc _ _ _)))).mono ?_); rintro e w1 ⟨A1, c1, rfl, ho, hg⟩; have hr := own_row ho; have HC := Lib.hid (fun w' g => exact_keep (w' := w') (c1 := c1) (t3 := 24) hg hr g); have e0 : w1.cell? ⟨w.heap.size, 0, none⟩ = some (.int .i64 last) := (two_cells hg).1 0; have e1 : w1.cell? ⟨w.heap.size, 1, none⟩ = some (.slice A n c) := (two_cells hg).1 1; have hw1 : w.heap.size < w1.heap.size := (by have := hg.size; simp at this; omega); have HSZ : Hid (∀ w', Grew (w1.alloc (.cells #[.int .i64 last, .slice A1 n c1] 24)) w' → w.heap.size < w'.heap.size) := (fun w' g => by have := hg.size; have := (own_back g).size; simp at *; omega); clear ho hr hg CT))
        | (go_at_call 11; ((with_reducible refine (CRL _ (HI.out.keep (HC.out _ (grew_refl _)).2.2.2.1)).mono ?_); rintro e w2 ⟨rfl, hg⟩; have G2 := Lib.hid hg; clear hg CRL e0 e1 hw1)))
      have HC2 := Lib.hid (fun w' (g : Grew w2 w') => HC.out w' (grew_trans G2.out g))
      have x0 : ∀ p : GrewTo w2, p.to.cell? ⟨w.heap.size, 0, none⟩ = _ := fun p => (HC2.out _ p.h).1.1
      have x1 : ∀ p : GrewTo w2, p.to.cell? ⟨w.heap.size, 1, none⟩ = _ := fun p => (HC2.out _ p.h).1.2
      have x2 : ∀ p : GrewTo w2, p.to.cell? ⟨w.heap.size + 1, 0, none⟩ = _ := fun p => (HC2.out _ p.h).2.1.1
      have x3 : ∀ p : GrewTo w2, p.to.cell? ⟨w.heap.size + 1, 1, none⟩ = _ := fun p => (HC2.out _ p.h).2.1.2.1
      have x4 : ∀ p : GrewTo w2, p.to.cell? ⟨w.heap.size + 1, 2, none⟩ = _ := fun p => (HC2.out _ p.h).2.1.2.2
      have x5 : ∀ p : GrewTo w2, p.to.cell? ⟨w1.heap.size, 0, none⟩ = _ := fun p => (HC2.out _ p.h).2.2.1.1
      have x6 : ∀ p : GrewTo w2, p.to.cell? ⟨w1.heap.size, 1, none⟩ = _ := fun p => (HC2.out _ p.h).2.2.1.2
      have CK := fun p : GrewTo w2 => CCK A1 c1 p.to (HC2.out _ p.h).2.2.2.2
      have CX := fun p : GrewTo w2 => CO1 A1 c1 p.to (HC2.out _ p.h).2.2.2.2
      have CY := fun p : GrewTo w2 => CO2 p.to (HI.out.keep (HC2.out _ p.h).2.2.2.1)
      go_upto_region 5 with fail
      refine wp_region_grew (by kernel_rfl) (by kernel_rfl) ?_
      repeat (go_big_quiet_step (first | with_reducible exact calls_grew (CK _) | with_reducible exact calls_grew (CX _) | with_reducible exact calls_grew (CY _)))
      refine wpQuiet_nil ?_
      intro w3 hw'
      have G3 := Lib.hid (grew_trans G2.out (grew_of hw'))
      obtain ⟨-, -, ⟨s0, s1⟩, -⟩ := HC.out _ G3.out
      clear hw' x0 x1 x2 x3 x4 x5 x6 HC2 CK CX CY
      go_wp2_with (first
        | (go_at_call 15; ((with_reducible refine (CP1 _ _ _ (HC.out _ G3.out).2.2.2.2 (HJ.out.keep (HC.out _ G3.out).2.2.2.1)).mono ?_); rintro e w4 ⟨A4, c4, rfl, ho, hg⟩; have HO4 := Lib.hid ho; have G34 := Lib.hid hg; have G4 := Lib.hid (grew_trans G3.out hg); obtain ⟨⟨e0, e1⟩, -⟩ := HC.out _ G4.out; have hw4 : w.heap.size < w4.heap.size := (HSZ.out _ G4.out); clear ho hg CP1))
        | (go_at_call 16; ((with_reducible refine (CP2 _ (HI.out.keep (HC.out _ (grew_trans G4.out (grew_alloc _ _ _))).2.2.2.1) (HJ.out.keep (HC.out _ (grew_trans G4.out (grew_alloc _ _ _))).2.2.2.1)).mono ?_); rintro e w5 ⟨A5, c5, rfl, ho, hg⟩; have HO5 := Lib.hid ho; have HO45 := Lib.hid (HO4.out.keep (own_back hg)); have y0 : w5.cell? ⟨w4.heap.size, 0, none⟩ = some (.int .i64 PN) := own_cell hg 0; have y1 : w5.cell? ⟨w4.heap.size, 1, none⟩ = some (.slice A4 PLn c4) := own_cell hg 1; have hy : w4.heap.size < w5.heap.size := own_lt hg; have G5 := Lib.hid (grew_trans G4.out (own_back hg)); clear ho hg CP2 e0 e1 hw4))
        | (go_at_call 17; ((with_reducible refine (CKP _ _ _ _ _ _ _ (HO45.out.keep (grew_alloc _ _ _)) (HO5.out.keep (grew_alloc _ _ _))).mono ?_); rintro e w6 ⟨rfl, hg⟩; have y2 : w6.cell? ⟨w4.heap.size, 0, none⟩ = some (.int .i64 PN) := (grew_cell (own_back hg) (p := ⟨w4.heap.size, 0, none⟩) hy).trans y0; have y3 : w6.cell? ⟨w4.heap.size, 1, none⟩ = some (.slice A4 PLn c4) := (grew_cell (own_back hg) (p := ⟨w4.heap.size, 1, none⟩) hy).trans y1; have HO6 := Lib.hid (HO45.out.keep (own_back hg)); have G6 := Lib.hid (grew_trans G5.out (own_back hg)); have hb36 : w3.heap.size ≤ w6.heap.size := Nat.le_trans G34.out.size (Nat.le_trans (Nat.le_of_lt hy) (Nat.le_of_lt (own_lt hg))); clear hg CKP y0 y1))
        | (go_at_call 18; ((with_reducible refine (CSP _ _ _ _ hb36 HO6.out).mono ?_); rintro e w7 ⟨rfl, hg⟩; have G7 := Lib.hid (grew_below G6.out hg G3.out.size); obtain ⟨-, -, ⟨s0, s1⟩, -⟩ := HC.out _ G7.out; clear hg CSP y2 y3))
        | (go_at_call 19; ((with_reducible refine (CTT _ _ _ (HC.out _ G7.out).2.2.2.2 (HK.out.keep (HC.out _ G7.out).2.2.2.1)).mono ?_); rintro e w8 ⟨rfl, hg⟩; have G8 := Lib.hid (grew_trans G7.out hg); clear s0 s1; obtain ⟨⟨e0, e1⟩, -⟩ := HC.out _ G8.out; obtain ⟨-, -, ⟨s0, s1⟩, -⟩ := HC.out _ G8.out; clear hg CTT))
        | (go_at_call 20; ((with_reducible refine (CRT _ (HI.out.keep (HC.out _ G8.out).2.2.2.1) (HK.out.keep (HC.out _ G8.out).2.2.2.1)).mono ?_); rintro e w9 ⟨rfl, hg⟩; have G9 := Lib.hid (grew_trans G8.out hg); clear s0 s1 e0 e1; obtain ⟨⟨e0, e1⟩, -⟩ := HC.out _ G9.out; obtain ⟨-, -, ⟨s0, s1⟩, -⟩ := HC.out _ G9.out; clear hg CRT))
        | (go_at_call 17; ((with_reducible refine (CLE _ _ _ (HC.out _ G9.out).2.2.2.2 (HI.out.keep (HC.out _ G9.out).2.2.2.1)).mono ?_); rintro e w10 ⟨rfl, hg⟩; have G10 := Lib.hid (grew_trans G9.out hg); clear hg))
        | (go_at_call 21; ((with_reducible refine (WK _).mono ?_); rintro e w11 ⟨rfl, hg⟩; have G11 := Lib.hid (grew_trans G10.out hg); clear hg)))
      go_ret
      exact ⟨rfl, (HC.out _ G11.out).2.2.2.1⟩
  · rw [if_neg hV] at CCK
    unfold totV totE at CTT
    rw [if_neg hV, if_neg hV] at CTT
    rw [Bool.not_eq_true] at hV
    rw [hV] at CRL
    clear hV
    unfold ldV acV at *
    go_enter Try.func3, Try.ntmps3
    go_wp2_with (first
      | (go_at_call 10; ((with_reducible refine (CT _ (HI.out.keep (grew_trans (grew_alloc _ _ _) (grew_alloc _ _ _)))).mono ?_); rintro e w1 ⟨A1, c1, rfl, ho, hg⟩; have hr := own_row ho; have HC := Lib.hid (fun w' g => exact_keep (w' := w') (c1 := c1) (t3 := 24) hg hr g); have e0 : w1.cell? ⟨w.heap.size, 0, none⟩ = some (.int .i64 last) := (two_cells hg).1 0; have e1 : w1.cell? ⟨w.heap.size, 1, none⟩ = some (.slice A n c) := (two_cells hg).1 1; have hw1 : w.heap.size < w1.heap.size := (by have := hg.size; simp at this; omega); have HSZ : Hid (∀ w', Grew (w1.alloc (.cells #[.int .i64 last, .slice A1 n c1] 24)) w' → w.heap.size < w'.heap.size) := (fun w' g => by have := hg.size; have := (own_back g).size; simp at *; omega); clear ho hr hg CT))
      | (go_at_call 11; ((with_reducible refine (CRL _ (HI.out.keep (HC.out _ (grew_refl _)).2.2.2.1)).mono ?_); rintro e w2 ⟨rfl, hg⟩; have G2 := Lib.hid hg; clear hg CRL e0 e1 hw1)))
    have HC2 := Lib.hid (fun w' (g : Grew w2 w') => HC.out w' (grew_trans G2.out g))
    have x0 : ∀ p : GrewTo w2, p.to.cell? ⟨w.heap.size, 0, none⟩ = _ := fun p => (HC2.out _ p.h).1.1
    have x1 : ∀ p : GrewTo w2, p.to.cell? ⟨w.heap.size, 1, none⟩ = _ := fun p => (HC2.out _ p.h).1.2
    have x2 : ∀ p : GrewTo w2, p.to.cell? ⟨w.heap.size + 1, 0, none⟩ = _ := fun p => (HC2.out _ p.h).2.1.1
    have x3 : ∀ p : GrewTo w2, p.to.cell? ⟨w.heap.size + 1, 1, none⟩ = _ := fun p => (HC2.out _ p.h).2.1.2.1
    have x4 : ∀ p : GrewTo w2, p.to.cell? ⟨w.heap.size + 1, 2, none⟩ = _ := fun p => (HC2.out _ p.h).2.1.2.2
    have x5 : ∀ p : GrewTo w2, p.to.cell? ⟨w1.heap.size, 0, none⟩ = _ := fun p => (HC2.out _ p.h).2.2.1.1
    have x6 : ∀ p : GrewTo w2, p.to.cell? ⟨w1.heap.size, 1, none⟩ = _ := fun p => (HC2.out _ p.h).2.2.1.2
    have CK := fun p : GrewTo w2 => CCK A1 c1 p.to (HC2.out _ p.h).2.2.2.2
    have CX := fun p : GrewTo w2 => CO1 A1 c1 p.to (HC2.out _ p.h).2.2.2.2
    have CY := fun p : GrewTo w2 => CO2 p.to (HI.out.keep (HC2.out _ p.h).2.2.2.1)
    go_upto_region 5 with fail
    refine wp_region_grew (by kernel_rfl) (by kernel_rfl) ?_
    repeat (go_big_quiet_step (first | with_reducible exact calls_grew (CK _) | with_reducible exact calls_grew (CX _) | with_reducible exact calls_grew (CY _)))
    refine wpQuiet_nil ?_
    intro w3 hw'
    have G3 := Lib.hid (grew_trans G2.out (grew_of hw'))
    obtain ⟨-, -, ⟨s0, s1⟩, -⟩ := HC.out _ G3.out
    clear hw' x0 x1 x2 x3 x4 x5 x6 HC2 CK CX CY
    go_wp2_with (first
      | (go_at_call 15; ((with_reducible refine (CP1 _ _ _ (HC.out _ G3.out).2.2.2.2 (HJ.out.keep (HC.out _ G3.out).2.2.2.1)).mono ?_); rintro e w4 ⟨A4, c4, rfl, ho, hg⟩; have HO4 := Lib.hid ho; have G34 := Lib.hid hg; have G4 := Lib.hid (grew_trans G3.out hg); obtain ⟨⟨e0, e1⟩, -⟩ := HC.out _ G4.out; have hw4 : w.heap.size < w4.heap.size := (HSZ.out _ G4.out); clear ho hg CP1))
      | (go_at_call 16; ((with_reducible refine (CP2 _ (HI.out.keep (HC.out _ (grew_trans G4.out (grew_alloc _ _ _))).2.2.2.1) (HJ.out.keep (HC.out _ (grew_trans G4.out (grew_alloc _ _ _))).2.2.2.1)).mono ?_); rintro e w5 ⟨A5, c5, rfl, ho, hg⟩; have HO5 := Lib.hid ho; have HO45 := Lib.hid (HO4.out.keep (own_back hg)); have y0 : w5.cell? ⟨w4.heap.size, 0, none⟩ = some (.int .i64 PN) := own_cell hg 0; have y1 : w5.cell? ⟨w4.heap.size, 1, none⟩ = some (.slice A4 PLn c4) := own_cell hg 1; have hy : w4.heap.size < w5.heap.size := own_lt hg; have G5 := Lib.hid (grew_trans G4.out (own_back hg)); clear ho hg CP2 e0 e1 hw4))
      | (go_at_call 17; ((with_reducible refine (CKP _ _ _ _ _ _ _ (HO45.out.keep (grew_alloc _ _ _)) (HO5.out.keep (grew_alloc _ _ _))).mono ?_); rintro e w6 ⟨rfl, hg⟩; have y2 : w6.cell? ⟨w4.heap.size, 0, none⟩ = some (.int .i64 PN) := (grew_cell (own_back hg) (p := ⟨w4.heap.size, 0, none⟩) hy).trans y0; have y3 : w6.cell? ⟨w4.heap.size, 1, none⟩ = some (.slice A4 PLn c4) := (grew_cell (own_back hg) (p := ⟨w4.heap.size, 1, none⟩) hy).trans y1; have HO6 := Lib.hid (HO45.out.keep (own_back hg)); have G6 := Lib.hid (grew_trans G5.out (own_back hg)); have hb36 : w3.heap.size ≤ w6.heap.size := Nat.le_trans G34.out.size (Nat.le_trans (Nat.le_of_lt hy) (Nat.le_of_lt (own_lt hg))); clear hg CKP y0 y1))
      | (go_at_call 18; ((with_reducible refine (CSP _ _ _ _ hb36 HO6.out).mono ?_); rintro e w7 ⟨rfl, hg⟩; have G7 := Lib.hid (grew_below G6.out hg G3.out.size); obtain ⟨-, -, ⟨s0, s1⟩, -⟩ := HC.out _ G7.out; clear hg CSP y2 y3))
      | (go_at_call 19; ((with_reducible refine (CTT _ _ _ (HC.out _ G7.out).2.2.2.2 (HK.out.keep (HC.out _ G7.out).2.2.2.1)).mono ?_); rintro e w8 ⟨rfl, hg⟩; have G8 := Lib.hid (grew_trans G7.out hg); clear s0 s1; obtain ⟨⟨e0, e1⟩, -⟩ := HC.out _ G8.out; obtain ⟨-, -, ⟨s0, s1⟩, -⟩ := HC.out _ G8.out; clear hg CTT))
      | (go_at_call 17; ((with_reducible refine (CLE _ _ _ (HC.out _ G8.out).2.2.2.2 (HI.out.keep (HC.out _ G8.out).2.2.2.1)).mono ?_); rintro e w10 ⟨rfl, hg⟩; have G10 := Lib.hid (grew_trans G8.out hg); clear hg))
      | (go_at_call 21; ((with_reducible refine (WK _).mono ?_); rintro e w11 ⟨rfl, hg⟩; have G11 := Lib.hid (grew_trans G10.out hg); clear hg)))
    go_ret
    exact ⟨rfl, (HC.out _ G11.out).2.2.2.1⟩
theorem ledgerExact_row {cs : Array Value} {x : Int × List Lg} (w : World) (e : spLd.rd w cs.toList x) (id k m r cur : Int) (B K : Option Addr) (bn bc kn kc : Nat) (ls : List Lg) (ks : List Int) (h2 : RowE enLg w B bn ls) (hB : B = none → bc = 0) (hbn : bn ≤ 9223372036854775807) (h3 : Ints w K kn ks) (hkn : kn ≤ 9223372036854775807) :
    Calls Try.prog 3 #[.agg cs, .int .i64 id, .slice B bn bc, acV k m r, .int .i64 cur, .slice K kn kc] w fun e w' => e = .returned (.bool true) ∧ Grew w w' := by
  obtain ⟨A, n, c, e1, hi⟩ := ld_of e
  rw [e1]
  exact ledgerExact_walk x.1 id k m r cur A B K n c bn bc kn kc x.2 ls ks w hi.row hi.nil hi.max h2 hB hbn h3 hkn
end Go.Proofs.Ytafglljfgoeapaa.NumK
namespace Go.Proofs.Ytafglljfgoeapaa.ledgerExact
open Go.ChangeShapes Go.WideShapes Go.ChangeAt Go.RowKit
set_option linter.unusedVariables false

theorem own : ownKnob Try.prog.godebug = none := by kernel_rfl
theorem laidOut : laidOutB Try.prog = true := by kernel_rfl

set_option maxRecDepth 100000 in
theorem lifted (os : Os) (started : os.Started) (H : Type) (enc : TypeId × Value → H) :
    ReturnsInHanded {} Try.checked os 3 .any (Rows.ledgerExactSpec.pre6 enc Try.prog Try.f3 Rows.ledgerExactRow.domain false) (Rows.ledgerExactSpec.post enc Try.prog Try.f3 false true false false) := by
  refine returnsInHanded_of_change (C := Try.checked) own started (by kernel_rfl) Try.func3
    (ChangeSpec.witness6 (enc := enc) (C := Try.checked) false ⟨#[], #[.agg #[.int .i64 0, .slice none 0 0], .int .i64 0, .slice none 0 0, .agg #[.int .i64 0, .int .i64 0, .int .i64 0], .int .i64 0, .slice none 0 0], []⟩ 8 (by kernel_rfl) (by kernel_rfl) (by kernel_rfl) (by kernel_rfl)) ?_
  intro W base args ds gs before hval0 hW hcnd _
  have hval : ∀ (j : Nat) t v, Try.f3.params[j]? = some t → args[j]? = some v → Value.okWide Try.prog W .any base t v := hval0
  have hW' := hW
  obtain ⟨p, q, hA0, hV, rfl, hfz, hnd⟩ := hW
  have hA : DataW.TrodAll enc Try.prog W 0 (fun _ => true) true Try.f3.params.toList args.toList ds p := hA0
  skip
  rw [Try.params3] at hA hval
  obtain ⟨v0, vs0, d0, ds0, p0, q0, hargs, rfl, rfl, h0, r0⟩ := trodAll_cons hA
  obtain ⟨v1, vs1, d1, ds1, p1, q1, rfl, rfl, rfl, h1, r1⟩ := trodAll_cons r0
  obtain ⟨v2, vs2, d2, ds2, p2, q2, rfl, rfl, rfl, h2, r2⟩ := trodAll_cons r1
  obtain ⟨v3, vs3, d3, ds3, p3, q3, rfl, rfl, rfl, h3, r3⟩ := trodAll_cons r2
  obtain ⟨v4, vs4, d4, ds4, p4, q4, rfl, rfl, rfl, h4, r4⟩ := trodAll_cons r3
  obtain ⟨v5, vs5, d5, ds5, p5, q5, rfl, rfl, rfl, h5, r5⟩ := trodAll_cons r4
  obtain ⟨rfl, rfl, rfl⟩ := trodAll_nil r5
  obtain rfl : args = #[v0, v1, v2, v3, v4, v5] := by cases args; simp_all
  obtain ⟨rfl, rfl⟩ := trodVars_none hV
  have k0 := h0
  have lt0 : ∀ x ∈ p0, x.block < W.heap.size := by obtain ⟨m, hm⟩ := k0; exact DataW.trod_lt m _ _ _ hm
  obtain ⟨cs0, x0, rfl, e0⟩ := NumK.arg_struct Try.underlying24 NumK.opens_ledger (hval 0 24 v0 rfl rfl) h0
  obtain ⟨a1, rfl, rfl, rfl, w1⟩ := open_int Try.underlying3 (hval 1 3 v1 rfl rfl) h1
  have k2 := h2
  have lt2 : ∀ x ∈ p2, x.block < W.heap.size := by obtain ⟨m, hm⟩ := k2; exact DataW.trod_lt m _ _ _ hm
  obtain ⟨A2, len2, cap2, l2, rfl, ro2, n2, c2, m2⟩ := NumK.arg_slice Try.underlying25 NumK.opens_legs (hval 2 25 v2 rfl rfl) h2
  have k3 := h3
  have lt3 : ∀ x ∈ p3, x.block < W.heap.size := by obtain ⟨m, hm⟩ := k3; exact DataW.trod_lt m _ _ _ hm
  obtain ⟨cs3, x3, rfl, e3⟩ := NumK.arg_struct Try.underlying27 NumK.opens_acct (hval 3 27 v3 rfl rfl) h3
  obtain ⟨a4, rfl, rfl, rfl, w4⟩ := open_int Try.underlying3 (hval 4 3 v4 rfl rfl) h4
  have k5 := h5
  have lt5 : ∀ x ∈ p5, x.block < W.heap.size := by obtain ⟨m, hm⟩ := k5; exact DataW.trod_lt m _ _ _ hm
  obtain ⟨A5, len5, cap5, l5, rfl, ro5, n5, c5, m5⟩ := NumK.arg_slice Try.underlying28 NumK.opens_ints (hval 5 28 v5 rfl rfl) h5
  clear hA0 hval0
  refine ((NumK.acct_of e3) ▸ NumK.ledgerExact_row W e0 a1 x3.1 x3.2.1 x3.2.2 a4 A2 A5 len2 cap2 len5 cap5 l2 l5 (NumK.legs_of_row ro2) n2 (by omega) (NumK.ints_of_spec ro5).1 (by omega)).mono fun e W' ⟨he, bel⟩ => ?_
  subst he
  exact ⟨_, rfl, _, _, _, [], _, [], hW', trodAll_mk1 (shut_bool Try.underlying4 _), (trodAll_cons_mk (Below.trod laidOut (by kernel_rfl) (of_decide_eq_true (by kernel_rfl)) k0 bel lt0) (trodAll_cons_mk (shut_int Try.underlying3 w1) (trodAll_cons_mk (Below.trod laidOut (by kernel_rfl) (of_decide_eq_true (by kernel_rfl)) k2 bel lt2) (trodAll_cons_mk (Below.trod laidOut (by kernel_rfl) (of_decide_eq_true (by kernel_rfl)) k3 bel lt3) (trodAll_cons_mk (shut_int Try.underlying3 w4) (trodAll_cons_mk (Below.trod laidOut (by kernel_rfl) (of_decide_eq_true (by kernel_rfl)) k5 bel lt5) trodAll_mk0)))))), rfl, bel.frame _, fun h => by cases h⟩

theorem over : Rows.ledgerExactRow.holds Try.pinned (OpenSpec.ofChange Rows.ledgerExactSpec) :=
  OpenClaim.holds_of_wide 3 Try.f3 rfl rfl rfl rfl rfl rfl rfl ⟨rfl, rfl, rfl, rfl, rfl⟩ rfl rfl rfl rfl rfl (by kernel_rfl) Try.func3 (by kernel_rfl)
    (of_decide_eq_true (by kernel_rfl)) (by unfold Func.isWrapper; first | (rw [if_pos (by decide +kernel)]; kernel_rfl) | (rw [if_neg (by decide +kernel)]; exact ⟨rfl, rfl⟩))
    (fun os started H enc _ => lifted os started H enc)

/-! ### the statement -/
theorem proved : Rows.LedgerExactSaid := over
end Go.Proofs.Ytafglljfgoeapaa.ledgerExact
