/- keep's Bids of one and one; what the order's law looks for. -/
import Derived.Test.YtahioajpmlochaaRG13
import Derived.Test.YtahioajpmlochaaRG9
import Derived.Test.YtahioajpmlochaaRG15
import Derived.Test.YtahioajpmlochaaRG16
import Derived.Test.YtahioajpmlochaaRG6
import Derived.Deep.RegionHeld3
namespace Go.Proofs.Ytahioajpmlochaa.NumK
open Go.RowKit
set_option linter.unusedVariables false

theorem keepKey_eq (a b c d : Int) (w : World) : Calls Try.prog 20 #[.agg #[.int .i64 a, .int .i64 b], .agg #[.int .i64 c, .int .i64 d]] w fun e w' => e = .returned (.bool (decide (a = c ∧ b = d))) ∧ Grew w w' := by
  have HV : Hid ((decide (a = c ∧ b = d)) = (decide (a = c) && decide (b = d))) := by show _ = _; exact Bool.decide_and _ _
  generalize decide (a = c ∧ b = d) = V at *
  by_cases h1 : a = c
  · by_cases h2 : b = d
    · have HF : Hid (V = true) := by show _ = _; rw [HV.out, h1, h2]; simp
      have d1 : (a == c) = true := by simpa using h1
      have d2 : (b == d) = true := by simpa using h2
      clear HV h1 h2
      go_enter Try.func20, Try.ntmps20
      go_wp2
      go_ret
      exact ⟨ret_b HF.out.symm, grew_trans (grew_alloc _ _ _) (grew_alloc _ _ _)⟩
    · have HF : Hid (V = false) := by show _ = _; rw [HV.out]; simp [h2]
      have d1 : (a == c) = true := by simpa using h1
      have d2 : (b == d) = false := by simpa using h2
      clear HV h1 h2
      go_enter Try.func20, Try.ntmps20
      go_wp2
      go_ret
      exact ⟨ret_b HF.out.symm, grew_trans (grew_alloc _ _ _) (grew_alloc _ _ _)⟩
  · have HF : Hid (V = false) := by show _ = _; rw [HV.out]; simp [h1]
    have d1 : (a == c) = false := by simpa using h1
    clear HV h1
    go_enter Try.func20, Try.ntmps20
    go_wp2
    go_ret
    exact ⟨ret_b HF.out.symm, grew_trans (grew_alloc _ _ _) (grew_alloc _ _ _)⟩

set_option maxRecDepth 100000 in
set_option maxHeartbeats 4000000 in
theorem kbids1_any (A B : Option Addr) (c d : Nat) (x y : B5) (w : World) (h : RowE enB5 w A 1 [x]) (h2 : RowE enB5 w B 1 [y]) :
    Calls Try.prog 10 #[.slice A 1 c, .slice B 1 d] w fun e w' => e = .returned (.bool (decide (x = y))) ∧ Grew w w' := by
  have HI := Lib.hid h
  have HJ := Lib.hid h2
  clear h h2
  obtain ⟨x1, x2, x3, x4, x5⟩ := x
  obtain ⟨y1, y2, y3, y4, y5⟩ := y
  have HV : Hid ((decide ((x1, x2, x3, x4, x5) = (y1, y2, y3, y4, y5))) = decide ((x1 = y1 ∧ x2 = y2) ∧ x3 = y3 ∧ x4 = y4 ∧ x5 = y5)) := by show _ = _; exact decide_eq_decide.2 (by simp only [Prod.mk.injEq]; exact (and_assoc).symm)
  generalize decide ((x1, x2, x3, x4, x5) = (y1, y2, y3, y4, y5)) = V at *
  obtain ⟨b, o, rfl, _, _⟩ := HI.out.rB5 (j := 0) (by omega)
  obtain ⟨b2, o2, rfl, _, _⟩ := HJ.out.rB5 (j := 0) (by omega)
  have HC1 : Hid (∀ w', Grew w w' → CB5 w' b o (x1, x2, x3, x4, x5)) := fun w' g => by
    obtain ⟨b', o', e, _, hc⟩ := (HI.out.keep g).rB5 (j := 0) (by omega)
    cases e
    have := hc 0 (by omega)
    rw [Nat.zero_mul, Nat.add_zero] at this
    exact this
  have HC2 : Hid (∀ w', Grew w w' → CB5 w' b2 o2 (y1, y2, y3, y4, y5)) := fun w' g => by
    obtain ⟨b', o', e, _, hc⟩ := (HJ.out.keep g).rB5 (j := 0) (by omega)
    cases e
    have := hc 0 (by omega)
    rw [Nat.zero_mul, Nat.add_zero] at this
    exact this
  clear HI HJ
  go_enter Try.func10, Try.ntmps10
  go_wp2
  go_loopw [5] (fun v wr => ∃ j : Nat, v = .int .i64 j ∧ j ≤ 1 ∧ (j = 1 → V = true) ∧ Hid (Grew w wr)) (fun v _ => 1 - (intOf v).toNat)
  case atStart => exact ⟨0, rfl, by omega, fun h => absurd h (by omega), grew_refl _⟩
  case round =>
    obtain ⟨j, rfl, hj, hjV, HG⟩ := hrel
    have HJV := Lib.hid hjV
    clear hjV
    by_cases hlt : j < 1
    · obtain rfl : j = 0 := by omega
      clear HJV
      have CX := fun w' (g : Grew wr w') => keepKey_eq x1 x2 y1 y2 w'
      have u0 := grew_every (w := wr) (S := fun w' => w'.cell? ⟨b, o, none⟩ = some (.int .i64 x1)) (fun w' g => (HC1.out _ (grew_trans HG.out g)).1)
      have v0 := grew_every (w := wr) (S := fun w' => w'.cell? ⟨b2, o2, none⟩ = some (.int .i64 y1)) (fun w' g => (HC2.out _ (grew_trans HG.out g)).1)
      have u1 := grew_every (w := wr) (S := fun w' => w'.cell? ⟨b, o + 1, none⟩ = some (.int .i64 x2)) (fun w' g => (HC1.out _ (grew_trans HG.out g)).2.1)
      have v1 := grew_every (w := wr) (S := fun w' => w'.cell? ⟨b2, o2 + 1, none⟩ = some (.int .i64 y2)) (fun w' g => (HC2.out _ (grew_trans HG.out g)).2.1)
      have u2 := grew_every (w := wr) (S := fun w' => w'.cell? ⟨b, o + 2, none⟩ = some (.int .i64 x3)) (fun w' g => (HC1.out _ (grew_trans HG.out g)).2.2.1)
      have v2 := grew_every (w := wr) (S := fun w' => w'.cell? ⟨b2, o2 + 2, none⟩ = some (.int .i64 y3)) (fun w' g => (HC2.out _ (grew_trans HG.out g)).2.2.1)
      have u3 := grew_every (w := wr) (S := fun w' => w'.cell? ⟨b, o + 3, none⟩ = some (.int .i64 x4)) (fun w' g => (HC1.out _ (grew_trans HG.out g)).2.2.2.1)
      have v3 := grew_every (w := wr) (S := fun w' => w'.cell? ⟨b2, o2 + 3, none⟩ = some (.int .i64 y4)) (fun w' g => (HC2.out _ (grew_trans HG.out g)).2.2.2.1)
      have u4 := grew_every (w := wr) (S := fun w' => w'.cell? ⟨b, o + 4, none⟩ = some (.int .i64 x5)) (fun w' g => (HC1.out _ (grew_trans HG.out g)).2.2.2.2)
      have v4 := grew_every (w := wr) (S := fun w' => w'.cell? ⟨b2, o2 + 4, none⟩ = some (.int .i64 y5)) (fun w' g => (HC2.out _ (grew_trans HG.out g)).2.2.2.2)
      go_wp2_with (fail)
      by_cases c1 : x1 = y1 ∧ x2 = y2
      · have e1 : decide (x1 = y1 ∧ x2 = y2) = true := decide_eq_true c1
        rw [e1] at CX
        clear e1
        by_cases c3 : x3 = y3
        · by_cases c4 : x4 = y4
          · by_cases c5 : x5 = y5
            · have HF : Hid (V = true) := by show _ = _; rw [HV.out]; exact decide_eq_true ⟨c1, c3, c4, c5⟩
              clear HV
              have d0 : (x3 != y3) = false := by simpa using c3
              have d1 : (x4 != y4) = false := by simpa using c4
              have d2 : (x5 != y5) = false := by simpa using c5
              clear c1 c3 c4 c5
              refine wp_region_grew (by kernel_rfl) (by kernel_rfl) ?_
              repeat (go_big_quiet_step (with_reducible exact calls_every CX))
              refine wpQuiet_nil ?_
              intro w5 hw'
              have HG5 := Lib.hid (grew_trans HG.out (grew_of hw'))
              clear hw' u0 u1 u2 u3 u4 v0 v1 v2 v3 v4
              go_wp2
              go_roundw
              case rel => exact ⟨1, rfl, by omega, fun _ => HF.out, HG5.out⟩
              case measure => simp only [intOf]; omega
            · have HF : Hid (V = false) := by show _ = _; rw [HV.out]; exact decide_eq_false (fun h => c5 h.2.2.2)
              clear HV
              have d0 : (x3 != y3) = false := by simpa using c3
              have d1 : (x4 != y4) = false := by simpa using c4
              have d2 : (x5 != y5) = true := by simpa using c5
              clear c1 c3 c4 c5
              refine wp_region_grew (by kernel_rfl) (by kernel_rfl) ?_
              repeat (go_big_quiet_step (with_reducible exact calls_every CX))
              refine wpQuiet_nil ?_
              intro w5 hw'
              have HG5 := Lib.hid (grew_trans HG.out (grew_of hw'))
              clear hw' u0 u1 u2 u3 u4 v0 v1 v2 v3 v4
              go_wp2
              go_ret
              exact ⟨ret_b HF.out.symm, HG5.out⟩
          · have HF : Hid (V = false) := by show _ = _; rw [HV.out]; exact decide_eq_false (fun h => c4 h.2.2.1)
            clear HV
            have d0 : (x3 != y3) = false := by simpa using c3
            have d1 : (x4 != y4) = true := by simpa using c4
            clear c1 c3 c4
            refine wp_region_grew (by kernel_rfl) (by kernel_rfl) ?_
            repeat (go_big_quiet_step (with_reducible exact calls_every CX))
            refine wpQuiet_nil ?_
            intro w5 hw'
            have HG5 := Lib.hid (grew_trans HG.out (grew_of hw'))
            clear hw' u0 u1 u2 u3 u4 v0 v1 v2 v3 v4
            go_wp2
            go_ret
            exact ⟨ret_b HF.out.symm, HG5.out⟩
        · have HF : Hid (V = false) := by show _ = _; rw [HV.out]; exact decide_eq_false (fun h => c3 h.2.1)
          clear HV
          have d0 : (x3 != y3) = true := by simpa using c3
          clear c1 c3
          refine wp_region_grew (by kernel_rfl) (by kernel_rfl) ?_
          repeat (go_big_quiet_step (with_reducible exact calls_every CX))
          refine wpQuiet_nil ?_
          intro w5 hw'
          have HG5 := Lib.hid (grew_trans HG.out (grew_of hw'))
          clear hw' u0 u1 u2 u3 u4 v0 v1 v2 v3 v4
          go_wp2
          go_ret
          exact ⟨ret_b HF.out.symm, HG5.out⟩
      · have e1 : decide (x1 = y1 ∧ x2 = y2) = false := decide_eq_false c1
        rw [e1] at CX
        clear e1
        have HF : Hid (V = false) := by show _ = _; rw [HV.out]; exact decide_eq_false (fun h => c1 h.1)
        clear HV
        clear c1
        refine wp_region_grew (by kernel_rfl) (by kernel_rfl) ?_
        repeat (go_big_quiet_step (with_reducible exact calls_every CX))
        refine wpQuiet_nil ?_
        intro w5 hw'
        have HG5 := Lib.hid (grew_trans HG.out (grew_of hw'))
        clear hw' u0 u1 u2 u3 u4 v0 v1 v2 v3 v4
        go_wp2
        go_ret
        exact ⟨ret_b HF.out.symm, HG5.out⟩
    · obtain rfl : j = 1 := by omega
      have HF := Lib.hid (HJV.out rfl)
      clear HJV
      go_wp2
      go_ret
      exact ⟨ret_b HF.out.symm, HG.out⟩

/-! ### where a bid of the order came from -/
/-- Behind i of the order: those at the places that were used. -/
def usedF (t : Nat → Nat) (i : Nat) : Nat → Bool := fun k => decide (t k < i)
theorem used_next {f : Nat → Int} {n : Nat} {s t : Nat → Nat} (h : Pl f n s t) (i : Nat) : (fun k => if k = s i then true else usedF t i k) = usedF t (i + 1) := by
  funext k
  unfold usedF
  by_cases c : k = s i
  · rw [if_pos c, c, h.ts]; symm; exact decide_eq_true (by omega)
  · rw [if_neg c]
    have : t k ≠ i := fun e => c (by rw [← e, h.st])
    exact decide_eq_decide.2 (by omega)
/-- The first one unused that is the same is the one that came there. -/
theorem first_same {long : Bool} {l : List Bi} {s t : Nat → Nat} (h : Pl (fun k => keyB long (l.getD k bi0)) l.length s t) {i k : Nat} (hi : i < l.length) (hk : k < s i) (hu : usedF t i k = false) : l.getD k bi0 ≠ l.getD (s i) bi0 := by
  intro e
  unfold usedF at hu
  have h1 : ¬ t k < i := by simpa using hu
  have hs := h.lt_s hi
  have h2 : t k < t (s i) := (h.ahead (by omega) hs).2 (by
    unfold Ah
    right
    dsimp only
    rw [e]
    exact ⟨rfl, hk⟩)
  rw [h.ts] at h2
  omega
theorem used_own {f : Nat → Int} {n : Nat} {s t : Nat → Nat} (h : Pl f n s t) (i : Nat) : usedF t i (s i) = false := by
  unfold usedF
  rw [h.ts]; exact decide_eq_false (by omega)
/-- Two that stand side by side. -/
theorem side_by {long : Bool} {l : List Bi} {s t : Nat → Nat} (h : Pl (fun k => keyB long (l.getD k bi0)) l.length s t) (hf : ∀ b ∈ l, in64 b.2.2.1) {i : Nat} (hi : i + 1 < l.length) :
    (if long then (l.getD (s (i + 1)) bi0).2.2.2.2 < (l.getD (s i) bi0).2.2.2.2 else (l.getD (s i) bi0).2.2.2.2 < (l.getD (s (i + 1)) bi0).2.2.2.2) ∨
    ((l.getD (s i) bi0).2.2.2.2 = (l.getD (s (i + 1)) bi0).2.2.2.2 ∧ ((l.getD (s i) bi0).2.2.1 < (l.getD (s (i + 1)) bi0).2.2.1 ∨ ((l.getD (s i) bi0).2.2.1 = (l.getD (s (i + 1)) bi0).2.2.1 ∧ s i < s (i + 1)))) := by
  have h1 := h.up i (i + 1) (by omega) hi
  unfold Ah at h1
  dsimp only at h1
  have ha := hf _ (getD_mem l bi0 (s i) (h.lt_s (by omega)))
  have hb := hf _ (getD_mem l bi0 (s (i + 1)) (h.lt_s hi))
  generalize l.getD (s i) bi0 = a at *
  generalize l.getD (s (i + 1)) bi0 = b at *
  unfold in64 at ha hb
  unfold keyB at h1
  cases long
  · simp only [Bool.false_eq_true, if_false] at h1 ⊢; omega
  · simp only [if_true] at h1 ⊢; omega
end Go.Proofs.Ytahioajpmlochaa.NumK
namespace Go.Proofs.Ytahioajpmlochaa.NumK
open Go.RowKit
set_option linter.unusedVariables false

/-- One element of a row, as a slice of it. -/
theorem RowE.oneAtB {α : Type} {E : En α} {w : World} {ad : Option Addr} {n : Nat} {l : List α} (h : RowE E w ad n l) (i : Nat) (hi : i < n) (d : α) : RowE E w (Option.map (fun x => x.add (i * E.size)) ad) 1 [l.getD i d] := by
  have hl : i < l.length := by rw [h.len]; exact hi
  have h1 := RowE.take (RowE.dropO h (k := i) (by omega)) (k := 1) (by omega)
  have e : (l.drop i).take 1 = [l.getD i d] := by
    rw [List.drop_eq_getElem_cons hl, getD_at l d i hl]; rfl
  rw [e] at h1
  exact h1
theorem flE_0 {q : Int} {l : List Bi} (h : flE q l = 0) : auOK q l = true ∧ flL q l = auF q l ∧ flR q l = auR q l := by
  unfold flE at h
  unfold flL flR
  split at h
  · next h1 => rw [h1]; exact ⟨rfl, rfl, rfl⟩
  · cases h
theorem auOK_less {q : Int} {l : List Bi} {b : Bi} (h : auOK q (l ++ [b]) = true) : auOK q l = true := by
  rw [auOK_iff] at h ⊢
  exact ⟨h.1, fun x hx => h.2 x (List.mem_append.2 (Or.inl hx))⟩
theorem FillPost.all3 {q : Int} {l : List Bi} {w w' : World} {e : Ending} (h : FillPost q l w e w') :
    ∃ A c, e = .returned (.tuple #[.slice A (flL q l).length c, .int .i64 (flR q l), .int .i64 (flE q l)]) ∧ RowE enD3 w' A (flL q l).length (flL q l) ∧ (flL q l).length ≤ c ∧ c ≤ maxLen ∧ Grew w w' := by
  unfold flL flR flE
  rcases h with ⟨h1, h2, h3⟩ | ⟨h1, v, h2, h3, h4⟩
  · rw [h1]
    exact ⟨none, 0, h2, RowE.nil _ _ _, Nat.le_refl _, Nat.zero_le _, h3⟩
  · rw [h1]
    obtain ⟨A, c, rfl, hr, hk, hl, hm⟩ := h3.form
    exact ⟨A, c, h2, hr, hl, hm, h4⟩

set_option maxRecDepth 100000 in
set_option maxHeartbeats 16000000 in
theorem auctionMore_walk (q : Int) (A : Option Addr) (n c : Nat) (l : List B5) (b : B5) (w : World) (h : RowE enB5 w A n l) (k : A = none → c = 0) (hf : ∀ x ∈ l ++ [b], in64 x.2.2.1) (hq : in64 q) :
    Calls Try.prog 7 #[.int .i64 q, .slice A n c, vBd b] w fun e w' => e = .returned (.bool true) ∧ Grew w w' := by
  have HI := Lib.hid h
  have HL := Lib.hid h.len
  have CW := fun w => wakes19_any w
  have CF := fun (w' : World) (g : Grew w w') (hn : n ≤ 100000) => afill_any q A n c l w' (h.keep g) k hn (fun x hx => hf x (List.mem_append.2 (Or.inl hx))) hq
  have CG := fun (w' : World) (A' : Option Addr) (c' : Nat) (hr : RowE enB5 w' A' (n + 1) (l ++ [b])) (hk : A' = none → c' = 0) (hn : n ≤ 300) => afill_any q A' (n + 1) c' (l ++ [b]) w' hr hk (by omega) hf hq
  have CT := fun (w' : World) (g : Grew w w') (hn : n ≤ 300) => twinBids_any A n c l w' (h.keep g) k (by omega)
  have HMO : Hid (auOK q (l ++ [b]) = true → auR q (l ++ [b]) ≤ auR q l) := fun h => au_more h
  have HBE := Lib.hid (fun (ho : auOK q (l ++ [b]) = true) i hi hb => @au_better q l b ho hf i hi hb)
  have HFL := Lib.hid (fl_len q l)
  have HLN : Hid ((l ++ [b]).length = n + 1) := by show _ = _; rw [List.length_append, h.len]; rfl
  have HGLN : Hid ((flL q (l ++ [b])).length ≤ n + 1) := by show _ ≤ _; have := fl_len q (l ++ [b]); rw [HLN.out] at this; exact this
  clear h k
  obtain ⟨b1, b2, b3, b4, b5⟩ := b
  dsimp only [vBd] at *
  have HX0 : Hid (OwnC (w.alloc (.cells #[.int .i64 b1, .int .i64 b2, .int .i64 b3, .int .i64 b4, .int .i64 b5] 31)) w.heap.size [.int .i64 b1, .int .i64 b2, .int .i64 b3, .int .i64 b4, .int .i64 b5]) := OwnC.new w [.int .i64 b1, .int .i64 b2, .int .i64 b3, .int .i64 b4, .int .i64 b5] _ _ rfl
  have HG0 : Hid (Grew w (w.alloc (.cells #[.int .i64 b1, .int .i64 b2, .int .i64 b3, .int .i64 b4, .int .i64 b5] 31))) := grew_alloc _ _ _
  go_enter Try.func7, Try.ntmps7
  go_upto_region 1 with (fail)
  generalize w.alloc (.cells #[.int .i64 b1, .int .i64 b2, .int .i64 b3, .int .i64 b4, .int .i64 b5] 31) = w0 at *
  generalize w.heap.size = N0 at *
  by_cases hn : n > 300
  · have j1 : (n : Int) > 300 := by omega
    clear CW CF CG CT
    go_wp2
    go_ret
    exact ⟨rfl, HG0.out⟩
  · have j1 : ¬ (n : Int) > 300 := by omega
    have CF1 := CF w0 HG0.out (by omega)
    go_upto_region 4 with (go_at_call 12; ((with_reducible refine CF1.mono ?_); rintro e w2 hP; obtain ⟨AF, cF, rfl, hr, hlc, hcm, hg⟩ := hP.all3; have HFR := Lib.hid hr; have HG2 := Lib.hid (grew_trans HG0.out hg); have HX2 := Lib.hid (HX0.out.keep hg); have HCF := Lib.hid hlc; have HCM := Lib.hid hcm; clear hr hg hlc hcm hP CF1))
    clear CF
    go_cut [10, 11, 12] (fun s10 s11 s12 wx => ∃ AG cG, s10 = .slice AG (flL q (l ++ [(b1, b2, b3, b4, b5)])).length cG ∧ s11 = .int .i64 (flR q (l ++ [(b1, b2, b3, b4, b5)])) ∧ s12 = .int .i64 (flE q (l ++ [(b1, b2, b3, b4, b5)])) ∧ Hid (RowE enD3 wx AG (flL q (l ++ [(b1, b2, b3, b4, b5)])).length (flL q (l ++ [(b1, b2, b3, b4, b5)])) ∧ (flL q (l ++ [(b1, b2, b3, b4, b5)])).length ≤ cG ∧ cG ≤ maxLen) ∧ Hid (Grew w2 wx))
    case first =>
      have HS : Hid (∀ w', Grew w2 w' → w'.cell? ⟨N0, 0, none⟩ = some (.int .i64 b1) ∧ w'.cell? ⟨N0, 1, none⟩ = some (.int .i64 b2) ∧ w'.cell? ⟨N0, 2, none⟩ = some (.int .i64 b3) ∧ w'.cell? ⟨N0, 3, none⟩ = some (.int .i64 b4) ∧ w'.cell? ⟨N0, 4, none⟩ = some (.int .i64 b5)) := fun w' g =>
        ⟨(HX2.out.keep g).at 0 _ rfl, (HX2.out.keep g).at 1 _ rfl, (HX2.out.keep g).at 2 _ rfl, (HX2.out.keep g).at 3 _ rfl, (HX2.out.keep g).at 4 _ rfl⟩
      have CTW := fun (w' : World) (g : Grew w2 w') => CT w' (grew_trans HG2.out g) (by omega)
      have CGW := fun (w' : World) (A' : Option Addr) (c' : Nat) (hr : RowE enB5 w' A' (n + 1) (l ++ [(b1, b2, b3, b4, b5)])) (hk : A' = none → c' = 0) => CG w' A' c' hr hk (by omega)
      have HLL : Hid (l.length ≤ 300) := by show _ ≤ _; rw [HL.out]; omega
      clear HX2 CT CG CW HMO HBE
      obtain ⟨y0, y1, y2, y3, y4⟩ := HS.out _ (grew_refl _)
      refine wp_region_noPanic ?_
      refine wp_region_held_drew (S := fun w' => w'.cell? ⟨N0, 0, none⟩ = some (.int .i64 b1) ∧ w'.cell? ⟨N0, 1, none⟩ = some (.int .i64 b2) ∧ w'.cell? ⟨N0, 2, none⟩ = some (.int .i64 b3) ∧ w'.cell? ⟨N0, 3, none⟩ = some (.int .i64 b4) ∧ w'.cell? ⟨N0, 4, none⟩ = some (.int .i64 b5)) (by kernel_rfl) ⟨y0, y1, y2, y3, y4⟩ (fun hHeld => ?_)
      (refine wpAnyH_take (i := 0) (oi := { dst := some 25, op := Op.move (Operand.tmp 0), type := 3, pos := "more.go:48", after := #[], guard := none }) (v := ?_) rfl (by kernel_rfl) (by kernel_rfl) (by kernel_rfl) (fun _ _ _ h => h) (Or.inl ⟨by rfl, ?_⟩) (by assumption) ?_; rotate_left; · (intro w hSw; (try dsimp only at hSw); skip; go_simp; (first | done | with_reducible rfl)))
      try simp only [Act.put, List.setIfInBounds_toArray, List.set_cons_zero, List.set_cons_succ]
      (refine wpAnyH_take (i := 1) (oi := { dst := some 26, op := Op.move (Operand.tmp 1), type := 22, pos := "more.go:48", after := #[], guard := none }) (v := ?_) rfl (by kernel_rfl) (by kernel_rfl) (by kernel_rfl) (fun _ _ _ h => h) (Or.inl ⟨by rfl, ?_⟩) (by assumption) ?_; rotate_left; · (intro w hSw; (try dsimp only at hSw); skip; go_simp; (first | done | with_reducible rfl)))
      try simp only [Act.put, List.setIfInBounds_toArray, List.set_cons_zero, List.set_cons_succ]
      (refine wpAnyH_take (i := 3) (oi := { dst := some 28, op := Op.load 31 (Operand.tmp 5), type := 31, pos := "more.go:48", after := #[], guard := none }) (v := ?_) rfl (by kernel_rfl) (by kernel_rfl) (by kernel_rfl) (fun _ _ _ h => h) (Or.inl ⟨by rfl, ?_⟩) (by assumption) ?_; rotate_left; · (intro w hSw; (try dsimp only at hSw); skip; go_simp; (first | done | with_reducible rfl)))
      try simp only [Act.put, List.setIfInBounds_toArray, List.set_cons_zero, List.set_cons_succ]
      refine wpAnyH_ready (rs := [2, 4]) (by kernel_rfl) (by simp) ?_
      refine (AllReadyH.cons (o := { dst := some 27, op := Op.call { callee := Callee.value (Operand.func 8), args := #[Operand.tmp 26], argTypes := #[22] }, type := 22, pos := "more.go:48", after := #[{ on := 1, ground := Ground.data }], guard := none }) rfl (fun K hK => ?_) (AllReadyH.cons (o := { dst := some 29, op := Op.buildSlice 22 1 #[(0, Operand.tmp 28)], type := 22, pos := "more.go:48", after := #[{ on := 3, ground := Ground.data }], guard := none }) rfl (fun K hK => ?_) AllReadyH.nil))
      · go_simp
        (go_at_call 8; (with_reducible refine (CTW _ (by first | exact grew_drew (grew_refl _) | exact grew_trans (grew_drew (grew_refl _)) (grew_alloc _ _ _) | exact grew_drew (grew_alloc _ _ _))).mono ?_); rintro e w3 ⟨B3, d3, rfl, ho, hg⟩)
        have HO3 := Lib.hid ho
        have HGX := Lib.hid hg
        have HG3 : Hid (Grew w2 w3) := grew_trans (by first | exact grew_drew (grew_refl _) | exact grew_trans (grew_drew (grew_refl _)) (grew_alloc _ _ _) | exact grew_drew (grew_alloc _ _ _)) hg
        clear ho hg
        refine hK.out _ _ ?_ (fun hHeld => ?_)
        · first
          | exact HS.out _ HG3.out
        clear hK K
        try simp only [Act.put, List.setIfInBounds_toArray, List.set_cons_zero, List.set_cons_succ]
        refine wpAnyH_ready (rs := [4]) (by kernel_rfl) (by simp) ?_
        refine (AllReadyH.cons (o := { dst := some 29, op := Op.buildSlice 22 1 #[(0, Operand.tmp 28)], type := 22, pos := "more.go:48", after := #[{ on := 3, ground := Ground.data }], guard := none }) rfl (fun K hK => ?_) AllReadyH.nil)
        go_simp
        refine hK.out _ _ ?_ (fun hHeld => ?_)
        · first
          | exact HS.out _ (grew_trans HG3.out (grew_alloc _ _ _))
          | exact HS.out _ (grew_trans (grew_drew (grew_refl _)) (grew_alloc _ _ _))
        clear hK K
        try simp only [Act.put, List.setIfInBounds_toArray, List.set_cons_zero, List.set_cons_succ]
        refine wpAnyH_ready (rs := [5]) (by kernel_rfl) (by simp) ?_
        refine (AllReadyH.cons (o := { dst := some 30, op := Op.call { callee := Callee.builtin Builtin.append, args := #[Operand.tmp 27, Operand.tmp 29], argTypes := #[22, 22] }, type := 22, pos := "more.go:48", after := #[{ on := 2, ground := Ground.data }, { on := 4, ground := Ground.data }, { on := 2, ground := Ground.chain }], guard := none }) rfl (fun K hK => ?_) AllReadyH.nil)
        first
          | (refine step_append_G (E := enB5) rfl _ _ 22 31 (vBd bi0) 40 rfl Try.underlying22 info_bd rfl _ _ l rfl (HO3.out.keep (grew_alloc _ _ _)) _ 1 1 [(b1, b2, b3, b4, b5)] rfl (RowE.one enB5 _ (b1, b2, b3, b4, b5) 31 _ rfl) (by have := HLL.out; unfold maxLen; omega) (by have := HLL.out; omega) (Nat.le_trans HGX.out.size (grew_alloc _ _ _).size) ?_; intro v4 w4 hv hb hgb; have HG4 : Hid (Grew w2 w4) := Below.trans (grew_trans HG3.out (grew_alloc _ _ _)) (Below.mono hb (Nat.le_refl _)))
          | (refine step_append_G (E := enB5) rfl _ _ 22 31 (vBd bi0) 40 rfl Try.underlying22 info_bd rfl _ _ l rfl HO3.out _ 1 1 [(b1, b2, b3, b4, b5)] rfl ((RowE.one enB5 _ (b1, b2, b3, b4, b5) 31 _ rfl).keep (grew_trans (grew_drew (grew_refl _)) HGX.out)) (by have := HLL.out; unfold maxLen; omega) (by have := HLL.out; omega) HGX.out.size ?_; intro v4 w4 hv hb hgb; have HG4 : Hid (Grew w2 w4) := Below.trans HG3.out (Below.mono hb (by simp)))
        obtain ⟨A4, c4, rfl, hr4, hk4, -⟩ := hv.form
        rw [HLN.out] at hr4 ⊢
        have CG4 := CGW w4 A4 c4 hr4 hk4
        clear hv hb hgb hr4 hk4
        refine hK.out _ _ ?_ (fun hHeld => ?_)
        · first
          | exact HS.out _ HG4.out
        clear hK K
        try simp only [Act.put, List.setIfInBounds_toArray, List.set_cons_zero, List.set_cons_succ]
        refine wpAnyH_ready (rs := [6]) (by kernel_rfl) (by simp) ?_
        refine (AllReadyH.cons (o := { dst := some 31, op := Op.call { callee := Callee.value (Operand.func 12), args := #[Operand.tmp 25, Operand.tmp 30], argTypes := #[3, 22] }, type := 33, pos := "more.go:48", after := #[{ on := 0, ground := Ground.data }, { on := 5, ground := Ground.data }, { on := 5, ground := Ground.chain }], guard := none }) rfl (fun K hK => ?_) AllReadyH.nil)
        go_simp
        (go_at_call 12; (with_reducible refine CG4.mono ?_); rintro e w5 hP)
        obtain ⟨AG, cG, rfl, hr, hlc, hcm, hg⟩ := hP.all3
        have HR5 := Lib.hid (And.intro hr (And.intro hlc hcm))
        have HG5 : Hid (Grew w2 w5) := grew_trans HG4.out hg
        clear hr hg hlc hcm hP
        refine hK.out _ _ ?_ (fun hHeld => ?_)
        · first
          | exact HS.out _ HG5.out
        clear hK K
        try simp only [Act.put, List.setIfInBounds_toArray, List.set_cons_zero, List.set_cons_succ]
        (refine wpAnyH_take (i := 7) (oi := { dst := some 24, op := Op.move (Operand.tmp 31), type := 33, pos := "more.go:48", after := #[{ on := 6, ground := Ground.data }], guard := none }) (v := ?_) rfl (by kernel_rfl) (by kernel_rfl) (by kernel_rfl) (fun _ _ _ h => h) (Or.inl ⟨by rfl, ?_⟩) (by assumption) ?_; rotate_left; · (intro w hSw; (try dsimp only at hSw); skip; go_simp; (first | done | with_reducible rfl)))
        try simp only [Act.put, List.setIfInBounds_toArray, List.set_cons_zero, List.set_cons_succ]
        (refine wpAnyH_take (i := 8) (oi := { dst := some 32, op := Op.extract (Operand.tmp 24) 0, type := 25, pos := "more.go:48", after := #[{ on := 7, ground := Ground.data }], guard := none }) (v := ?_) rfl (by kernel_rfl) (by kernel_rfl) (by kernel_rfl) (fun _ _ _ h => h) (Or.inl ⟨by rfl, ?_⟩) (by assumption) ?_; rotate_left; · (intro w hSw; (try dsimp only at hSw); skip; go_simp; (first | done | with_reducible rfl)))
        try simp only [Act.put, List.setIfInBounds_toArray, List.set_cons_zero, List.set_cons_succ]
        (refine wpAnyH_take (i := 9) (oi := { dst := some 33, op := Op.extract (Operand.tmp 24) 1, type := 3, pos := "more.go:48", after := #[{ on := 7, ground := Ground.data }, { on := 11, ground := Ground.gcOnly Departure.lateStores }], guard := none }) (v := ?_) rfl (by kernel_rfl) (by kernel_rfl) (by kernel_rfl) (fun _ _ _ h => h) (Or.inl ⟨by rfl, ?_⟩) (by assumption) ?_; rotate_left; · (intro w hSw; (try dsimp only at hSw); skip; go_simp; (first | done | with_reducible rfl)))
        try simp only [Act.put, List.setIfInBounds_toArray, List.set_cons_zero, List.set_cons_succ]
        (refine wpAnyH_take (i := 10) (oi := { dst := some 34, op := Op.extract (Operand.tmp 24) 2, type := 32, pos := "more.go:48", after := #[{ on := 7, ground := Ground.data }, { on := 12, ground := Ground.gcOnly Departure.lateStores }], guard := none }) (v := ?_) rfl (by kernel_rfl) (by kernel_rfl) (by kernel_rfl) (fun _ _ _ h => h) (Or.inl ⟨by rfl, ?_⟩) (by assumption) ?_; rotate_left; · (intro w hSw; (try dsimp only at hSw); skip; go_simp; (first | done | with_reducible rfl)))
        try simp only [Act.put, List.setIfInBounds_toArray, List.set_cons_zero, List.set_cons_succ]
        (refine wpAnyH_take (i := 11) (oi := { dst := some 10, op := Op.assign (Operand.tmp 32), type := 25, pos := "more.go:48", after := #[{ on := 8, ground := Ground.data }, { on := 6, ground := Ground.chain }, { on := 0, ground := Ground.phase }, { on := 1, ground := Ground.phase }, { on := 2, ground := Ground.phase }, { on := 3, ground := Ground.phase }, { on := 4, ground := Ground.phase }, { on := 5, ground := Ground.phase }, { on := 6, ground := Ground.phase }, { on := 7, ground := Ground.phase }, { on := 8, ground := Ground.phase }, { on := 9, ground := Ground.textOnly Departure.lateStores }, { on := 10, ground := Ground.textOnly Departure.lateStores }], guard := none }) (v := ?_) rfl (by kernel_rfl) (by kernel_rfl) (by kernel_rfl) (fun _ _ _ h => h) (Or.inl ⟨by rfl, ?_⟩) (by assumption) ?_; rotate_left; · (intro w hSw; (try dsimp only at hSw); skip; go_simp; (first | done | with_reducible rfl)))
        try simp only [Act.put, List.setIfInBounds_toArray, List.set_cons_zero, List.set_cons_succ]
        (refine wpAnyH_take (i := 12) (oi := { dst := some 11, op := Op.assign (Operand.tmp 33), type := 3, pos := "more.go:48", after := #[{ on := 9, ground := Ground.data }, { on := 11, ground := Ground.chain }, { on := 0, ground := Ground.phase }, { on := 1, ground := Ground.phase }, { on := 2, ground := Ground.phase }, { on := 3, ground := Ground.phase }, { on := 4, ground := Ground.phase }, { on := 5, ground := Ground.phase }, { on := 6, ground := Ground.phase }, { on := 7, ground := Ground.phase }, { on := 8, ground := Ground.phase }, { on := 9, ground := Ground.phase }, { on := 10, ground := Ground.textOnly Departure.lateStores }, { on := 11, ground := Ground.phase }], guard := none }) (v := ?_) rfl (by kernel_rfl) (by kernel_rfl) (by kernel_rfl) (fun _ _ _ h => h) (Or.inl ⟨by rfl, ?_⟩) (by assumption) ?_; rotate_left; · (intro w hSw; (try dsimp only at hSw); skip; go_simp; (first | done | with_reducible rfl)))
        try simp only [Act.put, List.setIfInBounds_toArray, List.set_cons_zero, List.set_cons_succ]
        (refine wpAnyH_take (i := 13) (oi := { dst := some 12, op := Op.assign (Operand.tmp 34), type := 32, pos := "more.go:48", after := #[{ on := 10, ground := Ground.data }, { on := 12, ground := Ground.chain }, { on := 0, ground := Ground.phase }, { on := 1, ground := Ground.phase }, { on := 2, ground := Ground.phase }, { on := 3, ground := Ground.phase }, { on := 4, ground := Ground.phase }, { on := 5, ground := Ground.phase }, { on := 6, ground := Ground.phase }, { on := 7, ground := Ground.phase }, { on := 8, ground := Ground.phase }, { on := 9, ground := Ground.phase }, { on := 10, ground := Ground.phase }, { on := 11, ground := Ground.phase }, { on := 12, ground := Ground.phase }], guard := none }) (v := ?_) rfl (by kernel_rfl) (by kernel_rfl) (by kernel_rfl) (fun _ _ _ h => h) (Or.inl ⟨by rfl, ?_⟩) (by assumption) ?_; rotate_left; · (intro w hSw; (try dsimp only at hSw); skip; go_simp; (first | done | with_reducible rfl)))
        try simp only [Act.put, List.setIfInBounds_toArray, List.set_cons_zero, List.set_cons_succ]
        refine wpAnyH_done (by kernel_rfl) ?_ _
        clear hHeld
        apply_assumption
        go_meet
        case rel => exact ⟨_, _, rfl, rfl, rfl, HR5, HG5⟩
      · go_simp
        refine hK.out _ _ ?_ (fun hHeld => ?_)
        · first
          | exact HS.out _ (grew_trans HG3.out (grew_alloc _ _ _))
          | exact HS.out _ (grew_trans (grew_drew (grew_refl _)) (grew_alloc _ _ _))
        clear hK K
        try simp only [Act.put, List.setIfInBounds_toArray, List.set_cons_zero, List.set_cons_succ]
        refine wpAnyH_ready (rs := [2]) (by kernel_rfl) (by simp) ?_
        refine (AllReadyH.cons (o := { dst := some 27, op := Op.call { callee := Callee.value (Operand.func 8), args := #[Operand.tmp 26], argTypes := #[22] }, type := 22, pos := "more.go:48", after := #[{ on := 1, ground := Ground.data }], guard := none }) rfl (fun K hK => ?_) AllReadyH.nil)
        go_simp
        (go_at_call 8; (with_reducible refine (CTW _ (by first | exact grew_drew (grew_refl _) | exact grew_trans (grew_drew (grew_refl _)) (grew_alloc _ _ _) | exact grew_drew (grew_alloc _ _ _))).mono ?_); rintro e w3 ⟨B3, d3, rfl, ho, hg⟩)
        have HO3 := Lib.hid ho
        have HGX := Lib.hid hg
        have HG3 : Hid (Grew w2 w3) := grew_trans (by first | exact grew_drew (grew_refl _) | exact grew_trans (grew_drew (grew_refl _)) (grew_alloc _ _ _) | exact grew_drew (grew_alloc _ _ _)) hg
        clear ho hg
        refine hK.out _ _ ?_ (fun hHeld => ?_)
        · first
          | exact HS.out _ HG3.out
        clear hK K
        try simp only [Act.put, List.setIfInBounds_toArray, List.set_cons_zero, List.set_cons_succ]
        refine wpAnyH_ready (rs := [5]) (by kernel_rfl) (by simp) ?_
        refine (AllReadyH.cons (o := { dst := some 30, op := Op.call { callee := Callee.builtin Builtin.append, args := #[Operand.tmp 27, Operand.tmp 29], argTypes := #[22, 22] }, type := 22, pos := "more.go:48", after := #[{ on := 2, ground := Ground.data }, { on := 4, ground := Ground.data }, { on := 2, ground := Ground.chain }], guard := none }) rfl (fun K hK => ?_) AllReadyH.nil)
        first
          | (refine step_append_G (E := enB5) rfl _ _ 22 31 (vBd bi0) 40 rfl Try.underlying22 info_bd rfl _ _ l rfl (HO3.out.keep (grew_alloc _ _ _)) _ 1 1 [(b1, b2, b3, b4, b5)] rfl (RowE.one enB5 _ (b1, b2, b3, b4, b5) 31 _ rfl) (by have := HLL.out; unfold maxLen; omega) (by have := HLL.out; omega) (Nat.le_trans HGX.out.size (grew_alloc _ _ _).size) ?_; intro v4 w4 hv hb hgb; have HG4 : Hid (Grew w2 w4) := Below.trans (grew_trans HG3.out (grew_alloc _ _ _)) (Below.mono hb (Nat.le_refl _)))
          | (refine step_append_G (E := enB5) rfl _ _ 22 31 (vBd bi0) 40 rfl Try.underlying22 info_bd rfl _ _ l rfl HO3.out _ 1 1 [(b1, b2, b3, b4, b5)] rfl ((RowE.one enB5 _ (b1, b2, b3, b4, b5) 31 _ rfl).keep (grew_trans (grew_drew (grew_refl _)) HGX.out)) (by have := HLL.out; unfold maxLen; omega) (by have := HLL.out; omega) HGX.out.size ?_; intro v4 w4 hv hb hgb; have HG4 : Hid (Grew w2 w4) := Below.trans HG3.out (Below.mono hb (by simp)))
        obtain ⟨A4, c4, rfl, hr4, hk4, -⟩ := hv.form
        rw [HLN.out] at hr4 ⊢
        have CG4 := CGW w4 A4 c4 hr4 hk4
        clear hv hb hgb hr4 hk4
        refine hK.out _ _ ?_ (fun hHeld => ?_)
        · first
          | exact HS.out _ HG4.out
        clear hK K
        try simp only [Act.put, List.setIfInBounds_toArray, List.set_cons_zero, List.set_cons_succ]
        refine wpAnyH_ready (rs := [6]) (by kernel_rfl) (by simp) ?_
        refine (AllReadyH.cons (o := { dst := some 31, op := Op.call { callee := Callee.value (Operand.func 12), args := #[Operand.tmp 25, Operand.tmp 30], argTypes := #[3, 22] }, type := 33, pos := "more.go:48", after := #[{ on := 0, ground := Ground.data }, { on := 5, ground := Ground.data }, { on := 5, ground := Ground.chain }], guard := none }) rfl (fun K hK => ?_) AllReadyH.nil)
        go_simp
        (go_at_call 12; (with_reducible refine CG4.mono ?_); rintro e w5 hP)
        obtain ⟨AG, cG, rfl, hr, hlc, hcm, hg⟩ := hP.all3
        have HR5 := Lib.hid (And.intro hr (And.intro hlc hcm))
        have HG5 : Hid (Grew w2 w5) := grew_trans HG4.out hg
        clear hr hg hlc hcm hP
        refine hK.out _ _ ?_ (fun hHeld => ?_)
        · first
          | exact HS.out _ HG5.out
        clear hK K
        try simp only [Act.put, List.setIfInBounds_toArray, List.set_cons_zero, List.set_cons_succ]
        (refine wpAnyH_take (i := 7) (oi := { dst := some 24, op := Op.move (Operand.tmp 31), type := 33, pos := "more.go:48", after := #[{ on := 6, ground := Ground.data }], guard := none }) (v := ?_) rfl (by kernel_rfl) (by kernel_rfl) (by kernel_rfl) (fun _ _ _ h => h) (Or.inl ⟨by rfl, ?_⟩) (by assumption) ?_; rotate_left; · (intro w hSw; (try dsimp only at hSw); skip; go_simp; (first | done | with_reducible rfl)))
        try simp only [Act.put, List.setIfInBounds_toArray, List.set_cons_zero, List.set_cons_succ]
        (refine wpAnyH_take (i := 8) (oi := { dst := some 32, op := Op.extract (Operand.tmp 24) 0, type := 25, pos := "more.go:48", after := #[{ on := 7, ground := Ground.data }], guard := none }) (v := ?_) rfl (by kernel_rfl) (by kernel_rfl) (by kernel_rfl) (fun _ _ _ h => h) (Or.inl ⟨by rfl, ?_⟩) (by assumption) ?_; rotate_left; · (intro w hSw; (try dsimp only at hSw); skip; go_simp; (first | done | with_reducible rfl)))
        try simp only [Act.put, List.setIfInBounds_toArray, List.set_cons_zero, List.set_cons_succ]
        (refine wpAnyH_take (i := 9) (oi := { dst := some 33, op := Op.extract (Operand.tmp 24) 1, type := 3, pos := "more.go:48", after := #[{ on := 7, ground := Ground.data }, { on := 11, ground := Ground.gcOnly Departure.lateStores }], guard := none }) (v := ?_) rfl (by kernel_rfl) (by kernel_rfl) (by kernel_rfl) (fun _ _ _ h => h) (Or.inl ⟨by rfl, ?_⟩) (by assumption) ?_; rotate_left; · (intro w hSw; (try dsimp only at hSw); skip; go_simp; (first | done | with_reducible rfl)))
        try simp only [Act.put, List.setIfInBounds_toArray, List.set_cons_zero, List.set_cons_succ]
        (refine wpAnyH_take (i := 10) (oi := { dst := some 34, op := Op.extract (Operand.tmp 24) 2, type := 32, pos := "more.go:48", after := #[{ on := 7, ground := Ground.data }, { on := 12, ground := Ground.gcOnly Departure.lateStores }], guard := none }) (v := ?_) rfl (by kernel_rfl) (by kernel_rfl) (by kernel_rfl) (fun _ _ _ h => h) (Or.inl ⟨by rfl, ?_⟩) (by assumption) ?_; rotate_left; · (intro w hSw; (try dsimp only at hSw); skip; go_simp; (first | done | with_reducible rfl)))
        try simp only [Act.put, List.setIfInBounds_toArray, List.set_cons_zero, List.set_cons_succ]
        (refine wpAnyH_take (i := 11) (oi := { dst := some 10, op := Op.assign (Operand.tmp 32), type := 25, pos := "more.go:48", after := #[{ on := 8, ground := Ground.data }, { on := 6, ground := Ground.chain }, { on := 0, ground := Ground.phase }, { on := 1, ground := Ground.phase }, { on := 2, ground := Ground.phase }, { on := 3, ground := Ground.phase }, { on := 4, ground := Ground.phase }, { on := 5, ground := Ground.phase }, { on := 6, ground := Ground.phase }, { on := 7, ground := Ground.phase }, { on := 8, ground := Ground.phase }, { on := 9, ground := Ground.textOnly Departure.lateStores }, { on := 10, ground := Ground.textOnly Departure.lateStores }], guard := none }) (v := ?_) rfl (by kernel_rfl) (by kernel_rfl) (by kernel_rfl) (fun _ _ _ h => h) (Or.inl ⟨by rfl, ?_⟩) (by assumption) ?_; rotate_left; · (intro w hSw; (try dsimp only at hSw); skip; go_simp; (first | done | with_reducible rfl)))
        try simp only [Act.put, List.setIfInBounds_toArray, List.set_cons_zero, List.set_cons_succ]
        (refine wpAnyH_take (i := 12) (oi := { dst := some 11, op := Op.assign (Operand.tmp 33), type := 3, pos := "more.go:48", after := #[{ on := 9, ground := Ground.data }, { on := 11, ground := Ground.chain }, { on := 0, ground := Ground.phase }, { on := 1, ground := Ground.phase }, { on := 2, ground := Ground.phase }, { on := 3, ground := Ground.phase }, { on := 4, ground := Ground.phase }, { on := 5, ground := Ground.phase }, { on := 6, ground := Ground.phase }, { on := 7, ground := Ground.phase }, { on := 8, ground := Ground.phase }, { on := 9, ground := Ground.phase }, { on := 10, ground := Ground.textOnly Departure.lateStores }, { on := 11, ground := Ground.phase }], guard := none }) (v := ?_) rfl (by kernel_rfl) (by kernel_rfl) (by kernel_rfl) (fun _ _ _ h => h) (Or.inl ⟨by rfl, ?_⟩) (by assumption) ?_; rotate_left; · (intro w hSw; (try dsimp only at hSw); skip; go_simp; (first | done | with_reducible rfl)))
        try simp only [Act.put, List.setIfInBounds_toArray, List.set_cons_zero, List.set_cons_succ]
        (refine wpAnyH_take (i := 13) (oi := { dst := some 12, op := Op.assign (Operand.tmp 34), type := 32, pos := "more.go:48", after := #[{ on := 10, ground := Ground.data }, { on := 12, ground := Ground.chain }, { on := 0, ground := Ground.phase }, { on := 1, ground := Ground.phase }, { on := 2, ground := Ground.phase }, { on := 3, ground := Ground.phase }, { on := 4, ground := Ground.phase }, { on := 5, ground := Ground.phase }, { on := 6, ground := Ground.phase }, { on := 7, ground := Ground.phase }, { on := 8, ground := Ground.phase }, { on := 9, ground := Ground.phase }, { on := 10, ground := Ground.phase }, { on := 11, ground := Ground.phase }, { on := 12, ground := Ground.phase }], guard := none }) (v := ?_) rfl (by kernel_rfl) (by kernel_rfl) (by kernel_rfl) (fun _ _ _ h => h) (Or.inl ⟨by rfl, ?_⟩) (by assumption) ?_; rotate_left; · (intro w hSw; (try dsimp only at hSw); skip; go_simp; (first | done | with_reducible rfl)))
        try simp only [Act.put, List.setIfInBounds_toArray, List.set_cons_zero, List.set_cons_succ]
        refine wpAnyH_done (by kernel_rfl) ?_ _
        clear hHeld
        apply_assumption
        go_meet
        case rel => exact ⟨_, _, rfl, rfl, rfl, HR5, HG5⟩
    case rest =>
      rename World => w5
      obtain ⟨AG, cG, rfl, rfl, rfl, HGR, HG5⟩ := hcut
      clear CT CG
      by_cases hb : flE q (l ++ [(b1, b2, b3, b4, b5)]) = 0
      · obtain ⟨hok, hL, hR⟩ := flE_0 hb
        have hok1 := auOK_less hok
        have he1 : flE q l = 0 := by unfold flE; rw [hok1]; rfl
        obtain ⟨-, hL1, hR1⟩ := flE_0 he1
        have HBE := Lib.hid (HBE.out hok)
        have hmo := HMO.out hok
        rw [hb, he1, hL, hR, hL1, hR1]
        rw [hL] at HGR HGLN
        rw [hL1] at HFR HCF HFL
        have HSO := Lib.hid (@au_some q l)
        clear hL hR hL1 hR1 hok hok1 hb he1 HMO
        have HGF := Lib.hid (HGR.out)
        generalize hR5 : auR q (l ++ [(b1, b2, b3, b4, b5)]) = R5 at *
        generalize hR6 : auR q l = R6 at *
        generalize auF q (l ++ [(b1, b2, b3, b4, b5)]) = gl at *
        generalize auF q l = fl at *
        generalize hLF : fl.length = LF at *
        generalize hLG : gl.length = LG at *
        have HLF := Lib.hid hLF
        have HLG := Lib.hid hLG
        clear hR5 hR6 hLF hLG HGF
        have d1 : ¬ R5 > R6 := by omega
        have d2 : decide (R5 > R6) = false := decide_eq_false d1
        have hfl := HFL.out
        rw [HL.out] at hfl
        have HFR := Lib.hid (HFR.out.keep HG5.out)
        have HX5 := Lib.hid (HX2.out.keep HG5.out)
        go_wp2_with (fail)
        go_loopw [13] (fun v13 wr => ∃ i : Nat, v13 = .int .i64 i ∧ i ≤ LF ∧ Hid (Grew w5 wr)) (fun v13 _ => LF - (intOf v13).toNat)
        case atStart => exact ⟨0, rfl, by omega, grew_refl _⟩
        case round =>
          obtain ⟨i, rfl, hi, HG⟩ := hrel
          by_cases hlt : i < LF
          · have hqz := HSO.out (by omega)
            obtain ⟨bf, bo, rfl, -, -⟩ := HFR.out.rD3 hlt
            have HCT : Hid (∀ wx, Grew w5 wx → CD3 wx bf (bo + i * 3) (fl.getD i fi0)) := fun wx g => by
              obtain ⟨b2, o2, e, _, hc⟩ := (HFR.out.keep g).rD3 hlt
              cases e
              exact hc i hlt
            obtain ⟨x, hx⟩ : ∃ x, x = fl.getD i fi0 := ⟨_, rfl⟩
            have HXE : Hid (fl.getD i fi0 = x) := hx.symm
            rw [← hx] at HCT
            have hbe := HBE.out i
            clear hx hbe
            have HBE := Lib.hid (fun i hi hb => HBE.out i hi hb)
            obtain ⟨x1, x2', x3⟩ := x
            have x2 := grew_every (w := wr) (S := fun w' => w'.cell? ⟨bf, bo + i * 3 + 2, none⟩ = some (.int .i64 x3)) (fun w' g => (HCT.out _ (grew_trans HG.out g)).2.2)
            have z4 := grew_every (w := wr) (S := fun w' => w'.cell? ⟨N0, 4, none⟩ = some (.int .i64 b5)) (fun w' g => (HX5.out.keep (grew_trans HG.out g)).at 4 _ rfl)
            have hbx : (fl.getD i fi0).2.2 = x3 := by rw [HXE.out]
            have HBX := Lib.hid hbx
            clear hbx
            have i0 : (0 : Int) ≤ (i : Int) := by omega
            have i1 : (i : Int) < (LF : Int) := by omega
            go_upto_region 12 with (fail)
            rcases Int.lt_or_gt_of_ne hqz with hs | hs
            · have c1 : decide (q > 0) = false := decide_eq_false (by omega)
              have c11 : decide (0 < q) = false := decide_eq_false (by omega)
              have c2 : decide (q < 0) = true := decide_eq_true hs
              by_cases hp : x3 < b5
              · have c3 : decide (x3 < b5) = true := decide_eq_true hp
                refine wp_region_grew (by kernel_rfl) (by kernel_rfl) ?_
                repeat (go_big_quiet_step (fail))
                refine wpQuiet_nil ?_
                intro w8 hw'
                have HG8 := Lib.hid (grew_trans HG.out (grew_of hw'))
                clear hw' x2 z4
                obtain ⟨hlg, heq⟩ := HBE.out i (by first | exact hlt | (rw [HLF.out]; exact hlt)) (by rw [HXE.out]; first | exact Or.inl ⟨by omega, by show b5 < x3; omega⟩ | exact Or.inr ⟨by omega, by show x3 < b5; omega⟩)
                rw [HXE.out] at heq
                have hlg2 : i < LG := by first | exact hlg | (rw [← HLG.out]; exact hlg)
                obtain ⟨bg, og, rfl, hbg, -⟩ := HGR.out.1.rD3 hlg2
                have HRA := RowE.oneAtB (HFR.out.keep HG8.out) i hlt fi0
                have HRB := RowE.oneAtB (HGR.out.1.keep HG8.out) i hlg2 fi0
                rw [HXE.out] at HRA
                rw [heq] at HRB
                rw [Option.map_some, Addr.add_mid] at HRA HRB
                have HRA : Hid (RowE enD3 w8 (some ⟨bf, bo + i * 3, none⟩) 1 [(x1, x2', x3)]) := HRA
                have HRB : Hid (RowE enD3 w8 (some ⟨bg, og + i * 3, none⟩) 1 [(x1, x2', x3)]) := HRB
                have hcf := HCF.out
                have hcg := HGR.out.2.1
                have hmf : cF ≤ 9223372036854775807 := Nat.le_trans HCM.out (by decide)
                have hmg : cG ≤ 9223372036854775807 := Nat.le_trans HGR.out.2.2 (by decide)
                have CM := fun w' (g : Grew w8 w') => kfills_yes (some ⟨bf, bo + i * 3, none⟩) (some ⟨bg, og + i * 3, none⟩) 1 (cF - i) (cG - i) [(x1, x2', x3)] w' (HRA.out.keep g) (HRB.out.keep g) (by omega)
                have i3 : decide ((i : Int) ≥ (LG : Int)) = false := decide_eq_false (by omega)
                have i31 : ¬ (LG : Int) ≤ (i : Int) := by omega
                have i32 : decide (LG ≤ i) = false := decide_eq_false (by omega)
                have i6 : (i : Int) ≤ (i : Int) + 1 := by omega
                have i7 : (i : Int) + 1 ≤ (cF : Int) := by omega
                have i9 : (i : Int) + 1 ≤ (cG : Int) := by omega
                have i10 : cF ≠ i := by omega
                have i11 : cG ≠ i := by omega
                have i12 : IntKind.i64.wrap ((i : Int) + 1) = (i : Int) + 1 := by rw [IntKind.wrap_i64]; omega
                clear heq hlg
                go_upto_region 13 with (fail)
                refine wp_region_grew (by kernel_rfl) (by kernel_rfl) ?_
                repeat (go_big_quiet_step (first | with_reducible exact calls_every CM))
                refine wpQuiet_nil ?_
                intro w9 hw'
                have HG9 := Lib.hid (grew_trans HG8.out (grew_of hw'))
                clear hw'
                go_wp2
                go_roundw
                case rel => exact ⟨i + 1, by go_num, by omega, HG9.out⟩
                case measure => simp only [intOf]; omega
              · have c3 : decide (x3 < b5) = false := decide_eq_false hp
                refine wp_region_grew (by kernel_rfl) (by kernel_rfl) ?_
                repeat (go_big_quiet_step (fail))
                refine wpQuiet_nil ?_
                intro w8 hw'
                have HG8 := Lib.hid (grew_trans HG.out (grew_of hw'))
                clear hw' x2 z4
                go_wp2
                go_roundw
                case rel => exact ⟨i + 1, by go_num, by omega, HG8.out⟩
                case measure => simp only [intOf]; omega
            · have c1 : decide (q > 0) = true := decide_eq_true hs
              have c11 : decide (0 < q) = true := decide_eq_true (by omega)
              have c2 : decide (q < 0) = false := decide_eq_false (by omega)
              have c21 : ¬ q < 0 := by omega
              by_cases hp : b5 < x3
              · have c3 : decide (x3 > b5) = true := decide_eq_true (by omega)
                have c31 : decide (b5 < x3) = true := decide_eq_true hp
                refine wp_region_grew (by kernel_rfl) (by kernel_rfl) ?_
                repeat (go_big_quiet_step (fail))
                refine wpQuiet_nil ?_
                intro w8 hw'
                have HG8 := Lib.hid (grew_trans HG.out (grew_of hw'))
                clear hw' x2 z4
                obtain ⟨hlg, heq⟩ := HBE.out i (by first | exact hlt | (rw [HLF.out]; exact hlt)) (by rw [HXE.out]; first | exact Or.inl ⟨by omega, by show b5 < x3; omega⟩ | exact Or.inr ⟨by omega, by show x3 < b5; omega⟩)
                rw [HXE.out] at heq
                have hlg2 : i < LG := by first | exact hlg | (rw [← HLG.out]; exact hlg)
                obtain ⟨bg, og, rfl, hbg, -⟩ := HGR.out.1.rD3 hlg2
                have HRA := RowE.oneAtB (HFR.out.keep HG8.out) i hlt fi0
                have HRB := RowE.oneAtB (HGR.out.1.keep HG8.out) i hlg2 fi0
                rw [HXE.out] at HRA
                rw [heq] at HRB
                rw [Option.map_some, Addr.add_mid] at HRA HRB
                have HRA : Hid (RowE enD3 w8 (some ⟨bf, bo + i * 3, none⟩) 1 [(x1, x2', x3)]) := HRA
                have HRB : Hid (RowE enD3 w8 (some ⟨bg, og + i * 3, none⟩) 1 [(x1, x2', x3)]) := HRB
                have hcf := HCF.out
                have hcg := HGR.out.2.1
                have hmf : cF ≤ 9223372036854775807 := Nat.le_trans HCM.out (by decide)
                have hmg : cG ≤ 9223372036854775807 := Nat.le_trans HGR.out.2.2 (by decide)
                have CM := fun w' (g : Grew w8 w') => kfills_yes (some ⟨bf, bo + i * 3, none⟩) (some ⟨bg, og + i * 3, none⟩) 1 (cF - i) (cG - i) [(x1, x2', x3)] w' (HRA.out.keep g) (HRB.out.keep g) (by omega)
                have i3 : decide ((i : Int) ≥ (LG : Int)) = false := decide_eq_false (by omega)
                have i31 : ¬ (LG : Int) ≤ (i : Int) := by omega
                have i32 : decide (LG ≤ i) = false := decide_eq_false (by omega)
                have i6 : (i : Int) ≤ (i : Int) + 1 := by omega
                have i7 : (i : Int) + 1 ≤ (cF : Int) := by omega
                have i9 : (i : Int) + 1 ≤ (cG : Int) := by omega
                have i10 : cF ≠ i := by omega
                have i11 : cG ≠ i := by omega
                have i12 : IntKind.i64.wrap ((i : Int) + 1) = (i : Int) + 1 := by rw [IntKind.wrap_i64]; omega
                clear heq hlg
                go_upto_region 13 with (fail)
                refine wp_region_grew (by kernel_rfl) (by kernel_rfl) ?_
                repeat (go_big_quiet_step (first | with_reducible exact calls_every CM))
                refine wpQuiet_nil ?_
                intro w9 hw'
                have HG9 := Lib.hid (grew_trans HG8.out (grew_of hw'))
                clear hw'
                go_wp2
                go_roundw
                case rel => exact ⟨i + 1, by go_num, by omega, HG9.out⟩
                case measure => simp only [intOf]; omega
              · have c3 : decide (x3 > b5) = false := decide_eq_false (by omega)
                have c31 : decide (b5 < x3) = false := decide_eq_false hp
                refine wp_region_grew (by kernel_rfl) (by kernel_rfl) ?_
                repeat (go_big_quiet_step (fail))
                refine wpQuiet_nil ?_
                intro w8 hw'
                have HG8 := Lib.hid (grew_trans HG.out (grew_of hw'))
                clear hw' x2 z4
                go_wp2
                go_roundw
                case rel => exact ⟨i + 1, by go_num, by omega, HG8.out⟩
                case measure => simp only [intOf]; omega
          · obtain rfl : i = LF := by omega
            go_wp2_with (go_at_call 19; ((with_reducible refine (CW _).mono ?_); rintro e w9 ⟨rfl, hg⟩))
            go_ret
            exact ⟨rfl, grew_trans HG2.out (grew_trans HG5.out (grew_trans HG.out hg))⟩
      · have h2 : (flE q (l ++ [(b1, b2, b3, b4, b5)]) != 0) = true := by simpa using hb
        have HGZ := Lib.hid (grew_trans HG2.out HG5.out)
        clear HMO HBE HFR HGR HGLN HFL HCF HCM HX2 HG2 HG5
        generalize flE q (l ++ [(b1, b2, b3, b4, b5)]) = e2 at *
        by_cases ha : flE q l = 0
        · rw [ha]
          clear ha
          go_wp2_with (go_at_call 19; ((with_reducible refine (CW _).mono ?_); rintro e w9 ⟨rfl, hg⟩))
          go_ret
          exact ⟨rfl, grew_trans HGZ.out hg⟩
        · have h1 : (flE q l != 0) = true := by simpa using ha
          generalize flE q l = e1 at *
          go_wp2_with (go_at_call 19; ((with_reducible refine (CW _).mono ?_); rintro e w9 ⟨rfl, hg⟩))
          go_ret
          exact ⟨rfl, grew_trans HGZ.out hg⟩
end Go.Proofs.Ytahioajpmlochaa.NumK
