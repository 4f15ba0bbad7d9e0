/- A list of Mb: slices.BinarySearchFunc, Clone, Grow, Concat. -/
import Derived.Test.YtnbgbfbiieimgaaRC
import Derived.Test.YtnbgbfbiieimgaaRA
import Derived.Test.YtnbgbfbiieimgaaRA2
import Derived.Lib.AppendZerosOnto
import Derived.Lib.Walk
import Derived.Lib.SliceRun
namespace Go.Proofs.Ytnbgbfbiieimgaa.NumK
open Go.RowKit
set_option linter.unusedVariables false

abbrev noVMb : Value := .func (.func 45) #[] #[]
theorem cmpMb_any (x : Mb) (m : Int) (N : Nat) (w : World) (hb : N < w.heap.size) (hN : w.cell? ⟨N, 0, none⟩ = some noVMb) :
    Calls Try.prog 73 #[vMb x, .int .i64 m, .pointer (some ⟨N, 0, none⟩)] w fun e w' => e = .returned (.int .i64 (cmpI (noMb x) m)) ∧ Grew w w' := by
  have CN := fun w => memberNo_any x w
  have CC := fun w => compare_any (noMb x) m w
  generalize noMb x = nx at *
  generalize cmpI nx m = R at *
  obtain ⟨q1, q2, q3⟩ := x
  dsimp only [vMb] at CN ⊢
  have c0 := (grew_cell (grew_alloc w #[.int .i64 q1, .int .i64 q2, .int .i64 q3] 33) (p := ⟨N, 0, none⟩) hb).trans hN
  dsimp only [noVMb] at c0
  go_enter Try.func73, Try.ntmps73
  go_wp2_with (first
    | (go_at_call 45; ((with_reducible refine (CN _).mono ?_); rintro e w1 ⟨rfl, hg⟩; have HG1 := Lib.hid (own_back hg); clear hg CN))
    | (go_at_call 74; ((with_reducible refine (CC _).mono ?_); rintro e w2 ⟨rfl, rfl⟩; clear CC)))
  go_ret
  exact ⟨rfl, HG1.out⟩

/-- What the search tells. -/
def FoundMb (l : List Mb) (m : Int) (n : Nat) (k : Nat) (th : Bool) : Prop :=
  k ≤ n ∧ (∀ i, i < k → noMb (l.getD i mb0) < m) ∧ (∀ i, k ≤ i → i < n → m ≤ noMb (l.getD i mb0)) ∧ (th = true ↔ k < n ∧ noMb (l.getD k mb0) = m)

def SearchMb (l : List Mb) (m : Int) (n : Nat) (w : World) (e : Ending) (w' : World) : Prop :=
  ∃ k th, e = .returned (.tuple #[.int .i64 ((k : Nat) : Int), .bool th]) ∧ FoundMb l m n k th ∧ Grew w w'

set_option maxRecDepth 100000 in
set_option maxHeartbeats 2000000 in
theorem searchMb_any (A : Option Addr) (n c : Nat) (l : List Mb) (m : Int) (N : Nat) (w : World) (h : RowE enMb w A n l) (hr : Rise noMb l) (hn : n ≤ 1000000) (hb : N < w.heap.size) (hN : w.cell? ⟨N, 0, none⟩ = some noVMb) :
    Calls Try.prog 72 #[.slice A n c, .int .i64 m, .func (.func 73) #[] #[.pointer (some ⟨N, 0, none⟩)]] w (SearchMb l m n w) := by
  have HI := Lib.hid h
  have HR : Hid (∀ i j, i < j → j < n → noMb (l.getD i mb0) < noMb (l.getD j mb0)) := fun i j hij hj => by
    have hl := h.len
    rw [getD_at l _ i (by omega), getD_at l _ j (by omega)]
    exact List.pairwise_iff_getElem.1 hr i j (by omega) (by omega) hij
  have CC := fun w' (g : Grew w w') x => cmpMb_any x m N w' (Nat.lt_of_lt_of_le hb g.size) ((grew_cell g (p := ⟨N, 0, none⟩) hb).trans hN)
  dsimp only [vMb] at CC
  clear h hr hb hN
  go_enter Try.func72, Try.ntmps72
  go_wp2
  go_loopw [9, 10] (fun v9 v10 wr => ∃ i j : Nat, v9 = .int .i64 i ∧ v10 = .int .i64 j ∧ i ≤ j ∧ j ≤ n ∧ Hid (∀ k, k < i → noMb (l.getD k mb0) < m) ∧ Hid (∀ k, j ≤ k → k < n → m ≤ noMb (l.getD k mb0)) ∧ Hid (Grew w wr)) (fun v9 v10 _ => (intOf v10).toNat - (intOf v9).toNat)
  case atStart => exact ⟨0, n, rfl, rfl, by omega, by omega, (by intro k hk; omega), (by intro k hk hk2; omega), grew_refl _⟩
  case round =>
    obtain ⟨i, j, rfl, rfl, hij, hj, HA, HB, HG⟩ := hrel
    by_cases hlt : i < j
    · have i1 : (i : Int) < (j : Int) := by omega
      obtain ⟨hh, hhd⟩ : ∃ hh, hh = (i + j) / 2 := ⟨_, rfl⟩
      have hh1 : i ≤ hh ∧ hh < j := by omega
      obtain ⟨b, o, rfl, hb, hc⟩ := (HI.out.keep HG.out).mb (j := hh) (by omega)
      obtain ⟨a0, a1, a2⟩ := hc hh (by omega)
      clear hc hb
      have e1 : IntKind.i64.wrap ((i : Int) + (j : Int)) = (i : Int) + (j : Int) := by rw [IntKind.wrap_i64]; omega
      have e2 : IntKind.u64.wrap ((i : Int) + (j : Int)) = (i : Int) + (j : Int) := by rw [IntKind.wrap_u64]; omega
      have CX := fun w' g => CC w' g (l.getD hh mb0)
      have HNX : Hid (∀ k, noMb (l.getD k mb0) = noMb (l.getD k mb0)) := fun _ => rfl
      have HLT := Lib.hid (cmpI_lt (noMb (l.getD hh mb0)) m)
      generalize cmpI (noMb (l.getD hh mb0)) m = cr at *
      have HNX : Hid (∀ y, noMb (l.getD hh mb0) = y → noMb (l.getD hh mb0) = y) := fun _ h => h
      have i2 : (0 : Int) ≤ (hh : Int) := by omega
      have i3 : (hh : Int) < (n : Int) := by omega
      have e3 : ((i : Int) + (j : Int)) / 2 = (hh : Int) := by omega
      have e4 : IntKind.i64.wrap ((hh : Int) + 1) = ((hh + 1 : Nat) : Int) := by rw [IntKind.wrap_i64]; omega
      clear hhd
      by_cases hc : cr < 0
      · have HLO : Hid (∀ k, k < hh + 1 → noMb (l.getD k mb0) < m) := fun k hk => by
          have h1 := HLT.out.1 hc
          rcases Nat.lt_or_ge k hh with h2 | h2
          · have := HR.out k hh h2 (by omega); omega
          · obtain rfl : k = hh := by omega
            exact h1
        clear HA HLT HNX
        generalize l.getD hh mb0 = x at *
        obtain ⟨q1, q2, q3⟩ := x
        dsimp only at a0 a1 a2  CX
        go_wp2_with ((with_reducible refine (CX _ HG.out).mono ?_); rintro e w5 ⟨rfl, hg⟩; have HG5 := Lib.hid (grew_trans HG.out hg); clear hg)
        go_roundw
        case rel => exact ⟨hh + 1, j, by go_num, rfl, by omega, hj, HLO.out, HB.out, HG5.out⟩
        case measure => simp only [intOf]; omega
      · have HHI : Hid (∀ k, hh ≤ k → k < n → m ≤ noMb (l.getD k mb0)) := fun k hk hkn => by
          have h1 : ¬ noMb (l.getD hh mb0) < m := fun h => hc (HLT.out.2 h)
          rcases Nat.eq_or_lt_of_le hk with h2 | h2
          · subst h2; omega
          · have := HR.out hh k h2 hkn; omega
        clear HB HLT HNX
        generalize l.getD hh mb0 = x at *
        obtain ⟨q1, q2, q3⟩ := x
        dsimp only at a0 a1 a2  CX
        go_wp2_with ((with_reducible refine (CX _ HG.out).mono ?_); rintro e w5 ⟨rfl, hg⟩; have HG5 := Lib.hid (grew_trans HG.out hg); clear hg)
        go_roundw
        case rel => exact ⟨i, hh, rfl, rfl, by omega, by omega, HA.out, HHI.out, HG5.out⟩
        case measure => simp only [intOf]; omega
    · obtain rfl : i = j := by omega
      by_cases hin : i < n
      · obtain ⟨b, o, rfl, hb, hc⟩ := (HI.out.keep HG.out).mb (j := i) hin
        obtain ⟨a0, a1, a2⟩ := hc i hin
        clear hc hb
        have CX := fun w' g => CC w' g (l.getD i mb0)
        have HEQ := Lib.hid (cmpI_eq (noMb (l.getD i mb0)) m)
        generalize cmpI (noMb (l.getD i mb0)) m = cr at *
        have i2 : (0 : Int) ≤ (i : Int) := by omega
        have i3 : (i : Int) < (n : Int) := by omega
        by_cases hc : cr = 0
        · have HF : Hid (FoundMb l m n i true) := ⟨hj, HA.out, HB.out, fun _ => ⟨hin, HEQ.out.1 hc⟩, fun _ => rfl⟩
          subst hc
          clear HA HB HEQ
          generalize l.getD i mb0 = x at *
          obtain ⟨q1, q2, q3⟩ := x
          dsimp only at a0 a1 a2  CX
          go_wp2_with ((with_reducible refine (CX _ HG.out).mono ?_); rintro e w5 ⟨rfl, hg⟩; have HG5 := Lib.hid (grew_trans HG.out hg); clear hg)
          go_ret2
          exact ⟨i, true, rfl, HF.out, HG5.out⟩
        · have HF : Hid (FoundMb l m n i false) := ⟨hj, HA.out, HB.out, fun h => (by cases h), fun h => absurd (HEQ.out.2 h.2) hc⟩
          have hc2 : (cr == 0) = false := by simpa using hc
          clear HA HB HEQ hc
          generalize l.getD i mb0 = x at *
          obtain ⟨q1, q2, q3⟩ := x
          dsimp only at a0 a1 a2  CX
          go_wp2_with ((with_reducible refine (CX _ HG.out).mono ?_); rintro e w5 ⟨rfl, hg⟩; have HG5 := Lib.hid (grew_trans HG.out hg); clear hg)
          go_ret2
          exact ⟨i, false, rfl, HF.out, HG5.out⟩
      · have HF : Hid (FoundMb l m n i false) := ⟨hj, HA.out, HB.out, fun h => (by cases h), fun h => absurd h.1 hin⟩
        have i3 : ¬ (i : Int) < (n : Int) := by omega
        clear HA HB
        go_wp2
        go_ret2
        exact ⟨i, false, rfl, HF.out, HG.out⟩

set_option maxRecDepth 100000 in
theorem cloneMb_any (A : Option Addr) (n c : Nat) (l : List Mb) (w : World) (h : RowE enMb w A n l) (hA : A = none → c = 0) (hn : n ≤ 1000000) :
    Calls Try.prog 68 #[.slice A n c] w fun e w' => ∃ v, e = .returned v ∧ OwnE enMb w' w.heap.size 33 v l ∧ Grew w w' := by
  have q22 : ∀ (w : World) (a : Option Addr) (n c n' c' : Nat), (binOp .eql 22 (.slice a n c) (.slice none n' c')).run Try.prog w = .ok (.bool a.isNone) w := fun w a n c n' c' => Lib.run_eql_slice_nil w _ _ a n c n' c' Try.underlying22
  cases A with
  | none =>
    obtain rfl := hA rfl
    obtain rfl : n = 0 := by
      rcases Nat.eq_zero_or_pos n with h1 | h1
      · exact h1
      · obtain ⟨b, o, e, _⟩ := h.2 h1; cases e
    obtain rfl := List.eq_nil_of_length_eq_zero h.len
    go_enter Try.func68, Try.ntmps68
    go_wp2
    go_ret
    exact ⟨_, rfl, OwnE.nil _ _ _ _, grew_refl _⟩
  | some ad =>
    have HI := Lib.hid h
    clear h hA
    obtain ⟨ab, ao, asp⟩ := ad
    go_enter Try.func68, Try.ntmps68
    go_wp2_with (at_builtin; refine (wpList_append_E rfl _ _ 22 33 (vMb mb0) 24 rfl Try.underlying22 info_mb rfl w.heap.size _ [] rfl (OwnE.empty enMb w _ _ (Nat.le_refl _)) _ n c l rfl (by intro h; cases h) (HI.out.keep (grew_alloc _ _ _)) (by simp; unfold maxLen; omega) (by simp; omega) (by simp) ?_); intro v' w' ho hb; rw [List.nil_append] at ho; have HP := Lib.hid ho; have HB : Hid (Grew w w') := Below.trans (grew_alloc _ _ _) hb; clear ho hb)
    go_ret
    exact ⟨_, rfl, HP.out, HB.out⟩
end Go.Proofs.Ytnbgbfbiieimgaa.NumK
namespace Go.Proofs.Ytnbgbfbiieimgaa.NumK
open Go.RowKit
set_option linter.unusedVariables false

abbrev noVIn : Value := .func (.func 48) #[] #[]
theorem cmpIn_any (x : In) (m : Int) (N : Nat) (w : World) (hb : N < w.heap.size) (hN : w.cell? ⟨N, 0, none⟩ = some noVIn) :
    Calls Try.prog 77 #[vIn x, .int .i64 m, .pointer (some ⟨N, 0, none⟩)] w fun e w' => e = .returned (.int .i64 (cmpI (noIn x) m)) ∧ Grew w w' := by
  have CN := fun w => instNo_any x w
  have CC := fun w => compare_any (noIn x) m w
  generalize noIn x = nx at *
  generalize cmpI nx m = R at *
  obtain ⟨⟨q1, q2, q3, q4, q5, q6⟩, ⟨q7, q8, q9, q10, q11, q12⟩⟩ := x
  dsimp only [vIn] at CN ⊢
  have c0 := (grew_cell (grew_alloc w #[.int .i64 q1, .int .i64 q2, .int .i64 q3, .int .i64 q4, .int .i64 q5, .int .i64 q6, .int .i64 q7, .int .i64 q8, .int .i64 q9, .int .i64 q10, .int .i64 q11, .int .i64 q12] 38) (p := ⟨N, 0, none⟩) hb).trans hN
  dsimp only [noVIn] at c0
  go_enter Try.func77, Try.ntmps77
  go_wp2_with (first
    | (go_at_call 48; ((with_reducible refine (CN _).mono ?_); rintro e w1 ⟨rfl, hg⟩; have HG1 := Lib.hid (own_back hg); clear hg CN))
    | (go_at_call 74; ((with_reducible refine (CC _).mono ?_); rintro e w2 ⟨rfl, rfl⟩; clear CC)))
  go_ret
  exact ⟨rfl, HG1.out⟩

/-- What the search tells. -/
def FoundIn (l : List In) (m : Int) (n : Nat) (k : Nat) (th : Bool) : Prop :=
  k ≤ n ∧ (∀ i, i < k → noIn (l.getD i in0) < m) ∧ (∀ i, k ≤ i → i < n → m ≤ noIn (l.getD i in0)) ∧ (th = true ↔ k < n ∧ noIn (l.getD k in0) = m)

def SearchIn (l : List In) (m : Int) (n : Nat) (w : World) (e : Ending) (w' : World) : Prop :=
  ∃ k th, e = .returned (.tuple #[.int .i64 ((k : Nat) : Int), .bool th]) ∧ FoundIn l m n k th ∧ Grew w w'

set_option maxRecDepth 100000 in
set_option maxHeartbeats 2000000 in
theorem searchIn_any (A : Option Addr) (n c : Nat) (l : List In) (m : Int) (N : Nat) (w : World) (h : RowE enIn w A n l) (hr : Rise noIn l) (hn : n ≤ 1000000) (hb : N < w.heap.size) (hN : w.cell? ⟨N, 0, none⟩ = some noVIn) :
    Calls Try.prog 76 #[.slice A n c, .int .i64 m, .func (.func 77) #[] #[.pointer (some ⟨N, 0, none⟩)]] w (SearchIn l m n w) := by
  have HI := Lib.hid h
  have HR : Hid (∀ i j, i < j → j < n → noIn (l.getD i in0) < noIn (l.getD j in0)) := fun i j hij hj => by
    have hl := h.len
    rw [getD_at l _ i (by omega), getD_at l _ j (by omega)]
    exact List.pairwise_iff_getElem.1 hr i j (by omega) (by omega) hij
  have CC := fun w' (g : Grew w w') x => cmpIn_any x m N w' (Nat.lt_of_lt_of_le hb g.size) ((grew_cell g (p := ⟨N, 0, none⟩) hb).trans hN)
  dsimp only [vIn] at CC
  clear h hr hb hN
  go_enter Try.func76, Try.ntmps76
  go_wp2
  go_loopw [9, 10] (fun v9 v10 wr => ∃ i j : Nat, v9 = .int .i64 i ∧ v10 = .int .i64 j ∧ i ≤ j ∧ j ≤ n ∧ Hid (∀ k, k < i → noIn (l.getD k in0) < m) ∧ Hid (∀ k, j ≤ k → k < n → m ≤ noIn (l.getD k in0)) ∧ Hid (Grew w wr)) (fun v9 v10 _ => (intOf v10).toNat - (intOf v9).toNat)
  case atStart => exact ⟨0, n, rfl, rfl, by omega, by omega, (by intro k hk; omega), (by intro k hk hk2; omega), grew_refl _⟩
  case round =>
    obtain ⟨i, j, rfl, rfl, hij, hj, HA, HB, HG⟩ := hrel
    by_cases hlt : i < j
    · have i1 : (i : Int) < (j : Int) := by omega
      obtain ⟨hh, hhd⟩ : ∃ hh, hh = (i + j) / 2 := ⟨_, rfl⟩
      have hh1 : i ≤ hh ∧ hh < j := by omega
      obtain ⟨b, o, rfl, hb, hc⟩ := (HI.out.keep HG.out).in (j := hh) (by omega)
      obtain ⟨a0, a1, a2, a3, a4, a5, a6, a7, a8, a9, a10, a11⟩ := hc hh (by omega)
      clear hc hb
      have e1 : IntKind.i64.wrap ((i : Int) + (j : Int)) = (i : Int) + (j : Int) := by rw [IntKind.wrap_i64]; omega
      have e2 : IntKind.u64.wrap ((i : Int) + (j : Int)) = (i : Int) + (j : Int) := by rw [IntKind.wrap_u64]; omega
      have CX := fun w' g => CC w' g (l.getD hh in0)
      have HNX : Hid (∀ k, noIn (l.getD k in0) = noIn (l.getD k in0)) := fun _ => rfl
      have HLT := Lib.hid (cmpI_lt (noIn (l.getD hh in0)) m)
      generalize cmpI (noIn (l.getD hh in0)) m = cr at *
      have HNX : Hid (∀ y, noIn (l.getD hh in0) = y → noIn (l.getD hh in0) = y) := fun _ h => h
      have i2 : (0 : Int) ≤ (hh : Int) := by omega
      have i3 : (hh : Int) < (n : Int) := by omega
      have e3 : ((i : Int) + (j : Int)) / 2 = (hh : Int) := by omega
      have e4 : IntKind.i64.wrap ((hh : Int) + 1) = ((hh + 1 : Nat) : Int) := by rw [IntKind.wrap_i64]; omega
      clear hhd
      by_cases hc : cr < 0
      · have HLO : Hid (∀ k, k < hh + 1 → noIn (l.getD k in0) < m) := fun k hk => by
          have h1 := HLT.out.1 hc
          rcases Nat.lt_or_ge k hh with h2 | h2
          · have := HR.out k hh h2 (by omega); omega
          · obtain rfl : k = hh := by omega
            exact h1
        clear HA HLT HNX
        generalize l.getD hh in0 = x at *
        obtain ⟨⟨q1, q2, q3, q4, q5, q6⟩, ⟨q7, q8, q9, q10, q11, q12⟩⟩ := x
        dsimp only at a0 a1 a2 a3 a4 a5 a6 a7 a8 a9 a10 a11  CX
        go_wp2_with ((with_reducible refine (CX _ HG.out).mono ?_); rintro e w5 ⟨rfl, hg⟩; have HG5 := Lib.hid (grew_trans HG.out hg); clear hg)
        go_roundw
        case rel => exact ⟨hh + 1, j, by go_num, rfl, by omega, hj, HLO.out, HB.out, HG5.out⟩
        case measure => simp only [intOf]; omega
      · have HHI : Hid (∀ k, hh ≤ k → k < n → m ≤ noIn (l.getD k in0)) := fun k hk hkn => by
          have h1 : ¬ noIn (l.getD hh in0) < m := fun h => hc (HLT.out.2 h)
          rcases Nat.eq_or_lt_of_le hk with h2 | h2
          · subst h2; omega
          · have := HR.out hh k h2 hkn; omega
        clear HB HLT HNX
        generalize l.getD hh in0 = x at *
        obtain ⟨⟨q1, q2, q3, q4, q5, q6⟩, ⟨q7, q8, q9, q10, q11, q12⟩⟩ := x
        dsimp only at a0 a1 a2 a3 a4 a5 a6 a7 a8 a9 a10 a11  CX
        go_wp2_with ((with_reducible refine (CX _ HG.out).mono ?_); rintro e w5 ⟨rfl, hg⟩; have HG5 := Lib.hid (grew_trans HG.out hg); clear hg)
        go_roundw
        case rel => exact ⟨i, hh, rfl, rfl, by omega, by omega, HA.out, HHI.out, HG5.out⟩
        case measure => simp only [intOf]; omega
    · obtain rfl : i = j := by omega
      by_cases hin : i < n
      · obtain ⟨b, o, rfl, hb, hc⟩ := (HI.out.keep HG.out).in (j := i) hin
        obtain ⟨a0, a1, a2, a3, a4, a5, a6, a7, a8, a9, a10, a11⟩ := hc i hin
        clear hc hb
        have CX := fun w' g => CC w' g (l.getD i in0)
        have HEQ := Lib.hid (cmpI_eq (noIn (l.getD i in0)) m)
        generalize cmpI (noIn (l.getD i in0)) m = cr at *
        have i2 : (0 : Int) ≤ (i : Int) := by omega
        have i3 : (i : Int) < (n : Int) := by omega
        by_cases hc : cr = 0
        · have HF : Hid (FoundIn l m n i true) := ⟨hj, HA.out, HB.out, fun _ => ⟨hin, HEQ.out.1 hc⟩, fun _ => rfl⟩
          subst hc
          clear HA HB HEQ
          generalize l.getD i in0 = x at *
          obtain ⟨⟨q1, q2, q3, q4, q5, q6⟩, ⟨q7, q8, q9, q10, q11, q12⟩⟩ := x
          dsimp only at a0 a1 a2 a3 a4 a5 a6 a7 a8 a9 a10 a11  CX
          go_wp2_with ((with_reducible refine (CX _ HG.out).mono ?_); rintro e w5 ⟨rfl, hg⟩; have HG5 := Lib.hid (grew_trans HG.out hg); clear hg)
          go_ret2
          exact ⟨i, true, rfl, HF.out, HG5.out⟩
        · have HF : Hid (FoundIn l m n i false) := ⟨hj, HA.out, HB.out, fun h => (by cases h), fun h => absurd (HEQ.out.2 h.2) hc⟩
          have hc2 : (cr == 0) = false := by simpa using hc
          clear HA HB HEQ hc
          generalize l.getD i in0 = x at *
          obtain ⟨⟨q1, q2, q3, q4, q5, q6⟩, ⟨q7, q8, q9, q10, q11, q12⟩⟩ := x
          dsimp only at a0 a1 a2 a3 a4 a5 a6 a7 a8 a9 a10 a11  CX
          go_wp2_with ((with_reducible refine (CX _ HG.out).mono ?_); rintro e w5 ⟨rfl, hg⟩; have HG5 := Lib.hid (grew_trans HG.out hg); clear hg)
          go_ret2
          exact ⟨i, false, rfl, HF.out, HG5.out⟩
      · have HF : Hid (FoundIn l m n i false) := ⟨hj, HA.out, HB.out, fun h => (by cases h), fun h => absurd h.1 hin⟩
        have i3 : ¬ (i : Int) < (n : Int) := by omega
        clear HA HB
        go_wp2
        go_ret2
        exact ⟨i, false, rfl, HF.out, HG.out⟩

set_option maxRecDepth 100000 in
theorem cloneIn_any (A : Option Addr) (n c : Nat) (l : List In) (w : World) (h : RowE enIn w A n l) (hA : A = none → c = 0) (hn : n ≤ 1000000) :
    Calls Try.prog 69 #[.slice A n c] w fun e w' => ∃ v, e = .returned v ∧ OwnE enIn w' w.heap.size 38 v l ∧ Grew w w' := by
  have q22 : ∀ (w : World) (a : Option Addr) (n c n' c' : Nat), (binOp .eql 23 (.slice a n c) (.slice none n' c')).run Try.prog w = .ok (.bool a.isNone) w := fun w a n c n' c' => Lib.run_eql_slice_nil w _ _ a n c n' c' Try.underlying23
  cases A with
  | none =>
    obtain rfl := hA rfl
    obtain rfl : n = 0 := by
      rcases Nat.eq_zero_or_pos n with h1 | h1
      · exact h1
      · obtain ⟨b, o, e, _⟩ := h.2 h1; cases e
    obtain rfl := List.eq_nil_of_length_eq_zero h.len
    go_enter Try.func69, Try.ntmps69
    go_wp2
    go_ret
    exact ⟨_, rfl, OwnE.nil _ _ _ _, grew_refl _⟩
  | some ad =>
    have HI := Lib.hid h
    clear h hA
    obtain ⟨ab, ao, asp⟩ := ad
    go_enter Try.func69, Try.ntmps69
    go_wp2_with (at_builtin; refine (wpList_append_E rfl _ _ 23 38 (vIn in0) 96 rfl Try.underlying23 info_in rfl w.heap.size _ [] rfl (OwnE.empty enIn w _ _ (Nat.le_refl _)) _ n c l rfl (by intro h; cases h) (HI.out.keep (grew_alloc _ _ _)) (by simp; unfold maxLen; omega) (by simp; omega) (by simp) ?_); intro v' w' ho hb; rw [List.nil_append] at ho; have HP := Lib.hid ho; have HB : Hid (Grew w w') := Below.trans (grew_alloc _ _ _) hb; clear ho hb)
    go_ret
    exact ⟨_, rfl, HP.out, HB.out⟩
end Go.Proofs.Ytnbgbfbiieimgaa.NumK
namespace Go.Proofs.Ytnbgbfbiieimgaa.NumK
open Go.RowKit
set_option linter.unusedVariables false

abbrev noVAs : Value := .func (.func 51) #[] #[]
theorem cmpAs_any (x : As) (m : Int) (N : Nat) (w : World) (hb : N < w.heap.size) (hN : w.cell? ⟨N, 0, none⟩ = some noVAs) :
    Calls Try.prog 80 #[vAs x, .int .i64 m, .pointer (some ⟨N, 0, none⟩)] w fun e w' => e = .returned (.int .i64 (cmpI (noAs x) m)) ∧ Grew w w' := by
  have CN := fun w => assetNo_any x w
  have CC := fun w => compare_any (noAs x) m w
  generalize noAs x = nx at *
  generalize cmpI nx m = R at *
  obtain ⟨q1, q2, q3, q4⟩ := x
  dsimp only [vAs] at CN ⊢
  have c0 := (grew_cell (grew_alloc w #[.int .i64 q1, .int .i64 q2, .int .i64 q3, .int .i64 q4] 42) (p := ⟨N, 0, none⟩) hb).trans hN
  dsimp only [noVAs] at c0
  go_enter Try.func80, Try.ntmps80
  go_wp2_with (first
    | (go_at_call 51; ((with_reducible refine (CN _).mono ?_); rintro e w1 ⟨rfl, hg⟩; have HG1 := Lib.hid (own_back hg); clear hg CN))
    | (go_at_call 74; ((with_reducible refine (CC _).mono ?_); rintro e w2 ⟨rfl, rfl⟩; clear CC)))
  go_ret
  exact ⟨rfl, HG1.out⟩

/-- What the search tells. -/
def FoundAs (l : List As) (m : Int) (n : Nat) (k : Nat) (th : Bool) : Prop :=
  k ≤ n ∧ (∀ i, i < k → noAs (l.getD i as0) < m) ∧ (∀ i, k ≤ i → i < n → m ≤ noAs (l.getD i as0)) ∧ (th = true ↔ k < n ∧ noAs (l.getD k as0) = m)

def SearchAs (l : List As) (m : Int) (n : Nat) (w : World) (e : Ending) (w' : World) : Prop :=
  ∃ k th, e = .returned (.tuple #[.int .i64 ((k : Nat) : Int), .bool th]) ∧ FoundAs l m n k th ∧ Grew w w'

set_option maxRecDepth 100000 in
set_option maxHeartbeats 2000000 in
theorem searchAs_any (A : Option Addr) (n c : Nat) (l : List As) (m : Int) (N : Nat) (w : World) (h : RowE enAs w A n l) (hr : Rise noAs l) (hn : n ≤ 1000000) (hb : N < w.heap.size) (hN : w.cell? ⟨N, 0, none⟩ = some noVAs) :
    Calls Try.prog 79 #[.slice A n c, .int .i64 m, .func (.func 80) #[] #[.pointer (some ⟨N, 0, none⟩)]] w (SearchAs l m n w) := by
  have HI := Lib.hid h
  have HR : Hid (∀ i j, i < j → j < n → noAs (l.getD i as0) < noAs (l.getD j as0)) := fun i j hij hj => by
    have hl := h.len
    rw [getD_at l _ i (by omega), getD_at l _ j (by omega)]
    exact List.pairwise_iff_getElem.1 hr i j (by omega) (by omega) hij
  have CC := fun w' (g : Grew w w') x => cmpAs_any x m N w' (Nat.lt_of_lt_of_le hb g.size) ((grew_cell g (p := ⟨N, 0, none⟩) hb).trans hN)
  dsimp only [vAs] at CC
  clear h hr hb hN
  go_enter Try.func79, Try.ntmps79
  go_wp2
  go_loopw [9, 10] (fun v9 v10 wr => ∃ i j : Nat, v9 = .int .i64 i ∧ v10 = .int .i64 j ∧ i ≤ j ∧ j ≤ n ∧ Hid (∀ k, k < i → noAs (l.getD k as0) < m) ∧ Hid (∀ k, j ≤ k → k < n → m ≤ noAs (l.getD k as0)) ∧ Hid (Grew w wr)) (fun v9 v10 _ => (intOf v10).toNat - (intOf v9).toNat)
  case atStart => exact ⟨0, n, rfl, rfl, by omega, by omega, (by intro k hk; omega), (by intro k hk hk2; omega), grew_refl _⟩
  case round =>
    obtain ⟨i, j, rfl, rfl, hij, hj, HA, HB, HG⟩ := hrel
    by_cases hlt : i < j
    · have i1 : (i : Int) < (j : Int) := by omega
      obtain ⟨hh, hhd⟩ : ∃ hh, hh = (i + j) / 2 := ⟨_, rfl⟩
      have hh1 : i ≤ hh ∧ hh < j := by omega
      obtain ⟨b, o, rfl, hb, hc⟩ := (HI.out.keep HG.out).as (j := hh) (by omega)
      obtain ⟨a0, a1, a2, a3⟩ := hc hh (by omega)
      clear hc hb
      have e1 : IntKind.i64.wrap ((i : Int) + (j : Int)) = (i : Int) + (j : Int) := by rw [IntKind.wrap_i64]; omega
      have e2 : IntKind.u64.wrap ((i : Int) + (j : Int)) = (i : Int) + (j : Int) := by rw [IntKind.wrap_u64]; omega
      have CX := fun w' g => CC w' g (l.getD hh as0)
      have HNX : Hid (∀ k, noAs (l.getD k as0) = noAs (l.getD k as0)) := fun _ => rfl
      have HLT := Lib.hid (cmpI_lt (noAs (l.getD hh as0)) m)
      generalize cmpI (noAs (l.getD hh as0)) m = cr at *
      have HNX : Hid (∀ y, noAs (l.getD hh as0) = y → noAs (l.getD hh as0) = y) := fun _ h => h
      have i2 : (0 : Int) ≤ (hh : Int) := by omega
      have i3 : (hh : Int) < (n : Int) := by omega
      have e3 : ((i : Int) + (j : Int)) / 2 = (hh : Int) := by omega
      have e4 : IntKind.i64.wrap ((hh : Int) + 1) = ((hh + 1 : Nat) : Int) := by rw [IntKind.wrap_i64]; omega
      clear hhd
      by_cases hc : cr < 0
      · have HLO : Hid (∀ k, k < hh + 1 → noAs (l.getD k as0) < m) := fun k hk => by
          have h1 := HLT.out.1 hc
          rcases Nat.lt_or_ge k hh with h2 | h2
          · have := HR.out k hh h2 (by omega); omega
          · obtain rfl : k = hh := by omega
            exact h1
        clear HA HLT HNX
        generalize l.getD hh as0 = x at *
        obtain ⟨q1, q2, q3, q4⟩ := x
        dsimp only at a0 a1 a2 a3  CX
        go_wp2_with ((with_reducible refine (CX _ HG.out).mono ?_); rintro e w5 ⟨rfl, hg⟩; have HG5 := Lib.hid (grew_trans HG.out hg); clear hg)
        go_roundw
        case rel => exact ⟨hh + 1, j, by go_num, rfl, by omega, hj, HLO.out, HB.out, HG5.out⟩
        case measure => simp only [intOf]; omega
      · have HHI : Hid (∀ k, hh ≤ k → k < n → m ≤ noAs (l.getD k as0)) := fun k hk hkn => by
          have h1 : ¬ noAs (l.getD hh as0) < m := fun h => hc (HLT.out.2 h)
          rcases Nat.eq_or_lt_of_le hk with h2 | h2
          · subst h2; omega
          · have := HR.out hh k h2 hkn; omega
        clear HB HLT HNX
        generalize l.getD hh as0 = x at *
        obtain ⟨q1, q2, q3, q4⟩ := x
        dsimp only at a0 a1 a2 a3  CX
        go_wp2_with ((with_reducible refine (CX _ HG.out).mono ?_); rintro e w5 ⟨rfl, hg⟩; have HG5 := Lib.hid (grew_trans HG.out hg); clear hg)
        go_roundw
        case rel => exact ⟨i, hh, rfl, rfl, by omega, by omega, HA.out, HHI.out, HG5.out⟩
        case measure => simp only [intOf]; omega
    · obtain rfl : i = j := by omega
      by_cases hin : i < n
      · obtain ⟨b, o, rfl, hb, hc⟩ := (HI.out.keep HG.out).as (j := i) hin
        obtain ⟨a0, a1, a2, a3⟩ := hc i hin
        clear hc hb
        have CX := fun w' g => CC w' g (l.getD i as0)
        have HEQ := Lib.hid (cmpI_eq (noAs (l.getD i as0)) m)
        generalize cmpI (noAs (l.getD i as0)) m = cr at *
        have i2 : (0 : Int) ≤ (i : Int) := by omega
        have i3 : (i : Int) < (n : Int) := by omega
        by_cases hc : cr = 0
        · have HF : Hid (FoundAs l m n i true) := ⟨hj, HA.out, HB.out, fun _ => ⟨hin, HEQ.out.1 hc⟩, fun _ => rfl⟩
          subst hc
          clear HA HB HEQ
          generalize l.getD i as0 = x at *
          obtain ⟨q1, q2, q3, q4⟩ := x
          dsimp only at a0 a1 a2 a3  CX
          go_wp2_with ((with_reducible refine (CX _ HG.out).mono ?_); rintro e w5 ⟨rfl, hg⟩; have HG5 := Lib.hid (grew_trans HG.out hg); clear hg)
          go_ret2
          exact ⟨i, true, rfl, HF.out, HG5.out⟩
        · have HF : Hid (FoundAs l m n i false) := ⟨hj, HA.out, HB.out, fun h => (by cases h), fun h => absurd (HEQ.out.2 h.2) hc⟩
          have hc2 : (cr == 0) = false := by simpa using hc
          clear HA HB HEQ hc
          generalize l.getD i as0 = x at *
          obtain ⟨q1, q2, q3, q4⟩ := x
          dsimp only at a0 a1 a2 a3  CX
          go_wp2_with ((with_reducible refine (CX _ HG.out).mono ?_); rintro e w5 ⟨rfl, hg⟩; have HG5 := Lib.hid (grew_trans HG.out hg); clear hg)
          go_ret2
          exact ⟨i, false, rfl, HF.out, HG5.out⟩
      · have HF : Hid (FoundAs l m n i false) := ⟨hj, HA.out, HB.out, fun h => (by cases h), fun h => absurd h.1 hin⟩
        have i3 : ¬ (i : Int) < (n : Int) := by omega
        clear HA HB
        go_wp2
        go_ret2
        exact ⟨i, false, rfl, HF.out, HG.out⟩

set_option maxRecDepth 100000 in
theorem cloneAs_any (A : Option Addr) (n c : Nat) (l : List As) (w : World) (h : RowE enAs w A n l) (hA : A = none → c = 0) (hn : n ≤ 1000000) :
    Calls Try.prog 70 #[.slice A n c] w fun e w' => ∃ v, e = .returned v ∧ OwnE enAs w' w.heap.size 42 v l ∧ Grew w w' := by
  have q22 : ∀ (w : World) (a : Option Addr) (n c n' c' : Nat), (binOp .eql 24 (.slice a n c) (.slice none n' c')).run Try.prog w = .ok (.bool a.isNone) w := fun w a n c n' c' => Lib.run_eql_slice_nil w _ _ a n c n' c' Try.underlying24
  cases A with
  | none =>
    obtain rfl := hA rfl
    obtain rfl : n = 0 := by
      rcases Nat.eq_zero_or_pos n with h1 | h1
      · exact h1
      · obtain ⟨b, o, e, _⟩ := h.2 h1; cases e
    obtain rfl := List.eq_nil_of_length_eq_zero h.len
    go_enter Try.func70, Try.ntmps70
    go_wp2
    go_ret
    exact ⟨_, rfl, OwnE.nil _ _ _ _, grew_refl _⟩
  | some ad =>
    have HI := Lib.hid h
    clear h hA
    obtain ⟨ab, ao, asp⟩ := ad
    go_enter Try.func70, Try.ntmps70
    go_wp2_with (at_builtin; refine (wpList_append_E rfl _ _ 24 42 (vAs as0) 32 rfl Try.underlying24 info_as rfl w.heap.size _ [] rfl (OwnE.empty enAs w _ _ (Nat.le_refl _)) _ n c l rfl (by intro h; cases h) (HI.out.keep (grew_alloc _ _ _)) (by simp; unfold maxLen; omega) (by simp; omega) (by simp) ?_); intro v' w' ho hb; rw [List.nil_append] at ho; have HP := Lib.hid ho; have HB : Hid (Grew w w') := Below.trans (grew_alloc _ _ _) hb; clear ho hb)
    go_ret
    exact ⟨_, rfl, HP.out, HB.out⟩
end Go.Proofs.Ytnbgbfbiieimgaa.NumK
