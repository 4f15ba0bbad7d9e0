/- All accounts of kinds: the program's (cut out of AcctC). -/
import Derived.Test.YtmbhkeppikaeaaaAcB
import Derived.Test.YtmbhkeppikaeaaaContains
namespace Go.Proofs.Ytmbhkeppikaeaaa.NumK
open Go.RowKit

set_option maxRecDepth 100000 in
theorem appendKind_any (base : Nat) (v : Value) (l : List Ac) (k : Int) (w : World) (hO : OwnE enAc w base 35 v l) (hb : base ≤ w.heap.size) (hl : l.length ≤ 1000000) :
    Calls Try.prog 43 #[v, .int .i64 k] w fun e w' => ∃ v', e = .returned v' ∧ OwnE enAc w' base 35 v' (l ++ kindL k) ∧ Below base w w' := by
  have C := whos_any k
  have HK : Hid (kindL k = if ownedK k then whosAcs k 1 16 else whosAcs k 0 1) := rfl
  obtain ⟨f, n, hf, hn, hkl, hn16⟩ : ∃ (f : Int) (n : Nat), (if ownedK k then (1 : Int) else 0) = f ∧ (if ownedK k then (16 : Int) else 0) = f + n - 1 ∧ kindL k = whosAcs k f n ∧ (n ≤ 16 ∧ 0 ≤ f ∧ f ≤ 1) := by
    cases ho : ownedK k
    · exact ⟨0, 1, by simp, by simp, by rw [HK.out, ho]; simp, by omega⟩
    · exact ⟨1, 16, by simp, by simp, by rw [HK.out, ho]; simp, by omega⟩
  rw [hf, hn] at C
  obtain ⟨hn1, hn2, hn3⟩ := hn16
  have HKL := Lib.hid hkl
  have HO := Lib.hid hO
  clear HK hf hn hkl hO
  obtain ⟨g, hg⟩ : ∃ g : Int, f + n - 1 = g := ⟨_, rfl⟩
  rw [hg] at C
  have HG := Lib.hid hg
  have hg' : g ≤ 16 := by omega
  clear hg
  go_enter Try.func43, Try.ntmps43
  go_wp2_with (go_at_call 45; ((with_reducible refine (C _).mono ?_); rintro e w' ⟨rfl, rfl⟩))
  go_loopw [0, 7] (fun v0 v7 wr => ∃ (i : Nat) (m : Int), v7 = .int .i64 m ∧ Hid (m = f + i) ∧ m ≤ 17 ∧ i ≤ n ∧ Hid (OwnE enAc wr base 35 v0 (l ++ whosAcs k f i)) ∧ Hid (Below base w wr)) (fun _ v7 _ => (17 - intOf v7).toNat)
  case atStart => exact ⟨0, f, rfl, Lib.hid (by simp), by omega, by omega, by show OwnE _ _ _ _ _ _; simpa [whosAcs] using HO.out, Below.refl _ _⟩
  case round =>
    obtain ⟨i, m, rfl, HM, hm17, hi, HO1, HB1⟩ := hrel
    have m0 : (0 : Int) ≤ m := by have := HM.out; omega
    by_cases hlt : m ≤ g
    · have hi' : i < n := by have := HM.out; have := HG.out; omega
      have HWB := Lib.hid (Nat.le_trans hb HB1.out.size)
      go_wp2
      go_loopw [0, 20] (fun v0 v20 wr2 => ∃ (j : Nat), v20 = .int .i64 j ∧ j ≤ 3 ∧ Hid (OwnE enAc wr2 base 35 v0 (l ++ whosAcs k f i ++ (whoAcs k m).take j)) ∧ Hid (Below base w wr2)) (fun _ v20 _ => 3 - (intOf v20).toNat)
      case atStart => exact ⟨0, rfl, by omega, by show OwnE _ _ _ _ _ _; simpa using HO1.out, HB1.out⟩
      case round =>
        obtain ⟨j, rfl, hj, HO2, HB2⟩ := hrel
        have HBS := Lib.hid (Nat.le_trans hb HB2.out.size)
        by_cases hjl : j < 3
        · have HLL : Hid ((l ++ whosAcs k f i ++ (whoAcs k m).take j).length ≤ 1000100) := by
            show _ ≤ _
            rw [List.length_append, List.length_append, whosAcs_len, List.length_take]; omega
          have HT : Hid (l ++ whosAcs k f i ++ (whoAcs k m).take (j + 1) = l ++ whosAcs k f i ++ (whoAcs k m).take j ++ [(k, m, (j : Int))]) := by
            show _ = _
            rw [List.append_assoc _ _ [_]]
            congr 1
            match j, hjl with
            | 0, _ => rfl
            | 1, _ => rfl
            | 2, _ => rfl
          go_wp2_with (at_builtin; refine (wpList_append_E rfl _ _ 51 35 (acV 0 0 0) 24 rfl Try.underlying51 info_ac rfl base _ _ rfl (HO2.out.keep (grew_alloc _ _ _)) _ 1 1 [(k, m, (j : Int))] rfl (by intro h; cases h) (rowE_one _ _ _ _ _ _ (by simp)) (by have := HLL.out; unfold maxLen; omega) (by have := HLL.out; omega) (by have := HBS.out; simp; omega) ?_); intro v5 w5 hv hb5; rw [← HT.out] at hv; have HV5 := Lib.hid hv; have HB5 := Lib.hid (HB2.out.trans ((Below.mono (grew_alloc _ _ _) HBS.out).trans hb5)); clear hv hb5)
          go_roundw
          case rel => exact ⟨j + 1, by go_num, by omega, HV5, HB5⟩
          case measure => simp only [intOf]; omega
        · obtain rfl : j = 3 := by omega
          have HE : Hid (l ++ whosAcs k f (i + 1) = l ++ whosAcs k f i ++ (whoAcs k m).take 3) := by
            show _ = _
            rw [whosAcs_succ, ← HM.out, List.append_assoc]; rfl
          rw [← HE.out] at HO2
          clear HE
          go_wp2
          go_roundw
          case rel => exact ⟨i + 1, m + 1, by go_num, by have := HM.out; show _ = _; omega, by omega, by omega, HO2, HB2⟩
          case measure => simp only [intOf]; omega
    · have hi' : i = n := by have := HM.out; have := HG.out; omega
      subst hi'
      rw [← HKL.out] at HO1
      go_wp2
      go_ret
      exact ⟨_, rfl, HO1.out, HB1.out⟩

set_option maxRecDepth 100000 in
theorem aall_any (A : Option Addr) (n c : Nat) (kinds : List Int) (w : World) (h : Ints w A n kinds) (hn : n ≤ 9223372036854775807) :
    Calls Try.prog 27 #[.slice A n c] w fun e w' => ∃ v', e = .returned v' ∧ OwnE enAc w' w.heap.size 35 v' (allL kinds) ∧ Grew w w' := by
  have HI := Lib.hid h
  clear h
  go_enter Try.func27, Try.ntmps27
  go_wp2
  go_loopw [3, 4] (fun v3 v4 wr => ∃ j : Nat, v4 = .int .i64 ((j : Int) + 1) ∧ j ≤ 6 ∧ Hid (OwnE enAc wr w.heap.size 35 v3 (allTo kinds j)) ∧ Hid (Grew w wr)) (fun _ v4 _ => 7 - (intOf v4).toNat)
  case atStart => exact ⟨0, rfl, by omega, OwnE.nil enAc _ _ _, grew_refl _⟩
  case round =>
    obtain ⟨j, rfl, hj, HO, HG⟩ := hrel
    by_cases hlt : j < 6
    · have CC := contains_any A n c kinds ((j : Int) + 1) wr (HI.out.keep HG.out) hn
      have HT : Hid (allTo kinds (j + 1) = allTo kinds j ++ (if kinds.contains ((j : Int) + 1) then kindL ((j : Int) + 1) else [])) := allTo_succ kinds j
      have HL : Hid ((allTo kinds j).length ≤ 1000000) := by show _ ≤ _; have := allTo_len kinds j; omega
      have CA := fun v (h : OwnE enAc wr w.heap.size 35 v (allTo kinds j)) => appendKind_any w.heap.size v (allTo kinds j) ((j : Int) + 1) wr h HG.out.size HL.out
      clear HL
      cases hb : kinds.contains ((j : Int) + 1)
      · rw [hb] at CC HT
        have he : allTo kinds (j + 1) = allTo kinds j := by rw [HT.out]; simp
        rw [← he] at HO
        clear HT he hb CA
        go_wp2_with (go_at_call 42; ((with_reducible refine CC.mono ?_); rintro e w' ⟨rfl, rfl⟩))
        go_roundw
        case rel => exact ⟨j + 1, by go_num, by omega, HO, HG⟩
        case measure => simp only [intOf]; omega
      · rw [hb, if_pos rfl] at HT
        rw [hb] at CC
        clear hb
        go_wp2_with (first
          | (go_at_call 42; ((with_reducible refine CC.mono ?_); rintro e w' ⟨rfl, rfl⟩))
          | (go_at_call 43; ((with_reducible refine (CA _ HO.out).mono ?_); rintro e w1 ⟨v5, rfl, hv, hb5⟩; rw [← HT.out] at hv; have HV5 := Lib.hid hv; have HG5 : Hid (Grew w w1) := Below.trans HG.out hb5; clear hv hb5)))
        go_roundw
        case rel => exact ⟨j + 1, by go_num, by omega, HV5, HG5⟩
        case measure => simp only [intOf]; omega
    · obtain rfl : j = 6 := by omega
      go_wp2
      go_ret
      exact ⟨_, rfl, HO.out, HG.out⟩
end Go.Proofs.Ytmbhkeppikaeaaa.NumK
