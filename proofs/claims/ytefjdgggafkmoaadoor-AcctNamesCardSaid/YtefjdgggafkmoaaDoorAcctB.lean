/- Names of accounts; the program's and the reference's. -/
import Derived.Test.YtefjdgggafkmoaaDoorAcctA
import Derived.Test.YtefjdgggafkmoaaDoorShelf
namespace Go.Proofs.YtefjdgggafkmoaaDoor.NumK
open Go.RowKit

theorem itoa_any (n : Int) (h0 : 0 ≤ n) (h1 : n < 100) (w : World) : Calls Tryd.prog 26 #[.int .i64 n] w fun e w' => e = .returned (.string ⟨(Lib.decDigits n.toNat).toArray⟩) ∧ w = w' := by
  obtain ⟨i, rfl⟩ := Int.eq_ofNat_of_zero_le h0
  exact (Tryd.strconv_Itoa_small i (by omega) w).mono fun e w' h => ⟨h.1, h.2.symm⟩

theorem dec_len (n : Int) (h0 : 0 ≤ n) (h1 : n < 100) : (Lib.decDigits n.toNat).length ≤ 2 := by
  obtain ⟨i, rfl⟩ := Int.eq_ofNat_of_zero_le h0
  have h1 : i < 100 := by omega
  show (Lib.decDigits i).length ≤ 2
  rw [Lib.decDigits]
  by_cases h : i < 10
  · rw [dif_pos h]; simp
  · rw [dif_neg h, Lib.decDigits, dif_pos (by omega)]; simp

theorem word_len (k : Int) : (wordL k).length ≤ 4 := by
  unfold wordL
  split
  · decide
  · split
    · decide
    · split
      · decide
      · split
        · decide
        · split
          · decide
          · split <;> decide

theorem ret_s2 {a b : ByteArray} {n : Int} {k : IntKind} (h : a = b) : Ending.returned (.tuple #[.string a, .int k n]) = .returned (.tuple #[.string b, .int k n]) := by rw [h]
theorem ret_s {a b : ByteArray} (h : a = b) : Ending.returned (.string a) = .returned (.string b) := by rw [h]
theorem bytes46 : (⟨#[46]⟩ : ByteArray) = ⟨[46].toArray⟩ := rfl
theorem right_in {k m c : Int} (hr : rightA k m c = true) : (1 ≤ k ∧ k ≤ 6) ∧ (0 ≤ m ∧ m < 100) ∧ (0 ≤ c ∧ c < 100) := by
  simp only [rightA, Bool.and_eq_true, decide_eq_true_eq] at hr
  obtain ⟨⟨h1, h2⟩, h3⟩ := hr
  split at h3 <;> simp at h3 <;> omega

set_option maxRecDepth 100000 in
theorem name_any (k m c : Int) (w : World) : Calls Tryd.prog 14 #[acV k m c] w fun e w' => e = .returned (.tuple #[.string ⟨(if rightA k m c then nameL k m c else []).toArray⟩, .int .i64 (if rightA k m c then 0 else 3)]) ∧ Grew w w' := by
  have CR := right_any k m c
  by_cases hr : rightA k m c = true
  · have hm := (right_in hr).2
    have CI := fun w => itoa_any m hm.1.1 hm.1.2 w
    have CJ := fun w => itoa_any c hm.2.1 hm.2.2 w
    have CW := word_any k
    have CO := owned_any k
    have l1 := dec_len m hm.1.1 hm.1.2
    have l2 := dec_len c hm.2.1 hm.2.2
    have l3 := word_len k
    have HN : Hid (nameL k m c = wordL k ++ (if ownedK k then 46 :: Lib.decDigits m.toNat else []) ++ 46 :: Lib.decDigits c.toNat) := rfl
    rw [hr] at CR ⊢
    simp only [if_true]
    clear hr hm
    generalize nameL k m c = NM at *
    generalize wordL k = WD at *
    generalize Lib.decDigits m.toNat = DM at *
    generalize Lib.decDigits c.toNat = DC at *
    generalize ownedK k = O at *
    unfold acV at *
    go_enter Tryd.func14, Tryd.ntmps14
    go_wp2_with (first
      | (go_at_call 9; ((with_reducible refine (CR _).mono ?_); rintro e w' ⟨rfl, hg⟩; have d0 : w'.cell? ⟨w.heap.size, 0, none⟩ = some (.int .i64 k) := own_cell hg 0; have d1 : w'.cell? ⟨w.heap.size, 1, none⟩ = some (.int .i64 m) := own_cell hg 1; have d2 : w'.cell? ⟨w.heap.size, 2, none⟩ = some (.int .i64 c) := own_cell hg 2; have HG := Lib.hid (own_back hg); clear hg))
      | (go_at_call 24; ((with_reducible refine (CW _).mono ?_); rintro e w' ⟨rfl, rfl⟩))
      | (go_at_call 25; ((with_reducible refine (CO _).mono ?_); rintro e w' ⟨rfl, rfl⟩))
      | (go_at_call 26; ((with_reducible refine (CI _).mono ?_); rintro e w' ⟨rfl, rfl⟩))
      | (go_at_call 26; ((with_reducible refine (CJ _).mono ?_); rintro e w' ⟨rfl, rfl⟩)))
    all_goals rename_i ho
    all_goals go_ret2
    all_goals exact ⟨ret_s2 (by rw [HN.out, bytes46]; simp only [ByteArray.mk_append_mk]; simp [ho]), HG.out⟩
  · rw [Bool.not_eq_true] at hr
    rw [hr] at CR ⊢
    unfold acV at *
    go_enter Tryd.func14, Tryd.ntmps14
    go_wp2_with (go_at_call 9; ((with_reducible refine (CR _).mono ?_); rintro e w' ⟨rfl, hg⟩; have HG := Lib.hid (own_back hg); clear hg))
    go_ret2
    exact ⟨rfl, HG.out⟩

theorem wakes08_any (w : World) : Calls Tryd.prog 19 #[] w fun e w' => e = .returned (.bool true) ∧ Grew w w' := by
  have C := fun w => name_any 2 12 0 w
  have e1 : rightA 2 12 0 = true := by decide
  have e2 : (⟨(nameL 2 12 0).toArray⟩ : ByteArray) = ⟨#[99, 97, 115, 104, 46, 49, 50, 46, 48]⟩ := by
    have : nameL 2 12 0 = [99, 97, 115, 104, 46, 49, 50, 46, 48] := by
      unfold nameL whoL
      rw [show ownedK 2 = true from rfl, if_pos rfl, show wordL 2 = [99, 97, 115, 104] from rfl]
      have d1 : Lib.decDigits (12 : Int).toNat = [49, 50] := by
        show Lib.decDigits 12 = _
        rw [Lib.decDigits, dif_neg (by decide), Lib.decDigits, dif_pos (by decide)]; rfl
      have d2 : Lib.decDigits (0 : Int).toNat = [48] := by
        show Lib.decDigits 0 = _
        rw [Lib.decDigits, dif_pos (by decide)]; rfl
      rw [d1, d2]; rfl
    rw [this]
  simp only [e1, if_true, e2] at C
  unfold acV at C
  go_enter Tryd.func19, Tryd.ntmps19
  go_wp2_with (go_at_call 14; ((with_reducible refine (C _).mono ?_); rintro e w' ⟨rfl, hg⟩; have HG := Lib.hid hg; clear hg))
  go_ret
  exact ⟨rfl, HG.out⟩

/-! ### the reference -/
theorem refRight_any (k m c : Int) (w : World) : Calls Tryd.prog 8 #[acV k m c] w fun e w' => e = .returned (.bool (rightA k m c)) ∧ Grew w w' := by
  unfold acV
  go_enter Tryd.func8, Tryd.ntmps8
  go_wp2
  all_goals go_ret
  all_goals exact ⟨ret_b (by rw [Bool.eq_iff_iff]; simp_all [rightA, ownedK] <;> omega), grew_alloc _ _ _⟩

theorem refFloor_any (k m c : Int) (w : World) : Calls Tryd.prog 11 #[acV k m c] w fun e w' => e = .returned (.int .i64 (floorA k m c)) ∧ Grew w w' := by
  have C := refRight_any k m c
  have HF : Hid (floorA k m c = if rightA k m c && (decide (k = 3) || decide (k = 4)) then 0 else -4611686018427387904) := rfl
  generalize floorA k m c = F at *
  generalize rightA k m c = r at *
  unfold acV at *
  go_enter Tryd.func11, Tryd.ntmps11
  go_wp2_with (go_at_call 8; ((with_reducible refine (C _).mono ?_); rintro e w' ⟨rfl, hg⟩; have d0 : w'.cell? ⟨w.heap.size, 0, none⟩ = some (.int .i64 k) := own_cell hg 0; have HG := Lib.hid (own_back hg); clear hg))
  all_goals go_ret
  all_goals exact ⟨ret_i (by have := HF.out; simp_all), HG.out⟩

theorem refLess_any (k m c k' m' c' : Int) (w : World) : Calls Tryd.prog 13 #[acV k m c, acV k' m' c'] w fun e w' => e = .returned (.bool (lessA k m c k' m' c')) ∧ Grew w w' := by
  unfold acV
  go_enter Tryd.func13, Tryd.ntmps13
  go_wp2
  all_goals go_ret
  all_goals exact ⟨ret_b (by simp_all [lessA]), grew_trans (grew_alloc _ _ _) (grew_alloc _ _ _)⟩

set_option maxRecDepth 100000 in
theorem refName_any (k m c : Int) (w : World) (hr : rightA k m c = true) : Calls Tryd.prog 15 #[acV k m c] w fun e w' => e = .returned (.string ⟨(nameL k m c).toArray⟩) ∧ Grew w w' := by
  obtain ⟨hk, hm, hc⟩ := right_in hr
  have CI := fun w => itoa_any m hm.1 hm.2 w
  have CJ := fun w => itoa_any c hc.1 hc.2 w
  have l1 := dec_len m hm.1 hm.2
  have l2 := dec_len c hc.1 hc.2
  have HN : Hid (nameL k m c = wordL k ++ (if ownedK k then 46 :: Lib.decDigits m.toNat else []) ++ 46 :: Lib.decDigits c.toNat) := rfl
  clear hr hm hc
  generalize nameL k m c = NM at *
  generalize Lib.decDigits m.toNat = DM at *
  generalize Lib.decDigits c.toNat = DC at *
  unfold acV at *
  obtain ⟨h1, h6⟩ := hk
  have hs : k = 1 ∨ k = 2 ∨ k = 3 ∨ k = 4 ∨ k = 5 ∨ k = 6 := by omega
  clear h1 h6
  rcases hs with rfl | rfl | rfl | rfl | rfl | rfl
  all_goals go_enter Tryd.func15, Tryd.ntmps15
  all_goals go_wp2_with (first
      | (go_at_call 26; ((with_reducible refine (CI _).mono ?_); rintro e w' ⟨rfl, rfl⟩))
      | (go_at_call 26; ((with_reducible refine (CJ _).mono ?_); rintro e w' ⟨rfl, rfl⟩)))
  all_goals go_ret
  all_goals exact ⟨ret_s (by apply ByteArray.ext; apply Array.toList_inj.1; rw [HN.out]; simp [ByteArray.data_append, wordL, ownedK]), grew_trans (grew_alloc _ _ _) (grew_alloc _ _ _)⟩
end Go.Proofs.YtefjdgggafkmoaaDoor.NumK
