/- The account of a name: the reference's. -/
import Derived.Test.YtefjdgggafkmoaaDoorAcctG
namespace Go.Proofs.YtefjdgggafkmoaaDoor.NumK
open Go.RowKit

theorem ints6' (w : World) (a b c d e f : Int) (t : TypeId) (N : Nat) (hN : w.heap.size = N) : Ints (w.alloc (.cells #[.int .i64 a, .int .i64 b, .int .i64 c, .int .i64 d, .int .i64 e, .int .i64 f] t)) (some ⟨N, 0, none⟩) 6 [a, b, c, d, e, f] := by
  subst hN
  exact ⟨rfl, fun _ => ⟨_, _, rfl, by simp, fun j hj => by
    match j, hj with
    | 0, _ => simp
    | 1, _ => simp
    | 2, _ => simp
    | 3, _ => simp
    | 4, _ => simp
    | 5, _ => simp⟩⟩

theorem allK_len : allK.length = 108 := by decide +kernel

theorem find_snoc {α : Type} (p : α → Bool) (l : List α) (j : Nat) (d : α) (hj : j < l.length) (h : ∀ i, i < j → p (l.getD i d) = false) (hp : p (l.getD j d) = true) : l.find? p = some (l.getD j d) := by
  have e : l.getD j d = l[j] := by simp [List.getD, hj]
  rw [e] at hp ⊢
  rw [List.find?_eq_some_iff_append]
  refine ⟨hp, l.take j, l.drop (j + 1), ?_, fun a ha => ?_⟩
  · rw [List.getElem_cons_drop]; exact (List.take_append_drop j l).symm
  · obtain ⟨i, hi, rfl⟩ := List.getElem_of_mem ha
    rw [List.length_take] at hi
    have := h i (by omega)
    rw [List.getElem_take]
    have e2 : l.getD i d = l[i] := by simp [List.getD, show i < l.length by omega]
    rw [e2] at this
    simp [this]
theorem find_no {α : Type} (p : α → Bool) (l : List α) (d : α) (h : ∀ i, i < l.length → p (l.getD i d) = false) : l.find? p = none := by
  rw [List.find?_eq_none]
  intro a ha
  obtain ⟨i, hi, rfl⟩ := List.getElem_of_mem ha
  have := h i hi
  have e2 : l.getD i d = l[i] := by simp [List.getD, hi]
  rw [e2] at this
  simp [this]

set_option maxRecDepth 100000 in
set_option maxHeartbeats 2000000 in
theorem refParse_any (s : ByteArray) (w : World) :
    Calls Tryd.prog 17 #[.string s] w fun e w' => e = .returned (.tuple #[acV (acOf (findA s.data.toList)).1 (acOf (findA s.data.toList)).2.1 (acOf (findA s.data.toList)).2.2, .bool (findA s.data.toList).isSome]) ∧ Grew w w' := by
  have CA : ∀ (w : World) (N : Nat), w.heap.size = N → Calls Tryd.prog 22 #[.slice (some ⟨N, 0, none⟩) 6 6] (w.alloc (.cells #[.int .i64 1, .int .i64 2, .int .i64 3, .int .i64 4, .int .i64 5, .int .i64 6] 3)) fun e w' => ∃ A c, e = .returned (.slice A 108 c) ∧ RowE enAc w' A 108 allK ∧ Grew (w.alloc (.cells #[.int .i64 1, .int .i64 2, .int .i64 3, .int .i64 4, .int .i64 5, .int .i64 6] 3)) w' := by
    intro w N hN
    refine (refAll_any (some ⟨N, 0, none⟩) 6 6 [1, 2, 3, 4, 5, 6] _ (ints6' w 1 2 3 4 5 6 _ N hN) (by omega)).mono ?_
    rintro e w' ⟨v, rfl, ho, hg⟩
    obtain ⟨A, c, rfl, hr, _⟩ := ho.form
    have hl : (allL [1, 2, 3, 4, 5, 6]).length = 108 := allK_len
    rw [hl] at hr ⊢
    exact ⟨A, c, rfl, hr, hg⟩
  have CN := fun j (hj : j < 108) w => refName_any (allK.getD j (0, 0, 0)).1 (allK.getD j (0, 0, 0)).2.1 (allK.getD j (0, 0, 0)).2.2 w (allK_right _ (by
    have hj' : j < allK.length := by rw [allK_len]; exact hj
    rw [show allK.getD j (0, 0, 0) = allK[j] by simp [List.getD, hj']]
    exact List.getElem_mem hj'))
  have HF1 : Hid (∀ j, j < 108 → (∀ i, i < j → ¬ nameL (allK.getD i (0, 0, 0)).1 (allK.getD i (0, 0, 0)).2.1 (allK.getD i (0, 0, 0)).2.2 = s.data.toList) → nameL (allK.getD j (0, 0, 0)).1 (allK.getD j (0, 0, 0)).2.1 (allK.getD j (0, 0, 0)).2.2 = s.data.toList → findA s.data.toList = some (allK.getD j (0, 0, 0))) :=
    fun j hj h1 h2 => find_snoc _ _ _ _ (by rw [allK_len]; exact hj) (fun i hi => decide_eq_false (h1 i hi)) (decide_eq_true h2)
  have HF2 : Hid ((∀ i, i < 108 → ¬ nameL (allK.getD i (0, 0, 0)).1 (allK.getD i (0, 0, 0)).2.1 (allK.getD i (0, 0, 0)).2.2 = s.data.toList) → findA s.data.toList = none) :=
    fun h => find_no _ _ (0, 0, 0) (fun i hi => decide_eq_false (h i (by rw [allK_len] at hi; exact hi)))
  generalize findA s.data.toList = FA at *
  go_enter Tryd.func17, Tryd.ntmps17
  go_wp2_with (go_at_call 22; ((with_reducible refine (CA _ _ (by simp)).mono ?_); rintro e w1 ⟨A, c, rfl, hr, hg⟩; have HR := Lib.hid hr; have K1 := Lib.hid (C3.of (own_back hg)); have HG1 := Lib.hid (own_back (own_back hg)); clear hr hg CA))
  go_loopw [5] (fun v5 wr => ∃ j : Nat, v5 = .int .i64 j ∧ j ≤ 108 ∧ Hid (∀ i, i < j → ¬ nameL (allK.getD i (0, 0, 0)).1 (allK.getD i (0, 0, 0)).2.1 (allK.getD i (0, 0, 0)).2.2 = s.data.toList) ∧ Hid (Grew w1 wr)) (fun v5 _ => 108 - (intOf v5).toNat)
  case atStart => exact ⟨0, rfl, by omega, (by intro i hi; omega), grew_refl _⟩
  case round =>
    obtain ⟨j, rfl, hj, HN, HG⟩ := hrel
    by_cases hlt : j < 108
    · obtain ⟨b, o, rfl, hb, c1, c2, c3⟩ := (HR.out.keep HG.out).ac hlt
      have C := CN j hlt wr
      have HF1j := Lib.hid (HF1.out j hlt HN.out)
      have K2 := Lib.hid (K1.out.keep HG.out)
      have k0 := K2.out.c0
      have k1 := K2.out.c1
      have k2 := K2.out.c2
      have kf0 := K2.out.f0
      have kf1 := K2.out.f1
      have kf2 := K2.out.f2
      have HN2 : Hid (¬ nameL (allK.getD j (0, 0, 0)).1 (allK.getD j (0, 0, 0)).2.1 (allK.getD j (0, 0, 0)).2.2 = s.data.toList → ∀ i, i < j + 1 → ¬ nameL (allK.getD i (0, 0, 0)).1 (allK.getD i (0, 0, 0)).2.1 (allK.getD i (0, 0, 0)).2.2 = s.data.toList) := fun h i hi => by
        rcases Nat.lt_or_ge i j with h1 | h1
        · exact HN.out i h1
        · obtain rfl : i = j := by omega
          exact h
      have i1 : (j : Int) < 108 := by omega
      clear CN
      have HB := Lib.hid hb
      clear hb
      by_cases hw : nameL (allK.getD j (0, 0, 0)).1 (allK.getD j (0, 0, 0)).2.1 (allK.getD j (0, 0, 0)).2.2 = s.data.toList
      · have hFA : FA = some (allK.getD j (0, 0, 0)) := HF1j.out hw
        rw [hw] at C
        have hss : (⟨s.data.toList.toArray⟩ : ByteArray) = s := Lib.mk_data s
        rw [hss] at C
        subst hFA
        clear HF1 HF2 HF1j HN2 hw HN hss
        unfold acV at C
        obtain ⟨q0, hq0⟩ : ∃ q : Int, (allK.getD j (0, 0, 0)).1 = q := ⟨_, rfl⟩
        obtain ⟨q1, hq1⟩ : ∃ q : Int, (allK.getD j (0, 0, 0)).2.1 = q := ⟨_, rfl⟩
        obtain ⟨q2, hq2⟩ : ∃ q : Int, (allK.getD j (0, 0, 0)).2.2 = q := ⟨_, rfl⟩
        rw [hq0] at c1
        rw [hq1] at c2
        rw [hq2] at c3
        rw [hq0, hq1, hq2] at C
        have E0 := Lib.hid hq0
        have E1 := Lib.hid hq1
        have E2 := Lib.hid hq2
        clear hq0 hq1 hq2
        go_wp2_with (go_at_call 15; ((with_reducible refine C.mono ?_); rintro e w2 ⟨rfl, hg⟩; have d1 := (grew_cell hg (p := ⟨b, o + j * 3, none⟩) HB.out).trans c1; have d2 := (grew_cell hg (p := ⟨b, o + j * 3 + 1, none⟩) HB.out).trans c2; have d3 := (grew_cell hg (p := ⟨b, o + j * 3 + 2, none⟩) HB.out).trans c3; have K3 := Lib.hid (K2.out.keep hg); have r0 := K3.out.c0; have r1 := K3.out.c1; have r2 := K3.out.c2; have rf0 := K3.out.f0; have rf1 := K3.out.f1; have rf2 := K3.out.f2; have HG2 := Lib.hid (grew_trans HG1.out (grew_trans HG.out hg)); clear hg c1 c2 c3 k0 k1 k2 kf0 kf1 kf2))
        exact bodyPost_ret (v := .tuple #[.agg #[.int .i64 q0, .int .i64 q1, .int .i64 q2], .bool true]) (by simp [results, Tryd.results17, go_sem, r0, r1, r2]) rfl
           ⟨by rw [← E0.out, ← E1.out, ← E2.out]; rfl, grew_put (grew_put (grew_put HG2.out _ _ _ (Nat.le_refl _)) _ _ _ (Nat.le_refl _)) _ _ _ (Nat.le_refl _)⟩
      · have hne : ((⟨(nameL (allK.getD j (0, 0, 0)).1 (allK.getD j (0, 0, 0)).2.1 (allK.getD j (0, 0, 0)).2.2).toArray⟩ : ByteArray).toList == s.toList) = false := by
          rw [Lib.toList_data, Lib.toList_data, beq_eq_false_iff_ne]
          exact hw
        have HN3 := Lib.hid (HN2.out hw)
        generalize (⟨(nameL (allK.getD j (0, 0, 0)).1 (allK.getD j (0, 0, 0)).2.1 (allK.getD j (0, 0, 0)).2.2).toArray⟩ : ByteArray) = NS at *
        clear HF1 HF1j HN2 hw HN k0 k1 k2 kf0 kf1 kf2
        unfold acV at C
        generalize (allK.getD j (0, 0, 0)).1 = q0 at C c1
        generalize (allK.getD j (0, 0, 0)).2.1 = q1 at C c2
        generalize (allK.getD j (0, 0, 0)).2.2 = q2 at C c3
        go_wp2_with (go_at_call 15; ((with_reducible refine C.mono ?_); rintro e w2 ⟨rfl, hg⟩; have HG2 := Lib.hid (grew_trans HG.out hg); clear hg))
        go_roundw
        case rel => exact ⟨j + 1, by go_num, by omega, HN3, HG2⟩
        case measure => simp only [intOf]; omega
    · obtain rfl : j = 108 := by omega
      have hFA : FA = none := HF2.out HN.out
      subst hFA
      have K2 := Lib.hid (K1.out.keep HG.out)
      have k0 := K2.out.c0
      have k1 := K2.out.c1
      have k2 := K2.out.c2
      have kf0 := K2.out.f0
      have kf1 := K2.out.f1
      have kf2 := K2.out.f2
      clear CN HF1 HF2 HN
      go_wp2
      exact bodyPost_ret (v := .tuple #[acV 0 0 0, .bool false]) (by simp [results, Tryd.results17, go_sem, k0, k1, k2, acV]) rfl
           ⟨rfl, grew_put (grew_put (grew_put (grew_trans HG1.out HG.out) _ _ _ (Nat.le_refl _)) _ _ _ (Nat.le_refl _)) _ _ _ (Nat.le_refl _)⟩
end Go.Proofs.YtefjdgggafkmoaaDoor.NumK
