/- The law AcctBack. -/
import Derived.Test.YtefjdgggafkmoaaDoorAcctExact
namespace Go.Proofs.YtefjdgggafkmoaaDoor.NumK
open Go.RowKit

theorem name_len (k m c : Int) (h : rightA k m c = true) : (nameL k m c).length ≤ 100 := by
  obtain ⟨_, hm, hc⟩ := right_in h
  unfold nameL whoL
  have h1 := word_len k
  have h2 := dec_len m hm.1 hm.2
  have h3 := dec_len c hc.1 hc.2
  rw [List.length_append, List.length_append, List.length_cons]
  split
  · rw [List.length_cons]; omega
  · simp only [List.length_nil]; omega

set_option maxRecDepth 100000 in
set_option maxHeartbeats 2000000 in
theorem acctBack_walk (k m c : Int) (s : ByteArray) (w : World) (hE : EV w) :
    Calls Tryd.prog 5 #[acV k m c, .string s] w fun e w' => e = .returned (.bool true) ∧ Grew w w' := by
  by_cases hs : (1000 : Int) < (s.size : Int)
  · unfold acV
    clear hE
    go_enter Tryd.func5, Tryd.ntmps5
    go_wp2
    go_ret
    exact ⟨rfl, grew_alloc _ _ _⟩
  · have N1 := fun w => name_any k m c w
    have P1 := fun w h => parse_any s w h (by omega)
    have WK := fun w => wakes08_any w
    have HE := Lib.hid hE
    clear hE
    -- the second half
    have HR : Hid (∀ b, findA s.data.toList = some b → rightA b.1 b.2.1 b.2.2 = true ∧ nameL b.1 b.2.1 b.2.2 = s.data.toList) := fun b h => findA_some h
    cases hr : rightA k m c
    · rw [hr] at N1
      simp only [Bool.false_eq_true, if_false] at N1
      clear hr
      cases hf : findA s.data.toList with
      | none =>
        rw [hf] at P1
        simp only [acOf, errOf, Option.getD_none, Option.isSome_none, Bool.false_eq_true, if_false] at P1
        clear HR hf
        unfold acV at *
        go_enter Tryd.func5, Tryd.ntmps5
        go_wp2_with (first
          | (go_at_call 14; ((with_reducible refine (N1 _).mono ?_); rintro e w1 ⟨rfl, hg⟩; have HG1 := Lib.hid (own_back hg); clear hg))
          | (go_at_call 16; ((with_reducible refine (P1 _ (HE.out.keep HG1.out)).mono ?_); rintro e w2 ⟨rfl, hg⟩; have HG2 := Lib.hid (grew_trans HG1.out hg); clear hg))
          | (go_at_call 19; ((with_reducible refine (WK _).mono ?_); rintro e w7 ⟨rfl, hg⟩; have HG7 := Lib.hid (grew_trans HG2.out (own_back hg)); clear hg)))
        go_ret
        exact ⟨rfl, HG7.out⟩
      | some b =>
        rw [hf] at P1
        simp only [acOf, errOf, Option.getD_some, Option.isSome_some, if_true] at P1
        obtain ⟨hb1, hb2⟩ := HR.out b hf
        have N2 := fun w => name_any b.1 b.2.1 b.2.2 w
        rw [hb1] at N2
        simp only [if_true] at N2
        rw [hb2] at N2
        have hss : (⟨s.data.toList.toArray⟩ : ByteArray) = s := Lib.mk_data s
        rw [hss] at N2
        clear HR hf hb1 hb2 hss
        unfold acV at *
        generalize b.1 = b0 at *
        generalize b.2.1 = b1 at *
        generalize b.2.2 = b2 at *
        go_enter Tryd.func5, Tryd.ntmps5
        go_wp2_with (first
          | (go_at_call 14; ((with_reducible refine (N1 _).mono ?_); rintro e w1 ⟨rfl, hg⟩; have HG1 := Lib.hid (own_back hg); clear hg))
          | (go_at_call 16; ((with_reducible refine (P1 _ (HE.out.keep HG1.out)).mono ?_); rintro e w2 ⟨rfl, hg⟩; have HG2 := Lib.hid (grew_trans HG1.out hg); clear hg))
          | (go_at_call 14; ((with_reducible refine (N2 _).mono ?_); rintro e w3 ⟨rfl, hg⟩; have HG3 := Lib.hid (grew_trans HG2.out (own_back hg)); clear hg))
          | (go_at_call 19; ((with_reducible refine (WK _).mono ?_); rintro e w7 ⟨rfl, hg⟩; have HG7 := Lib.hid (grew_trans HG3.out hg); clear hg)))
        go_ret
        exact ⟨rfl, HG7.out⟩
    · rw [hr] at N1
      simp only [if_true] at N1
      have P0 := fun w h => parse_any ⟨(nameL k m c).toArray⟩ w h (by show (nameL k m c).length ≤ 1000; have := name_len k m c hr; omega)
      have hfn : findA (nameL k m c) = some (k, m, c) := findA_name (a := (k, m, c)) hr
      have hfn : findA (⟨(nameL k m c).toArray⟩ : ByteArray).data.toList = some (k, m, c) := hfn
      rw [hfn] at P0
      simp only [acOf, errOf, Option.getD_some, Option.isSome_some, if_true] at P0
      have KA := fun w => keepAcct_any k m c k m c w
      have hsame : sameA k m c k m c = true := by simp [sameA]
      rw [hsame] at KA
      clear hr hfn hsame
      generalize (⟨(nameL k m c).toArray⟩ : ByteArray) = NS at *
      cases hf : findA s.data.toList with
      | none =>
        rw [hf] at P1
        simp only [acOf, errOf, Option.getD_none, Option.isSome_none, Bool.false_eq_true, if_false] at P1
        clear HR hf
        unfold acV at *
        go_enter Tryd.func5, Tryd.ntmps5
        go_wp2_with (first
          | (go_at_call 14; ((with_reducible refine (N1 _).mono ?_); rintro e w1 ⟨rfl, hg⟩; have K1 := Lib.hid (C3.of hg); have HG1 := Lib.hid (own_back hg); clear hg))
          | (go_at_call 16; ((with_reducible refine (P0 _ (HE.out.keep HG1.out)).mono ?_); rintro e w4 ⟨rfl, hg⟩; have k0 := fun cs t => (K1.out.keep (grew_trans hg (grew_alloc w4 cs t))).c0; have k1 := fun cs t => (K1.out.keep (grew_trans hg (grew_alloc w4 cs t))).c1; have k2 := fun cs t => (K1.out.keep (grew_trans hg (grew_alloc w4 cs t))).c2; have HG4 := Lib.hid (grew_trans HG1.out hg); clear hg))
          | (go_at_call 18; ((with_reducible refine (KA _).mono ?_); rintro e w5 ⟨rfl, hg⟩; have HG5 := Lib.hid (grew_trans HG4.out (own_back hg)); clear hg))
          | (go_at_call 16; ((with_reducible refine (P1 _ (HE.out.keep HG5.out)).mono ?_); rintro e w2 ⟨rfl, hg⟩; have HG2 := Lib.hid (grew_trans HG5.out hg); clear hg))
          | (go_at_call 19; ((with_reducible refine (WK _).mono ?_); rintro e w7 ⟨rfl, hg⟩; have HG7 := Lib.hid (grew_trans HG2.out (own_back hg)); clear hg)))
        go_ret
        exact ⟨rfl, HG7.out⟩
      | some b =>
        rw [hf] at P1
        simp only [acOf, errOf, Option.getD_some, Option.isSome_some, if_true] at P1
        obtain ⟨hb1, hb2⟩ := HR.out b hf
        have N2 := fun w => name_any b.1 b.2.1 b.2.2 w
        rw [hb1] at N2
        simp only [if_true] at N2
        rw [hb2] at N2
        have hss : (⟨s.data.toList.toArray⟩ : ByteArray) = s := Lib.mk_data s
        rw [hss] at N2
        clear HR hf hb1 hb2 hss
        unfold acV at *
        generalize b.1 = b0 at *
        generalize b.2.1 = b1 at *
        generalize b.2.2 = b2 at *
        go_enter Tryd.func5, Tryd.ntmps5
        go_wp2_with (first
          | (go_at_call 14; ((with_reducible refine (N1 _).mono ?_); rintro e w1 ⟨rfl, hg⟩; have K1 := Lib.hid (C3.of hg); have HG1 := Lib.hid (own_back hg); clear hg))
          | (go_at_call 16; ((with_reducible refine (P0 _ (HE.out.keep HG1.out)).mono ?_); rintro e w4 ⟨rfl, hg⟩; have k0 := fun cs t => (K1.out.keep (grew_trans hg (grew_alloc w4 cs t))).c0; have k1 := fun cs t => (K1.out.keep (grew_trans hg (grew_alloc w4 cs t))).c1; have k2 := fun cs t => (K1.out.keep (grew_trans hg (grew_alloc w4 cs t))).c2; have HG4 := Lib.hid (grew_trans HG1.out hg); clear hg))
          | (go_at_call 18; ((with_reducible refine (KA _).mono ?_); rintro e w5 ⟨rfl, hg⟩; have HG5 := Lib.hid (grew_trans HG4.out (own_back hg)); clear hg))
          | (go_at_call 16; ((with_reducible refine (P1 _ (HE.out.keep HG5.out)).mono ?_); rintro e w2 ⟨rfl, hg⟩; have HG2 := Lib.hid (grew_trans HG5.out hg); clear hg))
          | (go_at_call 14; ((with_reducible refine (N2 _).mono ?_); rintro e w3 ⟨rfl, hg⟩; have HG3 := Lib.hid (grew_trans HG2.out (own_back hg)); clear hg))
          | (go_at_call 19; ((with_reducible refine (WK _).mono ?_); rintro e w7 ⟨rfl, hg⟩; have HG7 := Lib.hid (grew_trans HG3.out hg); clear hg)))
        go_ret
        exact ⟨rfl, HG7.out⟩
end Go.Proofs.YtefjdgggafkmoaaDoor.NumK
