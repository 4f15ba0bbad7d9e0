/- The account of a name: the program's. -/
import Derived.Test.YtefjdgggafkmoaaDoorAcctD
import Derived.Test.YtefjdgggafkmoaaDoorAcctE
import Derived.Lib.Walk
import Derived.Lib.Strings
import Derived.Laws.Strings3
import Derived.Laws.StandIn
import Derived.Lib.AtoiErrMem
namespace Go.Proofs.YtefjdgggafkmoaaDoor.NumK
open Go.RowKit

/-- The library's two errors lie where its own start-up code lays them. -/
def EV (w : World) : Prop := (∃ t p, w.cell? ⟨1, 0, none⟩ = some (.iface t p)) ∧ ∃ t p, w.cell? ⟨2, 0, none⟩ = some (.iface t p)
theorem EV.keep {w w' : World} (h : EV w) (g : Grew w w') : EV w' := by
  obtain ⟨⟨t, p, h1⟩, u, q, h2⟩ := h
  exact ⟨⟨t, p, (grew_cell g (by exact World.block_lt_of_cell? w _ h1)).trans h1⟩, u, q, (grew_cell g (by exact World.block_lt_of_cell? w _ h2)).trans h2⟩

theorem atoi_any (s : ByteArray) (w : World) (hE : EV w) (hs : s.size ≤ 281474976710656) :
    Calls Tryd.prog 29 #[.string s] w fun e w' => (∃ v, e = .returned (.tuple #[.int .i64 (atoiV s.data.toList), v])) ∧ Grew w w' := by
  obtain ⟨⟨t, p, h1⟩, u, q, h2⟩ := hE
  unfold atoiV
  cases h : Lib.atoiAll s.data.toList with
  | ok v =>
    refine (Tryd.strconv_Atoi_ok s (by omega) v h w).mono fun e w' ⟨he, hw⟩ => ⟨⟨_, he⟩, ?_⟩
    rcases hw with rfl | ⟨t, rfl⟩
    · exact grew_refl _
    · exact Lib.bytesWorld_below _ _ _
  | «syntax» => exact (Tryd.strconv_Atoi_syntax s hs h _ w h1 (Or.inr ⟨_, _, rfl⟩)).mono fun e w' ⟨N, he, _, _, hb⟩ => ⟨⟨_, he⟩, hb⟩
  | range => exact (Tryd.strconv_Atoi_range s hs h _ w h2 (Or.inr ⟨_, _, rfl⟩)).mono fun e w' ⟨N, he, _, _, hb⟩ => ⟨⟨_, he⟩, hb⟩

theorem toList_inj {a b : ByteArray} : a = b ↔ a.data.toList = b.data.toList := by
  constructor
  · rintro rfl; rfl
  · intro h; exact ByteArray.ext (Array.toList_inj.1 h)

set_option maxRecDepth 100000 in
set_option maxHeartbeats 2000000 in
theorem index1_any (s : ByteArray) (w : World) : Calls Tryd.prog 38 #[.string s, .string ⟨#[46]⟩] w fun e w' => e = .returned (.int .i64 (Lib.indexB s ⟨#[46]⟩)) ∧ w = w' := by
  have e1 : Lib.indexB s ⟨#[46]⟩ = Lib.indexByte s.data.toList 46 := Lib.index_one _ _
  rw [e1]
  have C : ∀ w, Calls Tryd.prog 48 #[.string s, .int .u8 46] w fun e w' => e = .returned (.int .i64 (Lib.indexByte s.data.toList 46)) ∧ w' = w := fun w => Tryd.stringslite_IndexByte s 46 w
  by_cases hs : s = ⟨#[46]⟩
  · subst hs
    go_enter Tryd.func38, Tryd.ntmps38
    go_big_wp2_with (go_at_call 48; ((with_reducible refine (C _).mono ?_); rintro e w' ⟨rfl, rfl⟩))
    go_ret
    exact ⟨ret_i (by decide +kernel), rfl⟩
  · have d1 : (([46] : List UInt8) == s.toList) = false := by
      rw [Lib.toList_data, beq_eq_false_iff_ne]
      exact fun h => hs (toList_inj.2 h.symm)
    generalize Lib.indexByte s.data.toList 46 = r at *
    go_enter Tryd.func38, Tryd.ntmps38
    go_big_wp2_with (go_at_call 48; (refine (C _).mono ?_; rintro e w' ⟨rfl, rfl⟩))
    go_ret
    exact ⟨rfl, rfl⟩

set_option maxHeartbeats 2000000 in
set_option maxRecDepth 100000 in
theorem scut_any (s : ByteArray) (w : World) (hs : s.size ≤ 281474976710656) : Calls Tryd.prog 33 #[.string s, .string ⟨#[46]⟩] w fun e w' => e = .returned (.tuple #[.string ⟨(Lib.cut s.data.toList [46]).1.toArray⟩, .string ⟨(Lib.cut s.data.toList [46]).2.1.toArray⟩, .bool (Lib.cut s.data.toList [46]).2.2]) ∧ Grew w w' := by
  have CI := fun w => index1_any s w
  rcases Lib.indexB_cases s ⟨#[46]⟩ with hix | ⟨i, hix, hroom⟩
  · obtain ⟨e1, e2, e3⟩ := Lib.cutB_miss s ⟨#[46]⟩ hix
    have e1 : (⟨(Lib.cut s.data.toList [46]).1.toArray⟩ : ByteArray) = s := e1
    have e2 : (⟨(Lib.cut s.data.toList [46]).2.1.toArray⟩ : ByteArray) = ByteArray.empty := e2
    have e3 : (Lib.cut s.data.toList [46]).2.2 = false := e3
    rw [e1, e2, e3]
    rw [hix] at CI
    clear hix e1 e2 e3
    go_enter Tryd.func33, Tryd.ntmps33
    go_wp2_with (go_at_call 38; ((with_reducible refine (CI _).mono ?_); rintro e w' ⟨rfl, rfl⟩))
    go_ret3
    exact ⟨rfl, grew_refl _⟩
  · obtain ⟨e1, e2, e3⟩ := Lib.cutB_hit s ⟨#[46]⟩ i hix
    have e1 : (⟨(Lib.cut s.data.toList [46]).1.toArray⟩ : ByteArray) = s.extract 0 i := e1
    have e2 : (⟨(Lib.cut s.data.toList [46]).2.1.toArray⟩ : ByteArray) = s.extract (i + 1) s.size := e2
    have e3 : (Lib.cut s.data.toList [46]).2.2 = true := e3
    rw [e1, e2, e3]
    rw [hix] at CI
    have c1 : (0 : Int) ≤ ↑i := by omega
    have c4 : (↑i + 1 : Int) ≤ ↑s.size := by have : i + 1 ≤ s.size := hroom; omega
    have c2 : (↑i : Int) ≤ ↑s.size := by omega
    have c3 : (0 : Int) ≤ ↑i + 1 := by omega
    clear hix e1 e2 e3 hroom
    go_enter Tryd.func33, Tryd.ntmps33
    go_wp2_with (go_at_call 38; ((with_reducible refine (CI _).mono ?_); rintro e w' ⟨rfl, rfl⟩))
    have mixed : Tryd.prog.follows .mixedOrders = true := by kernel_rfl
    go_region_o
    go_wp2
    go_ret3
    exact ⟨rfl, grew_drewN (grew_refl _) 1⟩

theorem cut_any (s : ByteArray) (w : World) (hs : s.size ≤ 281474976710656) : Calls Tryd.prog 27 #[.string s, .string ⟨#[46]⟩] w fun e w' => e = .returned (.tuple #[.string ⟨(Lib.cut s.data.toList [46]).1.toArray⟩, .string ⟨(Lib.cut s.data.toList [46]).2.1.toArray⟩, .bool (Lib.cut s.data.toList [46]).2.2]) ∧ Grew w w' := by
  have C := fun w => scut_any s w hs
  clear hs
  generalize (⟨(Lib.cut s.data.toList [46]).1.toArray⟩ : ByteArray) = a at *
  generalize (⟨(Lib.cut s.data.toList [46]).2.1.toArray⟩ : ByteArray) = b at *
  generalize (Lib.cut s.data.toList [46]).2.2 = c at *
  go_enter Tryd.func27, Tryd.ntmps27
  go_wp2_with (go_at_call 33; ((with_reducible refine (C _).mono ?_); rintro e w' ⟨rfl, hg⟩; have HG := Lib.hid hg; clear hg))
  go_ret3
  exact ⟨rfl, HG.out⟩

set_option maxRecDepth 100000 in
theorem kindOf_any (s : ByteArray) (w : World) : Calls Tryd.prog 28 #[.string s] w fun e w' => e = .returned (.int .i64 (kindN s.data.toList)) ∧ Grew w w' := by
  have HK : Hid (kindN s.data.toList = if wordL 1 = s.data.toList then 1 else if wordL 2 = s.data.toList then 2 else if wordL 3 = s.data.toList then 3 else if wordL 4 = s.data.toList then 4 else if wordL 5 = s.data.toList then 5 else if wordL 6 = s.data.toList then 6 else 0) := rfl
  generalize kindN s.data.toList = K at *
  have CW := fun k w => word_any k w
  go_enter Tryd.func28, Tryd.ntmps28
  go_wp2
  go_loopw [3] (fun v3 wr => ∃ j : Nat, v3 = .int .i64 ((j : Int) + 1) ∧ j ≤ 6 ∧ Hid (∀ i : Nat, i < j → wordL ((i : Int) + 1) ≠ s.data.toList) ∧ Hid (Grew w wr)) (fun v3 _ => 7 - (intOf v3).toNat)
  case atStart => exact ⟨0, rfl, by omega, (by intro i hi; omega), grew_refl _⟩
  case round =>
    obtain ⟨j, rfl, hj, HN, HG⟩ := hrel
    by_cases hlt : j < 6
    · have C := CW ((j : Int) + 1) wr
      by_cases hw : wordL ((j : Int) + 1) = s.data.toList
      · have hs : (⟨(wordL ((j : Int) + 1)).toArray⟩ : ByteArray) = s := toList_inj.2 (by simpa using hw)
        rw [hs] at C
        have HR : Hid ((j : Int) + 1 = K) := by
          show _ = _
          rw [HK.out]
          have h := HN.out
          have : j = 0 ∨ j = 1 ∨ j = 2 ∨ j = 3 ∨ j = 4 ∨ j = 5 := by omega
          rcases this with rfl | rfl | rfl | rfl | rfl | rfl
          · exact (if_pos hw).symm
          · rw [if_neg (show ¬ wordL 1 = _ from h 0 (by omega))]; exact (if_pos hw).symm
          · rw [if_neg (show ¬ wordL 1 = _ from h 0 (by omega)), if_neg (show ¬ wordL 2 = _ from h 1 (by omega))]; exact (if_pos hw).symm
          · rw [if_neg (show ¬ wordL 1 = _ from h 0 (by omega)), if_neg (show ¬ wordL 2 = _ from h 1 (by omega)), if_neg (show ¬ wordL 3 = _ from h 2 (by omega))]; exact (if_pos hw).symm
          · rw [if_neg (show ¬ wordL 1 = _ from h 0 (by omega)), if_neg (show ¬ wordL 2 = _ from h 1 (by omega)), if_neg (show ¬ wordL 3 = _ from h 2 (by omega)), if_neg (show ¬ wordL 4 = _ from h 3 (by omega))]; exact (if_pos hw).symm
          · rw [if_neg (show ¬ wordL 1 = _ from h 0 (by omega)), if_neg (show ¬ wordL 2 = _ from h 1 (by omega)), if_neg (show ¬ wordL 3 = _ from h 2 (by omega)), if_neg (show ¬ wordL 4 = _ from h 3 (by omega)), if_neg (show ¬ wordL 5 = _ from h 4 (by omega))]; exact (if_pos hw).symm
        clear hs hw CW
        go_wp2_with (go_at_call 24; ((with_reducible refine C.mono ?_); rintro e w' ⟨rfl, rfl⟩))
        go_ret
        exact ⟨ret_i HR.out, HG.out⟩
      · have hs : ¬ (⟨(wordL ((j : Int) + 1)).toArray⟩ : ByteArray) = s := fun h => hw (by have := congrArg (fun x => x.data.toList) h; simpa using this)
        have HN2 : Hid (∀ i : Nat, i < j + 1 → wordL ((i : Int) + 1) ≠ s.data.toList) := fun i hi => by
          rcases Nat.lt_or_ge i j with h | h
          · exact HN.out i h
          · obtain rfl : i = j := by omega
            exact hw
        generalize (⟨(wordL ((j : Int) + 1)).toArray⟩ : ByteArray) = u at *
        have d1 : (u.toList == s.toList) = false := by
          rw [Lib.toList_data, Lib.toList_data, beq_eq_false_iff_ne]
          exact fun h => hs (toList_inj.2 h)
        clear hw CW
        go_wp2_with (go_at_call 24; ((with_reducible refine C.mono ?_); rintro e w' ⟨rfl, rfl⟩))
        go_roundw
        case rel => exact ⟨j + 1, by go_num, by omega, HN2, HG⟩
        case measure => simp only [intOf]; omega
    · obtain rfl : j = 6 := by omega
      have HR : Hid ((0 : Int) = K) := by
        have h := HN.out
        show _ = _
        rw [HK.out, if_neg (show ¬ wordL 1 = _ from h 0 (by omega)), if_neg (show ¬ wordL 2 = _ from h 1 (by omega)), if_neg (show ¬ wordL 3 = _ from h 2 (by omega)), if_neg (show ¬ wordL 4 = _ from h 3 (by omega)), if_neg (show ¬ wordL 5 = _ from h 4 (by omega)), if_neg (show ¬ wordL 6 = _ from h 5 (by omega))]
      clear CW
      go_wp2
      go_ret
      exact ⟨ret_i HR.out, HG.out⟩
end Go.Proofs.YtefjdgggafkmoaaDoor.NumK
