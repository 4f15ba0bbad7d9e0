/- slices.Contains at integers. -/
import Derived.Test.YtmbhkeppikaeaaaMem
import Derived.Deep.QuietTactic
namespace Go.Proofs.Ytmbhkeppikaeaaa.NumK
open Go.RowKit

theorem contains_snoc' (l : List Int) (y k : Int) : (l ++ [y]).contains k = (l.contains k || decide (y = k)) := by
  rw [Bool.eq_iff_iff]
  simp only [List.contains_iff_mem, List.mem_append, List.mem_singleton, Bool.or_eq_true, decide_eq_true_eq]
  constructor
  · rintro (h | h)
    · exact Or.inl h
    · exact Or.inr h.symm
  · rintro (h | h)
    · exact Or.inl h
    · exact Or.inr h.symm

theorem indexI_any (A : Option Addr) (n c : Nat) (zs : List Int) (x : Int) (w : World) (h : Ints w A n zs) (hn : n ≤ 9223372036854775807) :
    Calls Try.prog 47 #[.slice A n c, .int .i64 x] w fun e w' => (∃ r : Int, e = .returned (.int .i64 r) ∧ decide (0 ≤ r) = zs.contains x) ∧ w = w' := by
  have HZ := Lib.hid h
  clear h
  go_enter Try.func47, Try.ntmps47
  go_wp2
  go_loop [8] (fun i => ∃ k : Nat, k ≤ n ∧ i = .int .i64 k ∧ Hid ((zs.take k).contains x = false)) (fun i => n - (intOf i).toNat)
  case atStart => exact ⟨0, Nat.zero_le _, rfl, by simp [Hid]⟩
  case round =>
    obtain ⟨k, hk, rfl, HK⟩ := hrel
    by_cases hlt : k < n
    · obtain ⟨b, o, rfl, _, hc⟩ := HZ.out.2 (by omega)
      have hcell := hc k hlt
      have hl := HZ.out.1
      have hs : zs.take (k + 1) = zs.take k ++ [zs.getD k 0] := by rw [List.take_succ_eq_append_getElem (by omega)]; simp [List.getD, show k < zs.length by omega]
      have HS : Hid ((zs.take (k + 1)).contains x = decide (zs.getD k 0 = x)) := by show _ = _; rw [hs, contains_snoc', HK.out]; simp
      have HY : Hid (zs.getD k 0 = x → zs.contains x = true) := fun h => by
        rw [List.contains_iff_mem, ← h, show zs.getD k 0 = zs[k]'(by omega) by simp [List.getD, show k < zs.length by omega]]
        exact List.getElem_mem _
      clear hs hc hl
      generalize zs.getD k 0 = y at *
      by_cases hxy : x = y
      · subst hxy
        have HY2 := Lib.hid (HY.out rfl)
        clear HY HS
        go_wp2
        go_ret
        exact ⟨⟨_, rfl, by have := HY2.out; simp at this; simp [this]⟩, rfl⟩
      · have d1 : (x == y) = false := by simpa using hxy
        have HS2 : Hid ((zs.take (k + 1)).contains x = false) := by show _ = _; rw [HS.out]; simp; exact fun h => hxy h.symm
        clear HY HS hxy
        go_wp2
        go_round
        case rel => exact ⟨k + 1, by omega, by go_num, HS2⟩
        case measure => simp [intOf]; omega
    · have : k = n := by omega
      subst this
      have h1 := HK.out
      rw [List.take_of_length_le (by have := HZ.out.1; omega)] at h1
      have HE := Lib.hid h1
      clear h1
      go_wp2
      go_ret
      exact ⟨⟨_, rfl, by have := HE.out; simp at this; simp [this]⟩, rfl⟩

theorem contains_any (A : Option Addr) (n c : Nat) (zs : List Int) (x : Int) (w : World) (h : Ints w A n zs) (hn : n ≤ 9223372036854775807) :
    Calls Try.prog 42 #[.slice A n c, .int .i64 x] w fun e w' => e = .returned (.bool (zs.contains x)) ∧ w = w' := by
  have C := indexI_any A n c zs x w h hn
  clear h
  generalize zs.contains x = B at *
  go_enter Try.func42, Try.ntmps42
  go_wp2_with (go_at_call 47; ((with_reducible refine C.mono ?_); rintro e w' ⟨⟨r, rfl, hr⟩, rfl⟩; have HR := Lib.hid hr; clear hr))
  go_ret
  exact ⟨ret_b HR.out, rfl⟩
end Go.Proofs.Ytmbhkeppikaeaaa.NumK
