/- disk: what a disk tells of itself; which block; the last write; how many bytes stay; Arm. -/
import Derived.Test.YtgaopkfdbglnmaaDiskA
namespace Go.Proofs.Ytgaopkfdbglnmaa.NumK
open Go.RowKit

theorem off_any (F : Nat → Prop) (q : Nat) (s : DS) (w : World) (h : DK w F q s) : Calls Try.prog 14 #[.pointer (some ⟨q, 0, none⟩)] w fun e w' => e = .returned (.bool s.off) ∧ w = w' := by
  obtain ⟨C, Y, v, L, H, h1⟩ := h.ex
  have c4 := H.c4
  clear H h1 L h
  go_enter Try.func14, Try.ntmps14
  go_wp2
  go_ret
  exact ⟨rfl, rfl⟩
theorem blocks_any (F : Nat → Prop) (q : Nat) (s : DS) (w : World) (h : DK w F q s) : Calls Try.prog 16 #[.pointer (some ⟨q, 0, none⟩)] w fun e w' => e = .returned (.int .i64 (s.safe.length : Int)) ∧ w = w' := by
  obtain ⟨C, Y, v, L, H, h1⟩ := h.ex
  have c4 := H.c0
  clear H h1 L h
  go_enter Try.func16, Try.ntmps16
  go_wp2
  go_ret
  exact ⟨rfl, rfl⟩
theorem own_form {w : World} {base : Nat} {e : TypeId} {sz : Nat} {v : Value} {n : Nat} {xs : List Value} (h : w.ownsRow base e sz v n xs) : ∃ A cap, v = .slice A n cap := by
  rcases h.2 with ⟨rfl, rfl⟩ | ⟨g, cap, cur, rfl, _⟩
  · exact ⟨_, _, rfl⟩
  · exact ⟨_, _, rfl⟩
theorem open_any (F : Nat → Prop) (q : Nat) (s : DS) (w : World) (h : DK w F q s) : Calls Try.prog 15 #[.pointer (some ⟨q, 0, none⟩)] w fun e w' => e = .returned (.int .i64 (s.opn.length : Int)) ∧ w = w' := by
  obtain ⟨C, Y, v, L, H, h1, h2, h3⟩ := h.ex
  obtain ⟨A, cap, rfl⟩ := own_form h3
  have c4 := H.c2
  clear H h1 L h h2 h3
  go_enter Try.func15, Try.ntmps15
  go_wp2
  go_ret
  exact ⟨rfl, rfl⟩

def refI (s : DS) (at' : Int) : Int := if s.off then 7 else if s.has at' then 0 else 3
theorem refuses_any (F : Nat → Prop) (q : Nat) (s : DS) (at' : Int) (w : World) (h : DK w F q s) : Calls Try.prog 32 #[.pointer (some ⟨q, 0, none⟩), .int .i64 at'] w fun e w' => e = .returned (.int .i64 (refI s at')) ∧ w = w' := by
  have CB := blocks_any F q s w h
  obtain ⟨C, Y, v, L, H, h1⟩ := h.ex
  have c4 := H.c4
  clear H h1 L h
  cases ho : s.off with
  | true =>
    rw [ho] at c4
    have HE : Hid (refI s at' = 7) := by show _ = _; simp [refI, ho]
    go_enter Try.func32, Try.ntmps32
    go_wp2
    go_ret
    exact ⟨ret_i HE.out.symm, rfl⟩
  | false =>
    rw [ho] at c4
    by_cases h1 : at' < 0
    · have HE : Hid (refI s at' = 3) := by show _ = _; simp [refI, ho, DS.has]; omega
      go_enter Try.func32, Try.ntmps32
      go_wp2
      go_ret
      exact ⟨ret_i HE.out.symm, rfl⟩
    · have HE : Hid (refI s at' = if at' < (s.safe.length : Int) then 0 else 3) := by show _ = _; simp only [refI, ho, DS.has, show (0 : Int) ≤ at' by omega, true_and]; rfl
      generalize s.safe.length = n at *
      by_cases h2 : at' < (n : Int)
      · rw [if_pos h2] at HE
        have h3 : ¬ (n : Int) ≤ at' := by omega
        go_enter Try.func32, Try.ntmps32
        go_wp2_with (go_at_call 16; ((with_reducible refine CB.mono ?_); rintro e w1 ⟨rfl, rfl⟩))
        go_ret
        exact ⟨ret_i HE.out.symm, rfl⟩
      · rw [if_neg h2] at HE
        have h3 : (n : Int) ≤ at' := by omega
        go_enter Try.func32, Try.ntmps32
        go_wp2_with (go_at_call 16; ((with_reducible refine CB.mono ?_); rintro e w1 ⟨rfl, rfl⟩))
        go_ret
        exact ⟨ret_i HE.out.symm, rfl⟩

/-- How many bytes a pick leaves. -/
def stayI (p : Int) : Int := if p % 66 = 65 then 64 else if p % 66 = 0 then 0 else p % 66 - 1
theorem remaining_any (p : Int) (w : World) : Calls Try.prog 36 #[.int .i64 p] w fun e w' => e = .returned (.int .i64 (stayI p)) ∧ w = w' := by
  have f1 : p.tmod 66 = p % 66 ∨ p.tmod 66 + 66 = p % 66 ∧ p.tmod 66 < 0 := by
    have := tdiv_facts p 66 (by omega)
    omega
  have f2 : -66 < p.tmod 66 ∧ p.tmod 66 < 66 := by
    have := tdiv_facts p 66 (by omega)
    omega
  have HS : Hid (stayI p = if p % 66 = 0 then 0 else p % 66 - 1) := by show _ = _; unfold stayI; split <;> split <;> omega
  have f3 : 0 ≤ p % 66 ∧ p % 66 < 66 := by omega
  generalize p % 66 = u at *
  by_cases h3 : p.tmod 66 < 0
  · have h4 : IntKind.i64.wrap (p.tmod 66 + 66) = u := by rw [IntKind.wrap_i64]; omega
    have h5 : IntKind.i64.wrap (u - 1) = u - 1 := by rw [IntKind.wrap_i64]; omega
    clear f1 f2
    by_cases h6 : u = 0
    · subst h6
      go_enter Try.func36, Try.ntmps36
      go_wp2
      go_ret
      exact ⟨ret_i HS.out.symm, rfl⟩
    · have h7 : ¬ u - 1 < 0 := by omega
      go_enter Try.func36, Try.ntmps36
      go_wp2
      go_ret
      exact ⟨ret_i (by rw [HS.out, if_neg h6]), rfl⟩
  · have h4 : p.tmod 66 = u := by omega
    have h5 : IntKind.i64.wrap (u - 1) = u - 1 := by rw [IntKind.wrap_i64]; omega
    have h8 : ¬ u < 0 := by omega
    clear f1 f2 h3
    by_cases h6 : u = 0
    · subst h6
      go_enter Try.func36, Try.ntmps36
      go_wp2
      go_ret
      exact ⟨ret_i HS.out.symm, rfl⟩
    · have h7 : ¬ u - 1 < 0 := by omega
      go_enter Try.func36, Try.ntmps36
      go_wp2
      go_ret
      exact ⟨ret_i (by rw [HS.out, if_neg h6]), rfl⟩
end Go.Proofs.Ytgaopkfdbglnmaa.NumK
