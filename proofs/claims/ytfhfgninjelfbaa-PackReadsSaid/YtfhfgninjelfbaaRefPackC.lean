/- The reference's Reader: none, Int, Mark, Done. -/
import Derived.Test.YtfhfgninjelfbaaPackF
import Derived.Test.YtfhfgninjelfbaaPackG
namespace Go.Proofs.Ytfhfgninjelfbaa.NumK
open Go.RowKit

/-- The reference's Reader in block p, of the bytes bs. -/
def QD (w : World) (p : Nat) (A : Option Addr) (n c : Nat) (bs : List UInt8) (s : RS) : Prop :=
  p < w.heap.size ∧ s.ok ∧ n ≤ 1000000000 ∧ Bys w A n bs ∧ (0 < n → ∀ a, A = some a → a.block ≠ p) ∧ ∃ t : Nat, t ≤ n ∧ (s.e = 0 → s.l = bs.drop t) ∧
    w.cell? ⟨p, 0, none⟩ = some (.slice A n c) ∧ w.cell? ⟨p, 1, none⟩ = some (.int .i64 t) ∧ w.cell? ⟨p, 2, none⟩ = some (.int .i64 s.e) ∧ w.frozen? ⟨p, 1, none⟩ = false ∧ w.frozen? ⟨p, 2, none⟩ = false ∧ n ≤ c ∧ c ≤ 9223372036854775807
theorem QD.keep {w w' : World} {p : Nat} {A : Option Addr} {n c : Nat} {bs : List UInt8} {s : RS} (h : QD w p A n c bs s) (g : Grew w w') : QD w' p A n c bs s := by
  obtain ⟨hp, ho, hn, hb, hA, t, ht, hl, h0, h1, h2, f1, f2, hcn⟩ := h
  exact ⟨Nat.lt_of_lt_of_le hp g.size, ho, hn, hb.keep g, hA, t, ht, hl, (grew_cell g (p := ⟨p, 0, none⟩) hp).trans h0, (grew_cell g (p := ⟨p, 1, none⟩) hp).trans h1, (grew_cell g (p := ⟨p, 2, none⟩) hp).trans h2, (Below.frozen g (p := ⟨p, 1, none⟩) hp).trans f1, (Below.frozen g (p := ⟨p, 2, none⟩) hp).trans f2, hcn⟩
theorem QD.turn {w w' : World} {p b : Nat} {A : Option Addr} {n c : Nat} {bs : List UInt8} {s : RS} (h : QD w p A n c bs s) (g : Turn b w w') (hn' : p ≠ b) (hb' : 0 < n → ∀ a, A = some a → a.block ≠ b) : QD w' p A n c bs s := by
  obtain ⟨hp, ho, hn, hb, hA, t, ht, hl, h0, h1, h2, f1, f2, hcn⟩ := h
  exact ⟨Nat.lt_of_lt_of_le hp g.size, ho, hn, hb.turn g hb', hA, t, ht, hl, (g.cell (p := ⟨p, 0, none⟩) hp hn').trans h0, (g.cell (p := ⟨p, 1, none⟩) hp hn').trans h1, (g.cell (p := ⟨p, 2, none⟩) hp hn').trans h2, (g.frozen (p := ⟨p, 1, none⟩) hp hn').trans f1, (g.frozen (p := ⟨p, 2, none⟩) hp hn').trans f2, hcn⟩
/-- An error is recorded. -/
theorem QD.bad {w : World} {p : Nat} {A : Option Addr} {n c : Nat} {bs : List UInt8} {s : RS} (h : QD w p A n c bs s) (x : Int) (hx : x ≠ 0) : QD (w.setCell ⟨p, 2, none⟩ (.int .i64 x)) p A n c bs (.fail x) := by
  obtain ⟨hp, ho, hn, hb, hA, t, ht, hl, h0, h1, h2, f1, f2, hcn⟩ := h
  have hT : Turn p w (w.setCell ⟨p, 2, none⟩ (.int .i64 x)) := (Turn.refl p w).setCell 2 _
  refine ⟨by simp [World.setCell]; exact hp, fun _ => rfl, hn, hb.turn hT hA, hA, t, ht, fun h => absurd h hx, ?_, ?_, World.cell?_setCell_same _ _ _ h2, by rw [World.frozen?_setCell]; exact f1, by rw [World.frozen?_setCell]; exact f2, hcn⟩
  · rw [World.cell?_setCell_other _ _ _ _ (by intro e; simp only [Addr.mk.injEq] at e; omega)]; exact h0
  · rw [World.cell?_setCell_other _ _ _ _ (by intro e; simp only [Addr.mk.injEq] at e; omega)]; exact h1
/-- It goes on to t'. -/
theorem QD.on {w : World} {p : Nat} {A : Option Addr} {n c : Nat} {bs : List UInt8} {s : RS} (h : QD w p A n c bs s) (he : s.e = 0) (t' : Nat) (ht' : t' ≤ n) : QD (w.setCell ⟨p, 1, none⟩ (.int .i64 t')) p A n c bs ⟨bs.drop t', 0⟩ := by
  obtain ⟨hp, ho, hn, hb, hA, t, ht, hl, h0, h1, h2, f1, f2, hcn⟩ := h
  have hT : Turn p w (w.setCell ⟨p, 1, none⟩ (.int .i64 t')) := (Turn.refl p w).setCell 1 _
  refine ⟨by simp [World.setCell]; exact hp, fun h => absurd rfl h, hn, hb.turn hT hA, hA, t', ht', fun _ => rfl, ?_, World.cell?_setCell_same _ _ _ h1, ?_, by rw [World.frozen?_setCell]; exact f1, by rw [World.frozen?_setCell]; exact f2, hcn⟩
  · rw [World.cell?_setCell_other _ _ _ _ (by intro e; simp only [Addr.mk.injEq] at e; omega)]; exact h0
  · rw [World.cell?_setCell_other _ _ _ _ (by intro e; simp only [Addr.mk.injEq] at e; omega), h2, he]

def QPost (p : Nat) (A : Option Addr) (n c : Nat) (bs : List UInt8) (v : Value) (s' : RS) (w : World) (e : Ending) (w' : World) : Prop := e = .returned v ∧ QD w' p A n c bs s' ∧ Turn p w w'

theorem none_any (p : Nat) (A : Option Addr) (n c : Nat) (bs : List UInt8) (s : RS) (x : Int) (w : World) (h : QD w p A n c bs s) (hx : x ≠ 0) :
    Calls Try.prog 39 #[.pointer (some ⟨p, 0, none⟩), .int .i64 x] w (QPost p A n c bs (.tuple #[]) (rFail s x) w) := by
  have hs := h.bad x hx
  obtain ⟨hp, ho, hn, hb, hA, t, ht, hl, h0, h1, h2, f1, f2, hcn⟩ := id h
  by_cases he : s.e = 0
  · have HP : Hid (QPost p A n c bs (.tuple #[]) (rFail s x) w (.returned (.tuple #[])) (w.setCell ⟨p, 2, none⟩ (.int .i64 x))) := by
      refine ⟨rfl, ?_, (Turn.refl p w).setCell 2 _⟩
      unfold rFail; rw [if_pos he]; exact hs
    rw [he] at h2
    clear hs h ho hl hb hA ht hn he hx
    go_enter Try.func39, Try.ntmps39
    go_wp2
    go_end0
    exact HP.out
  · have HP : Hid (QPost p A n c bs (.tuple #[]) (rFail s x) w (.returned (.tuple #[])) w) := by
      refine ⟨rfl, ?_, Turn.refl p w⟩
      unfold rFail; rw [if_neg he]; exact h
    have d : (s.e == 0) = false := by simpa using he
    clear hs h ho hl hb hA ht hn he hx
    go_enter Try.func39, Try.ntmps39
    go_wp2
    go_end0
    exact HP.out

set_option maxHeartbeats 1000000 in
theorem refDone_any (p : Nat) (A : Option Addr) (n c : Nat) (bs : List UInt8) (s : RS) (w : World) (h : QD w p A n c bs s) :
    Calls Try.prog 26 #[.pointer (some ⟨p, 0, none⟩)] w fun e w' => e = .returned (.int .i64 (rD s)) ∧ Grew w w' := by
  obtain ⟨hp, ho, hn, hb, hA, t, ht, hl, h0, h1, h2, f1, f2, hcn⟩ := h
  have hbl := hb.1
  clear ho f1 f2 hb hA
  by_cases he : s.e = 0
  · rw [he] at h2
    have hl' := hl he
    by_cases htn : t = n
    · subst htn
      have HD : Hid (rD s = 0) := by show _ = _; unfold rD; rw [hl', he, List.drop_of_length_le (by omega)]; simp
      rw [HD.out]
      have d0 : decide ((t : Int) < (t : Int)) = false := decide_eq_false (by omega)
      clear he hl hl' hbl ht
      go_enter Try.func26, Try.ntmps26
      go_wp2
      go_quiet (fail)
      have HG2 : Hid (Grew w (w.drewN nq)) := grew_drewN (grew_refl _) _
      have h2' : (w.drewN nq).cell? ⟨p, 2, none⟩ = some (.int .i64 0) := h2
      generalize w.drewN nq = w2 at HG2 h2' ⊢
      go_wp2
      go_ret
      exact ⟨rfl, HG2.out⟩
    · have HD : Hid (rD s = 4) := by
        show _ = _; unfold rD; rw [if_pos]
        refine ⟨he, ?_⟩
        rw [hl']; intro hc
        have := congrArg List.length hc
        simp at this; omega
      rw [HD.out]
      have d0 : decide (t < n) = true := decide_eq_true (by omega)
      clear he hl hl' hbl ht
      go_enter Try.func26, Try.ntmps26
      go_wp2
      go_quiet (fail)
      have HG2 : Hid (Grew w (w.drewN nq)) := grew_drewN (grew_refl _) _
      generalize w.drewN nq = w2 at HG2 ⊢
      go_wp2
      go_ret
      exact ⟨rfl, HG2.out⟩
  · have d : (s.e == 0) = false := by simpa using he
    have HD : Hid (rD s = s.e) := by show _ = _; unfold rD; rw [if_neg (fun h => he h.1)]
    rw [HD.out]
    clear he hl ht hbl
    go_enter Try.func26, Try.ntmps26
    go_wp2
    go_quiet (fail)
    have HG2 : Hid (Grew w (w.drewN nq)) := grew_drewN (grew_refl _) _
    have h2' : (w.drewN nq).cell? ⟨p, 2, none⟩ = some (.int .i64 s.e) := h2
    generalize w.drewN nq = w2 at HG2 h2' ⊢
    go_wp2
    go_ret
    exact ⟨rfl, HG2.out⟩
end Go.Proofs.Ytfhfgninjelfbaa.NumK
