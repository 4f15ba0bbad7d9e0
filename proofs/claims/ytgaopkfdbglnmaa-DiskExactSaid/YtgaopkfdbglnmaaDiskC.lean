/- disk: the last write; Arm. -/
import Derived.Test.YtgaopkfdbglnmaaDiskB
namespace Go.Proofs.Ytgaopkfdbglnmaa.NumK
open Go.RowKit

theorem fx_self {F : Nat → Prop} {w w' : World} : ∀ k, F k → FX F w w' k := fun _ h => Or.inl h
theorem fx_fit {F : Nat → Prop} {w w' : World} (hf : ∀ k, F k → k < w.heap.size) (hs : w.heap.size ≤ w'.heap.size) : ∀ k, FX F w w' k → k < w'.heap.size := fun k h => by
  rcases h with h | h
  · exact Nat.lt_of_lt_of_le (hf k h) hs
  · exact h.2
/-- Only the head was turned. -/
theorem dk_head {F : Nat → Prop} {q : Nat} {s s' : DS} {w w' : World} {C Y : Nat} {v : Value} (hf : ∀ k, F k → k < w.heap.size) (L : Lie F q C Y v) (g : Chg (fun k => k = q) w w') (ok : DOK s')
    (h0 : s'.safe = s.safe) (h00 : s'.opn = s.opn) (H : Head w' q s.safe.length C Y v s'.armed s'.off) (h1 : BlkRow w C (cont s)) (h2 : BlkRow w Y s.safe) (h3 : w.ownsRow 0 66 65 v s.opn.length (opnC s.opn)) :
    Chg F w w' ∧ DK w' (FX F w w') q s' := by
  have hc : cont s' = cont s := by unfold cont; rw [h0, h00]
  refine ⟨g.mono (fun i hi => hi ▸ L.fq), fx_fit hf g.size, ok, C, Y, v, L.mono fx_self, by rw [h0]; exact H, by rw [hc]; exact h1.chg g (fun h => L.qC h.symm), by rw [h0]; exact h2.chg g (fun h => L.qY h.symm), ?_⟩
  rw [h00]
  exact ownsRow_of h3 fun k hk => g.block k (hf k (L.fv k hk).1) (L.fv k hk).2.1

theorem dok_last {s : DS} (h : DOK s) : DOK (dLast s).2 := by
  obtain ⟨h1, h2, h3, h4, h5, h6, h7⟩ := h
  unfold dLast
  split
  · exact ⟨h1, h2, h3, h4, h5, h6, h7⟩
  · split
    · exact ⟨h1, h2, h3, by show 0 ≤ _; omega, fun _ => rfl, (fun _ h => by cases h), fun _ => rfl⟩
    · exact ⟨h1, h2, h3, by show s.armed - 1 ≤ _; omega, h5, h6, fun h => by show s.armed - 1 = 0; have := h7 h; omega⟩
theorem dk_same {F : Nat → Prop} {q : Nat} {s : DS} {w : World} (h : DK w F q s) : Chg F w w ∧ DK w (FX F w w) q s := ⟨Chg.refl _ _, h.more fx_self (fx_fit h.fit (Nat.le_refl _))⟩
theorem isLast_any (F : Nat → Prop) (q : Nat) (s : DS) (w : World) (h : DK w F q s) : Calls Try.prog 35 #[.pointer (some ⟨q, 0, none⟩)] w (DPost F q w (.bool (dLast s).1) (dLast s).2) := by
  have hD := h
  obtain ⟨C, Y, v, L, H, h1, h2, h3⟩ := h.ex
  have c3 := H.c3
  have f3 := H.f3
  have f4 := H.f4
  have c4 := H.c4
  by_cases ha : s.armed = 0
  · have HP : Hid (DPost F q w (.bool (dLast s).1) (dLast s).2 (.returned (.bool false)) w) := by
      have e : dLast s = (false, s) := by unfold dLast; rw [if_pos ha]
      rw [e]
      exact ⟨rfl, dk_same hD⟩
    rw [ha] at c3
    clear H L h1 h2 h3 h hD
    go_enter Try.func35, Try.ntmps35
    go_wp2
    go_ret
    exact HP.out
  · have hoff : s.off = false := by
      cases ho : s.off
      · rfl
      · exact absurd (hD.ok.off0 ho) ha
    have hcut : s.cut = false := by
      cases ho : s.cut
      · rfl
      · have := hD.ok.cut ho; rw [hoff] at this; cases this
    have k0 : ¬ (s.armed : Int) = 0 := by omega
    have k1 : IntKind.i64.wrap ((s.armed : Int) - 1) = ((s.armed - 1 : Nat) : Int) := by rw [IntKind.wrap_i64]; have := hD.ok.arm; omega
    have HP : Hid (DPost F q w (.bool (dLast s).1) (dLast s).2 (.returned (.bool (decide (s.armed - 1 = 0)))) ((w.setCell ⟨q, 3, none⟩ (.int .i64 ((s.armed - 1 : Nat) : Int))).setCell ⟨q, 4, none⟩ (.bool (decide (s.armed - 1 = 0))))) := by
      have g : Chg (fun k => k = q) w ((w.setCell ⟨q, 3, none⟩ (.int .i64 ((s.armed - 1 : Nat) : Int))).setCell ⟨q, 4, none⟩ (.bool (decide (s.armed - 1 = 0)))) := ((Chg.refl (fun k => k = q) w).setCell ⟨q, 3, none⟩ _ (fun _ => rfl)).setCell ⟨q, 4, none⟩ _ (fun _ => rfl)
      have hok := dok_last hD.ok
      by_cases h1' : s.armed = 1
      · have e : dLast s = (true, { s with armed := 0, off := true, cut := true }) := by unfold dLast; rw [if_neg ha, if_pos h1']
        have e0 : s.armed - 1 = 0 := by omega
        rw [e] at hok ⊢
        rw [e0] at g ⊢
        exact ⟨rfl, dk_head (s := s) hD.fit L g hok rfl rfl ((H.set3 0).set4 true) h1 h2 h3⟩
      · have e : dLast s = (false, { s with armed := s.armed - 1 }) := by unfold dLast; rw [if_neg ha, if_neg h1']
        have e0 : decide (s.armed - 1 = 0) = false := decide_eq_false (by omega)
        rw [e] at hok ⊢
        rw [e0] at g ⊢
        refine ⟨rfl, dk_head (s := s) hD.fit L g hok rfl rfl ?_ h1 h2 h3⟩
        have := (H.set3 (s.armed - 1)).set4 false
        rw [← hoff] at this
        rwa [← hoff]
    clear H L h1 h2 h3 h hD hoff hcut
    generalize s.armed - 1 = m at *
    generalize s.armed = m0 at *
    go_enter Try.func35, Try.ntmps35
    go_wp2
    go_ret
    have e1 : ((m : Int) == 0) = decide (m = 0) := by by_cases h : m = 0 <;> simp [h]
    first
      | exact HP.out
      | (simp only [e1] at *; exact HP.out)

def armI (n : Int) : Nat := n.toNat
theorem dok_arm {s : DS} (h : DOK s) (n : Int) (hn : n ≤ 9223372036854775807) : DOK (dArm s n) := by
  obtain ⟨h1, h2, h3, h4, h5, h6, h7⟩ := h
  unfold dArm
  split
  · exact ⟨h1, h2, h3, h4, h5, h6, h7⟩
  · exact ⟨h1, h2, h3, by show n.toNat ≤ _; omega, h5, h6, fun h => by simp_all⟩
theorem arm_any (F : Nat → Prop) (q : Nat) (s : DS) (n : Int) (hn : n ≤ 9223372036854775807) (w : World) (h : DK w F q s) : Calls Try.prog 25 #[.pointer (some ⟨q, 0, none⟩), .int .i64 n] w (DPost F q w (.tuple #[]) (dArm s n)) := by
  have hD := h
  obtain ⟨C, Y, v, L, H, h1, h2, h3⟩ := h.ex
  have c3 := H.c3
  have f3 := H.f3
  have f4 := H.f4
  have c4 := H.c4
  cases ho : s.off with
  | true =>
    have HP : Hid (DPost F q w (.tuple #[]) (dArm s n) (.returned (.tuple #[])) w) := by
      have e : dArm s n = s := by unfold dArm; rw [ho]; rfl
      rw [e]
      exact ⟨rfl, dk_same hD⟩
    rw [ho] at c4
    clear H L h1 h2 h3 h hD
    go_enter Try.func25, Try.ntmps25
    go_wp2
    go_end0
    exact HP.out
  | false =>
    have HP : Hid (DPost F q w (.tuple #[]) (dArm s n) (.returned (.tuple #[])) (w.setCell ⟨q, 3, none⟩ (.int .i64 (n.toNat : Int)))) := by
      have e : dArm s n = { s with armed := n.toNat } := by unfold dArm; rw [ho]; rfl
      have hok := dok_arm hD.ok n hn
      rw [e] at hok ⊢
      refine ⟨rfl, dk_head (s := s) hD.fit L ((Chg.refl (fun k => k = q) w).setCell ⟨q, 3, none⟩ _ (fun _ => rfl)) hok rfl rfl ?_ h1 h2 h3⟩
      exact H.set3 n.toNat
    rw [ho] at c4
    clear H L h1 h2 h3 h hD
    by_cases h5 : n < 0
    · have e5 : n.toNat = 0 := by omega
      rw [e5] at HP
      go_enter Try.func25, Try.ntmps25
      go_wp2
      go_end0
      exact HP.out
    · have e5 : (n.toNat : Int) = n := by omega
      rw [e5] at HP
      clear e5
      go_enter Try.func25, Try.ntmps25
      go_wp2
      go_end0
      exact HP.out
end Go.Proofs.Ytgaopkfdbglnmaa.NumK
