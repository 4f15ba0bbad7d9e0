/- Contracts of cambistkeep: TwinInts, Spoil. -/
import Derived.Test.YtkkemmfghjgmeaaRowI
import Derived.Test.YtkkemmfghjgmeaaWide0
namespace Go.Proofs.Ytkkemmfghjgmeaa.NumK
open Go.RowKit

/-- The same numbers, in memory of the call's own. -/
def TwinPost (l : List Int) (n : Nat) (w : World) (e : Ending) (w' : World) : Prop :=
  Grew w w' ∧ ∃ A c, e = .returned (.slice A n c) ∧ (A = none → n = 0 ∧ c = 0) ∧ Ints w' A n l ∧ ∀ a, A = some a → ∃ g, a = ⟨g, 0, none⟩ ∧ w.heap.size ≤ g ∧ RowI w' g n (fun k => l.getD k 0)

theorem twin_of_own {w w' : World} {e : TypeId} {v : Value} {n : Nat} {zs : List Int} (g : Grew w w') (h : w'.ownsRow w.heap.size e 1 v n (zs.map (Value.int .i64))) : TwinPost zs n w (.returned v) w' := by
  refine ⟨g, ?_⟩
  obtain ⟨A, c, rfl, hI, hA⟩ := ints_of_own h
  refine ⟨A, c, rfl, fun hn => ⟨?_, hA hn⟩, hI, fun a ha => ?_⟩
  · rcases Nat.eq_zero_or_pos n with h0 | h0
    · exact h0
    · obtain ⟨b, o, he, _⟩ := hI.2 h0
      rw [hn] at he; cases he
  · subst ha
    obtain ⟨hl, h⟩ := h
    rcases h with ⟨he, _⟩ | ⟨g, cap, cur, he, hb, hh, h1, h2, h3, h4⟩
    · cases he
    · cases he
      refine ⟨g, rfl, hb, ?_, fun k hk => ⟨?_, ?_⟩⟩
      · rcases Nat.lt_or_ge g w'.heap.size with h5 | h5
        · exact h5
        · rw [Array.getElem?_eq_none h5] at hh; cases hh
      · obtain ⟨b, o, he, _, hc⟩ := hI.2 (by omega)
        cases he
        have := hc k hk
        rwa [Nat.zero_add] at this
      · unfold World.frozen?
        simp [hh]

set_option maxHeartbeats 1000000 in
theorem twinInts_any (A : Option Addr) (n c : Nat) (zs : List Int) (w : World) (hz : Ints w A n zs) (hA : A = none → c = 0) (hn : n ≤ 1000000) :
    Calls Try.prog 10 #[.slice A n c] w (TwinPost zs n w) := by
  have HZ := Lib.hid hz
  have HA := Lib.hid hA
  clear hz hA
  go_enter Try.func10, Try.ntmps10
  go_wp2_with (at_builtin; refine (wpList_append_ints rfl _ _ rfl w.heap.size (.slice none 0 0) 0 [] rfl ⟨rfl, Or.inl ⟨rfl, rfl⟩⟩ A n c zs rfl HA.out HZ.out (by omega) (Nat.le_refl _) ?_); intro v' w' ho hb; rw [Nat.zero_add, List.nil_append] at ho; have HP := Lib.hid (twin_of_own hb ho); clear ho hb)
  go_ret
  exact HP.out

/-- .. of a list that is not empty. -/
def TwinGot (l : List Int) (n : Nat) (w : World) (e : Ending) (w' : World) : Prop :=
  Grew w w' ∧ ∃ g c, e = .returned (.slice (some ⟨g, 0, none⟩) n c) ∧ w.heap.size ≤ g ∧ RowI w' g n (fun k => l.getD k 0)
theorem twinInts_got (A : Option Addr) (n c : Nat) (zs : List Int) (w : World) (hz : Ints w A n zs) (hA : A = none → c = 0) (hn : n ≤ 1000000) (h0 : 0 < n) :
    Calls Try.prog 10 #[.slice A n c] w (TwinGot zs n w) :=
  (twinInts_any A n c zs w hz hA hn).mono fun e w' ⟨hg, A2, c2, he, h1, _, h3⟩ => by
    cases A2 with
    | none => have := (h1 rfl).1; omega
    | some a =>
      obtain ⟨g, rfl, k2, k3⟩ := h3 a rfl
      exact ⟨hg, g, c2, he, k2, k3⟩

set_option maxHeartbeats 1000000 in
theorem spoil_any (B n c : Nat) (d : Nat → Int) (w0 w : World) (hR : RowI w B n d) (hG : Grew w0 w) (hB : w0.heap.size ≤ B) (hn : n ≤ 1000000) :
    Calls Try.prog 14 #[.slice (some ⟨B, 0, none⟩) n c] w fun e w' => e = .returned (.tuple #[]) ∧ Grew w0 w' ∧ Turn B w w' := by
  have HR := Lib.hid hR
  have HG := Lib.hid hG
  clear hR hG
  go_enter Try.func14, Try.ntmps14
  go_wp2
  go_loopw [2] (fun vi wr => ∃ (k : Nat) (d : Nat → Int), vi = .int .i64 k ∧ k ≤ n ∧ Hid (RowI wr B n d) ∧ Hid (Grew w0 wr) ∧ Hid (Turn B w wr)) (fun vi _ => n - (intOf vi).toNat)
  case atStart => exact ⟨0, d, rfl, Nat.zero_le _, HR, HG, Turn.refl _ _⟩
  case round =>
    clear HR HG
    obtain ⟨k, d, rfl, hk, HR, HG, HT⟩ := hrel
    by_cases hlt : k < n
    · have a1 := (HR.out.2 k hlt).1
      have a2 := (HR.out.2 k hlt).2
      have a3 : (k : Int) < (n : Int) := by omega
      have HR2 := Lib.hid (HR.out.set k (-77))
      have HG2 : Hid (Grew w0 (wr.setCell ⟨B, k, none⟩ (.int .i64 (-77)))) := grew_set HG.out _ hB
      have HT2 : Hid (Turn B w (wr.setCell ⟨B, k, none⟩ (.int .i64 (-77)))) := HT.out.setCell _ _
      go_wp2
      go_roundw
      case rel => exact ⟨k + 1, _, by go_num, by omega, HR2, HG2, HT2⟩
      case measure => simp only [intOf]; omega
    · go_wp2
      go_end0
      exact ⟨rfl, HG.out, HT.out⟩
end Go.Proofs.Ytkkemmfghjgmeaa.NumK
