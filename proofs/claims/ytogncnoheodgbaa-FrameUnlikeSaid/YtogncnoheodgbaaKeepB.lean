/- Contracts of cambistkeep: Bytes, SpoilBytes, Twin. -/
import Derived.Test.YtogncnoheodgbaaBytes
import Derived.Deep.QuietTactic
import Derived.BigQuiet
namespace Go.Proofs.Ytogncnoheodgbaa.NumK
open Go.RowKit

theorem takeB_eq_succ {xs ys : List UInt8} {k : Nat} (h1 : k < xs.length) (h2 : k < ys.length) (h : xs.take k = ys.take k) (he : xs.getD k 0 = ys.getD k 0) : xs.take (k + 1) = ys.take (k + 1) := by
  rw [List.take_succ_eq_append_getElem h1, List.take_succ_eq_append_getElem h2, h]
  simp only [List.getD, List.getElem?_eq_getElem h1, List.getElem?_eq_getElem h2, Option.getD_some] at he
  rw [he]

set_option maxHeartbeats 1000000 in
theorem keepBytes_any (A B : Option Addr) (n m c c2 : Nat) (xs ys : List UInt8) (w : World) (hx : Bys w A n xs) (hy : Bys w B m ys) (hn : n ≤ 9223372036854775807) (hm : m ≤ 9223372036854775807) :
    Calls Try.prog 16 #[.slice A n c, .slice B m c2] w fun e w' => e = .returned (.bool (decide (xs = ys))) ∧ Grew w w' := by
  have HX := Lib.hid hx
  have HY := Lib.hid hy
  clear hx hy
  by_cases hnm : n = m
  · subst hnm
    go_enter Try.func16, Try.ntmps16
    go_wp2
    go_loopw [5] (fun vi wr => ∃ k : Nat, vi = .int .i64 k ∧ k ≤ n ∧ Hid (xs.take k = ys.take k) ∧ Hid (Grew w wr)) (fun vi _ => n - (intOf vi).toNat)
    case atStart => exact ⟨0, rfl, Nat.zero_le _, rfl, grew_refl _⟩
    case round =>
      obtain ⟨k, rfl, hk, HE, HG⟩ := hrel
      by_cases hlt : k < n
      · obtain ⟨b, o, rfl, hb, hc⟩ := (HX.out.keep HG.out).2 (by omega)
        obtain ⟨b2, o2, rfl, hb2, hc2⟩ := (HY.out.keep HG.out).2 (by omega)
        have a1 := hc k hlt
        have a2 := hc2 k hlt
        have hl1 := HX.out.1
        have hl2 := HY.out.1
        have a3 : (k : Int) < (n : Int) := by omega
        have HN := Lib.hid (takeB_eq_succ (xs := xs) (ys := ys) (k := k) (by omega) (by omega) HE.out)
        have HF : Hid (xs.getD k 0 ≠ ys.getD k 0 → decide (xs = ys) = false) := fun h => decide_eq_false (fun e => h (by rw [e]))
        clear hc hc2 hl1 hl2
        generalize xs.getD k 0 = x at *
        generalize ys.getD k 0 = y at *
        by_cases hxy : x = y
        · subst hxy
          have HN2 := Lib.hid (HN.out rfl)
          clear HN HF
          generalize x.toNat = u at *
          go_wp2_with fail
          go_quiet (fail)
          have HG2 : Hid (Grew w (wr.drewN nq)) := grew_drewN HG.out _
          generalize wr.drewN nq = w2 at HG2 ⊢
          go_wp2
          go_roundw
          case rel => exact ⟨k + 1, by go_num, by omega, HN2, HG2⟩
          case measure => simp only [intOf]; omega
        · have HF2 := Lib.hid (HF.out hxy)
          have hu : x.toNat ≠ y.toNat := fun h => hxy (UInt8.toNat_inj.1 h)
          clear HN HF hxy
          generalize x.toNat = u at *
          generalize y.toNat = v at *
          have d1 : ((u : Int) != (v : Int)) = true := by simp; omega
          go_wp2_with fail
          go_quiet (fail)
          have HG2 : Hid (Grew w (wr.drewN nq)) := grew_drewN HG.out _
          generalize wr.drewN nq = w2 at HG2 ⊢
          go_wp2
          go_ret
          exact ⟨ret_b HF2.out.symm, HG2.out⟩
      · obtain rfl : k = n := by omega
        have hl1 := HX.out.1
        have hl2 := HY.out.1
        have HF : Hid (decide (xs = ys) = true) := decide_eq_true (by have := HE.out; rwa [List.take_of_length_le (by omega), List.take_of_length_le (by omega)] at this)
        clear hl1 hl2
        go_wp2
        go_ret
        exact ⟨ret_b HF.out.symm, HG.out⟩
  · have HF : Hid (decide (xs = ys) = false) := decide_eq_false (fun e => hnm (by rw [← HX.out.1, ← HY.out.1, e]))
    have d1 : ((n : Int) != (m : Int)) = true := by simp; omega
    go_enter Try.func16, Try.ntmps16
    go_wp2
    go_ret
    exact ⟨ret_b HF.out.symm, grew_refl _⟩

set_option maxHeartbeats 1000000 in
theorem spoilB_row (B n c : Nat) (w : World) (hR : WrB w B n) (hn : n ≤ 9223372036854775807) :
    Calls Try.prog 20 #[.slice (some ⟨B, 0, none⟩) n c] w fun e w' => e = .returned (.tuple #[]) ∧ Turn B w w' := by
  have HR := Lib.hid hR
  clear hR
  go_enter Try.func20, Try.ntmps20
  go_wp2
  go_loopw [2] (fun vi wr => ∃ (k : Nat), vi = .int .i64 k ∧ k ≤ n ∧ Hid (WrB wr B n) ∧ Hid (Turn B w wr)) (fun vi _ => n - (intOf vi).toNat)
  case atStart => exact ⟨0, rfl, Nat.zero_le _, HR, Turn.refl _ _⟩
  case round =>
    clear HR
    obtain ⟨k, rfl, hk, HR, HT⟩ := hrel
    by_cases hlt : k < n
    · obtain ⟨⟨x, a1⟩, a2⟩ := HR.out.2 k hlt
      have a3 : (k : Int) < (n : Int) := by omega
      have HR2 := Lib.hid (fun v => HR.out.set k v)
      have HT2 := Lib.hid (fun v => HT.out.setCell (blk := B) k v)
      go_wp2
      go_roundw
      case rel => exact ⟨k + 1, by go_num, by omega, HR2.out _, HT2.out _⟩
      case measure => simp only [intOf]; omega
    · go_wp2
      go_end0
      exact ⟨rfl, HT.out⟩
theorem spoilB_none (w : World) : Calls Try.prog 20 #[.slice none 0 0] w fun e w' => e = .returned (.tuple #[]) ∧ w = w' := by
  go_enter Try.func20, Try.ntmps20
  go_wp2
  go_loopw [2] (fun vi wr => vi = .int .i64 0 ∧ w = wr) (fun _ _ => 0)
  case atStart => exact ⟨rfl, rfl⟩
  case round =>
    obtain ⟨rfl, rfl⟩ := hrel
    go_wp2
    go_end0
    exact ⟨rfl, rfl⟩
/-- What is spoilt is new since w0: all that w0 had stays. -/
def SpoilPost (w0 : World) (A : Option Addr) (w : World) (e : Ending) (w' : World) : Prop := e = .returned (.tuple #[]) ∧ Grew w0 w' ∧ ∀ q, (∀ a, A = some a → a.block = q) → Turn q w w'
theorem spoilB_any (A : Option Addr) (n c : Nat) (w0 w : World) (h : FreshB w0 w A n c) (hG : Grew w0 w) (hn : n ≤ 9223372036854775807) :
    Calls Try.prog 20 #[.slice A n c] w (SpoilPost w0 A w) := by
  rcases h with ⟨rfl, rfl, rfl⟩ | ⟨B, rfl, h2, h3⟩
  · exact (spoilB_none w).mono fun e w' ⟨he, hw⟩ => ⟨he, hw ▸ hG, fun q _ => hw ▸ Turn.refl q w⟩
  · exact (spoilB_row B n c w h3 hn).mono fun e w' ⟨he, ht⟩ => ⟨he, Turn.new hG ht h2, fun q hq => by have := hq _ rfl; subst this; exact ht⟩

/-- The same bytes, in memory of the call's own. -/
def TwinBPost (l : List UInt8) (n : Nat) (w : World) (e : Ending) (w' : World) : Prop :=
  Grew w w' ∧ ∃ A c, e = .returned (.slice A n c) ∧ w'.ownsRow w.heap.size 5 1 (.slice A n c) n (l.map byv) ∧ Bys w' A n l ∧ (A = none → c = 0) ∧ FreshB w w' A n c
theorem twinB_of_own {w w' : World} {v : Value} {n : Nat} {l : List UInt8} (g : Grew w w') (h : w'.ownsRow w.heap.size 5 1 v n (l.map byv)) : TwinBPost l n w (.returned v) w' := by
  have h' := h
  obtain ⟨A, c, rfl, h1, h2, h3⟩ := bys_of_own h
  exact ⟨g, A, c, rfl, h', h1, h2, h3 w (Nat.le_refl _)⟩
set_option maxHeartbeats 1000000 in
theorem twinB_any (A : Option Addr) (n c : Nat) (l : List UInt8) (w : World) (hb : Bys w A n l) (hA : A = none → c = 0) (hn : n ≤ 140737488355328) :
    Calls Try.prog 13 #[.slice A n c] w (TwinBPost l n w) := by
  have HZ := Lib.hid hb
  have HA := Lib.hid hA
  clear hb hA
  go_enter Try.func13, Try.ntmps13
  go_wp2_with (at_builtin; refine (wpList_append_bytes rfl _ _ rfl w.heap.size (.slice none 0 0) 0 [] rfl (World.ownsRow_nil _ _ _ _) A n c l rfl HA.out HZ.out (by omega) (Nat.le_refl _) ?_); intro v' w' ho hb; rw [Nat.zero_add, List.nil_append] at ho; have HP := Lib.hid (twinB_of_own hb ho); clear ho hb)
  go_ret
  exact HP.out

theorem spoil_turn {w0 w w' : World} {e : Ending} {A : Option Addr} {n c : Nat} (hf : FreshB w0 w A n c) (hs : SpoilPost w0 A w e w') (p q : Nat) (h1 : ∀ a, A = some a → a.block ≠ p) (h2 : ∀ a, A = some a → a.block ≠ q) :
    ∃ b, b ≠ p ∧ b ≠ q ∧ w0.heap.size ≤ b ∧ Turn b w w' := by
  cases A with
  | none => exact ⟨w0.heap.size + p + q + 1, by omega, by omega, by omega, hs.2.2 _ (fun a h => by cases h)⟩
  | some a => exact ⟨a.block, h1 a rfl, h2 a rfl, hf.ge a rfl, hs.2.2 _ (fun x h => by cases h; rfl)⟩
end Go.Proofs.Ytogncnoheodgbaa.NumK
