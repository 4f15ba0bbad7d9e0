/- Contracts of cambistkeep: Bytes, SpoilBytes, Twin; what the laws of stage 4 wake. -/
import Derived.Test.YtfhfgninjelfbaaPackD
import Derived.Deep.QuietTactic
import Derived.BigQuiet
namespace Go.Proofs.Ytfhfgninjelfbaa.NumK
open Go.RowKit

theorem takeB_eq_succ {xs ys : List UInt8} {k : Nat} (h1 : k < xs.length) (h2 : k < ys.length) (h : xs.take k = ys.take k) (he : xs.getD k 0 = ys.getD k 0) : xs.take (k + 1) = ys.take (k + 1) := by
  rw [List.take_succ_eq_append_getElem h1, List.take_succ_eq_append_getElem h2, h]
  simp only [List.getD, List.getElem?_eq_getElem h1, List.getElem?_eq_getElem h2, Option.getD_some] at he
  rw [he]

set_option maxHeartbeats 1000000 in
theorem keepBytes_any (A B : Option Addr) (n m c c2 : Nat) (xs ys : List UInt8) (w : World) (hx : Bys w A n xs) (hy : Bys w B m ys) (hn : n ≤ 9223372036854775807) (hm : m ≤ 9223372036854775807) :
    Calls Try.prog 15 #[.slice A n c, .slice B m c2] w fun e w' => e = .returned (.bool (decide (xs = ys))) ∧ Grew w w' := by
  have HX := Lib.hid hx
  have HY := Lib.hid hy
  clear hx hy
  by_cases hnm : n = m
  · subst hnm
    go_enter Try.func15, Try.ntmps15
    go_wp2
    go_loopw [5] (fun vi wr => ∃ k : Nat, vi = .int .i64 k ∧ k ≤ n ∧ Hid (xs.take k = ys.take k) ∧ Hid (Grew w wr)) (fun vi _ => n - (intOf vi).toNat)
    case atStart => exact ⟨0, rfl, Nat.zero_le _, rfl, grew_refl _⟩
    case round =>
      obtain ⟨k, rfl, hk, HE, HG⟩ := hrel
      by_cases hlt : k < n
      · obtain ⟨b, o, rfl, hb, hc⟩ := (HX.out.keep HG.out).2 (by omega)
        obtain ⟨b2, o2, rfl, hb2, hc2⟩ := (HY.out.keep HG.out).2 (by omega)
        have a1 := hc k hlt
        have a2 := hc2 k hlt
        have hl1 := HX.out.1
        have hl2 := HY.out.1
        have a3 : (k : Int) < (n : Int) := by omega
        have HN := Lib.hid (takeB_eq_succ (xs := xs) (ys := ys) (k := k) (by omega) (by omega) HE.out)
        have HF : Hid (xs.getD k 0 ≠ ys.getD k 0 → decide (xs = ys) = false) := fun h => decide_eq_false (fun e => h (by rw [e]))
        clear hc hc2 hl1 hl2
        generalize xs.getD k 0 = x at *
        generalize ys.getD k 0 = y at *
        by_cases hxy : x = y
        · subst hxy
          have HN2 := Lib.hid (HN.out rfl)
          clear HN HF
          generalize x.toNat = u at *
          go_wp2_with fail
          go_quiet (fail)
          have HG2 : Hid (Grew w (wr.drewN nq)) := grew_drewN HG.out _
          generalize wr.drewN nq = w2 at HG2 ⊢
          go_wp2
          go_roundw
          case rel => exact ⟨k + 1, by go_num, by omega, HN2, HG2⟩
          case measure => simp only [intOf]; omega
        · have HF2 := Lib.hid (HF.out hxy)
          have hu : x.toNat ≠ y.toNat := fun h => hxy (UInt8.toNat_inj.1 h)
          clear HN HF hxy
          generalize x.toNat = u at *
          generalize y.toNat = v at *
          have d1 : ((u : Int) != (v : Int)) = true := by simp; omega
          go_wp2_with fail
          go_quiet (fail)
          have HG2 : Hid (Grew w (wr.drewN nq)) := grew_drewN HG.out _
          generalize wr.drewN nq = w2 at HG2 ⊢
          go_wp2
          go_ret
          exact ⟨ret_b HF2.out.symm, HG2.out⟩
      · obtain rfl : k = n := by omega
        have hl1 := HX.out.1
        have hl2 := HY.out.1
        have HF : Hid (decide (xs = ys) = true) := decide_eq_true (by have := HE.out; rwa [List.take_of_length_le (by omega), List.take_of_length_le (by omega)] at this)
        clear hl1 hl2
        go_wp2
        go_ret
        exact ⟨ret_b HF.out.symm, HG.out⟩
  · have HF : Hid (decide (xs = ys) = false) := decide_eq_false (fun e => hnm (by rw [← HX.out.1, ← HY.out.1, e]))
    have d1 : ((n : Int) != (m : Int)) = true := by simp; omega
    go_enter Try.func15, Try.ntmps15
    go_wp2
    go_ret
    exact ⟨ret_b HF.out.symm, grew_refl _⟩

set_option maxHeartbeats 1000000 in
theorem spoilB_row (B n c : Nat) (w : World) (hR : WrB w B n) (hn : n ≤ 9223372036854775807) :
    Calls Try.prog 16 #[.slice (some ⟨B, 0, none⟩) n c] w fun e w' => e = .returned (.tuple #[]) ∧ Turn B w w' := by
  have HR := Lib.hid hR
  clear hR
  go_enter Try.func16, Try.ntmps16
  go_wp2
  go_loopw [2] (fun vi wr => ∃ (k : Nat), vi = .int .i64 k ∧ k ≤ n ∧ Hid (WrB wr B n) ∧ Hid (Turn B w wr)) (fun vi _ => n - (intOf vi).toNat)
  case atStart => exact ⟨0, rfl, Nat.zero_le _, HR, Turn.refl _ _⟩
  case round =>
    clear HR
    obtain ⟨k, rfl, hk, HR, HT⟩ := hrel
    by_cases hlt : k < n
    · obtain ⟨⟨x, a1⟩, a2⟩ := HR.out.2 k hlt
      have a3 : (k : Int) < (n : Int) := by omega
      have HR2 := Lib.hid (fun v => HR.out.set k v)
      have HT2 := Lib.hid (fun v => HT.out.setCell (blk := B) k v)
      go_wp2
      go_roundw
      case rel => exact ⟨k + 1, by go_num, by omega, HR2.out _, HT2.out _⟩
      case measure => simp only [intOf]; omega
    · go_wp2
      go_end0
      exact ⟨rfl, HT.out⟩
theorem spoilB_none (w : World) : Calls Try.prog 16 #[.slice none 0 0] w fun e w' => e = .returned (.tuple #[]) ∧ w = w' := by
  go_enter Try.func16, Try.ntmps16
  go_wp2
  go_loopw [2] (fun vi wr => vi = .int .i64 0 ∧ w = wr) (fun _ _ => 0)
  case atStart => exact ⟨rfl, rfl⟩
  case round =>
    obtain ⟨rfl, rfl⟩ := hrel
    go_wp2
    go_end0
    exact ⟨rfl, rfl⟩
/-- What is spoilt is new since w0: all that w0 had stays. -/
def SpoilPost (w0 : World) (A : Option Addr) (w : World) (e : Ending) (w' : World) : Prop := e = .returned (.tuple #[]) ∧ Grew w0 w' ∧ ∀ q, (∀ a, A = some a → a.block = q) → Turn q w w'
theorem spoilB_any (A : Option Addr) (n c : Nat) (w0 w : World) (h : FreshB w0 w A n c) (hG : Grew w0 w) (hn : n ≤ 9223372036854775807) :
    Calls Try.prog 16 #[.slice A n c] w (SpoilPost w0 A w) := by
  rcases h with ⟨rfl, rfl, rfl⟩ | ⟨B, rfl, h2, h3⟩
  · exact (spoilB_none w).mono fun e w' ⟨he, hw⟩ => ⟨he, hw ▸ hG, fun q _ => hw ▸ Turn.refl q w⟩
  · exact (spoilB_row B n c w h3 hn).mono fun e w' ⟨he, ht⟩ => ⟨he, Turn.new hG ht h2, fun q hq => by have := hq _ rfl; subst this; exact ht⟩

/-- The same bytes, in memory of the call's own. -/
def TwinBPost (l : List UInt8) (n : Nat) (w : World) (e : Ending) (w' : World) : Prop :=
  Grew w w' ∧ ∃ A c, e = .returned (.slice A n c) ∧ w'.ownsRow w.heap.size 5 1 (.slice A n c) n (l.map byv) ∧ Bys w' A n l ∧ (A = none → c = 0) ∧ FreshB w w' A n c
theorem twinB_of_own {w w' : World} {v : Value} {n : Nat} {l : List UInt8} (g : Grew w w') (h : w'.ownsRow w.heap.size 5 1 v n (l.map byv)) : TwinBPost l n w (.returned v) w' := by
  have h' := h
  obtain ⟨A, c, rfl, h1, h2, h3⟩ := bys_of_own h
  exact ⟨g, A, c, rfl, h', h1, h2, h3 w (Nat.le_refl _)⟩
set_option maxHeartbeats 1000000 in
theorem twinB_any (A : Option Addr) (n c : Nat) (l : List UInt8) (w : World) (hb : Bys w A n l) (hA : A = none → c = 0) (hn : n ≤ 140737488355328) :
    Calls Try.prog 17 #[.slice A n c] w (TwinBPost l n w) := by
  have HZ := Lib.hid hb
  have HA := Lib.hid hA
  clear hb hA
  go_enter Try.func17, Try.ntmps17
  go_wp2_with (at_builtin; refine (wpList_append_bytes rfl _ _ rfl w.heap.size (.slice none 0 0) 0 [] rfl (World.ownsRow_nil _ _ _ _) A n c l rfl HA.out HZ.out (by omega) (Nat.le_refl _) ?_); intro v' w' ho hb; rw [Nat.zero_add, List.nil_append] at ho; have HP := Lib.hid (twinB_of_own hb ho); clear ho hb)
  go_ret
  exact HP.out

/-! ### what the laws wake -/
theorem wake_bytes : encL [0, -1, 64] = [0, 1, 128, 1] := by
  have h0 : encI 0 = [0] := by unfold encI zig; rw [if_neg (by omega)]; exact vb_lo (by decide)
  have h1 : encI (-1) = [1] := by unfold encI zig; rw [if_pos (by omega)]; exact vb_lo (by decide)
  have h2 : encI 64 = [128, 1] := by unfold encI zig; rw [if_neg (by omega)]; rw [show (2 * 64 : Int).toNat = 128 from rfl, vb_hi (by decide), vb_lo (by decide)]; rfl
  rw [encL_cons, encL_cons, encL_cons, h0, h1, h2]; rfl
theorem bys4 (w : World) (a b c d : Int) (x y z u : UInt8) (t : TypeId) (h1 : a = x.toNat) (h2 : b = y.toNat) (h3 : c = z.toNat) (h4 : d = u.toNat) :
    Bys (w.alloc (.cells #[.int .u8 a, .int .u8 b, .int .u8 c, .int .u8 d] t)) (some ⟨w.heap.size, 0, none⟩) 4 [x, y, z, u] :=
  ⟨rfl, fun _ => ⟨_, _, rfl, by simp, fun j hj => by
    match j, hj with
    | 0, _ => simp [h1]
    | 1, _ => simp [h2]
    | 2, _ => simp [h3]
    | 3, _ => simp [h4]⟩⟩

theorem wakeBytes (q : Nat) (w : World) (h : WR w q (some [0, 1, 128, 1])) : Calls Try.prog 13 #[.pointer (some ⟨q, 0, none⟩)] w fun e w' => ∃ B, e = .returned (.tuple #[.slice (some ⟨B, 0, none⟩) 4 4, .int .i64 0]) ∧ Bys w' (some ⟨B, 0, none⟩) 4 [0, 1, 128, 1] ∧ Grew w w' :=
  (wBytes_any q _ w h (by simp [wLen])).mono fun e w' ⟨hg, B, _, he, hb, _⟩ => ⟨B, he, hb, hg⟩
theorem wakeSame (B N : Nat) (w : World) (h : Bys w (some ⟨B, 0, none⟩) 4 [0, 1, 128, 1]) (hN : w.heap.size = N) : Calls Try.prog 15 #[.slice (some ⟨B, 0, none⟩) 4 4, .slice (some ⟨N, 0, none⟩) 4 4] (w.alloc (.cells #[.int .u8 0, .int .u8 1, .int .u8 128, .int .u8 1] 5)) fun e w' => e = .returned (.bool true) ∧ Grew w w' := by
  subst hN
  exact (keepBytes_any _ _ 4 4 4 4 [0, 1, 128, 1] [0, 1, 128, 1] _ (h.keep (grew_alloc _ _ _)) (bys4 _ 0 1 128 1 0 1 128 1 _ rfl rfl rfl rfl) (by omega) (by omega)).mono fun e w' ⟨he, hg⟩ => ⟨he, grew_trans (grew_alloc _ _ _) hg⟩

set_option maxHeartbeats 1000000 in
theorem wakes04_any (w : World) : Calls Try.prog 14 #[] w fun e w' => e = .returned (.bool true) ∧ Grew w w' := by
  have CI : Hid (∀ W : World, W = (w.alloc (.cells #[.pointer none, .int .i64 0, .int .i64 0] 28)).alloc (.cells #[.int .i64 0, .int .i64 (-1), .int .i64 64] 3) → Calls Try.prog 28 #[.pointer (some ⟨w.heap.size, 0, none⟩), .slice (some ⟨w.heap.size + 1, 0, none⟩) 3 3] W (AddPost w.heap.size (some []) [0, 1, 128, 1] W)) := by
    intro W hW
    subst hW
    have := wInt_any w.heap.size (some []) (some ⟨w.heap.size + 1, 0, none⟩) 3 3 [0, -1, 64] _ ((WR.new w 28).keep (grew_alloc _ (#[.int .i64 0, .int .i64 (-1), .int .i64 64]) 3)) (ints3' _ 0 (-1) 64 3 (w.heap.size + 1) (by simp)) (by intro z hz; simp at hz; omega) (by simp [wLen]) (by omega)
    rwa [wake_bytes] at this
  go_enter Try.func14, Try.ntmps14
  go_wp2_with (first
    | (go_at_call 28; ((with_reducible refine (CI.out _ rfl).mono ?_); rintro e w1 ⟨rfl, hr, ht⟩; have HR := Lib.hid (show WR w1 w.heap.size (some [0, 1, 128, 1]) from hr); have HT := Lib.hid ht; clear hr ht CI))
    | (go_at_call 13; ((with_reducible refine (wakeBytes _ _ HR.out).mono ?_); rintro e w2 ⟨B, rfl, hb, hg⟩; have HG := Lib.hid hg; have HB := Lib.hid hb; clear hg hb))
    | (go_at_call 15; ((with_reducible refine (wakeSame _ _ _ HB.out rfl).mono ?_); rintro e w3 ⟨rfl, hg⟩; have HG3 := Lib.hid hg; clear hg)))
  go_ret
  exact ⟨rfl, grew_trans (Turn.new (grew_trans (grew_alloc _ _ _) (grew_alloc _ _ _)) HT.out (Nat.le_refl _)) (grew_trans HG.out HG3.out)⟩
end Go.Proofs.Ytfhfgninjelfbaa.NumK
