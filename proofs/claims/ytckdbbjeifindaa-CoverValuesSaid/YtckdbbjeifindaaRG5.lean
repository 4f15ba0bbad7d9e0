/- num.Sum (cut out of Num). -/
import Derived.Test.YtckdbbjeifindaaRG3
import Derived.Test.YtckdbbjeifindaaRG2
import Derived.Deep.QuietTactic
import Derived.BigQuiet
import Derived.Deep.DeepCutAuto
import Derived.Deep.Light
import Derived.BigRegion
import Derived.Deep.CutBlock
import Derived.Deep.Slices
import Derived.Deep.RegionLaw
import Derived.Maps.Own
import Derived.Maps.Views
import Derived.DeepKeys4
namespace Go.Proofs.Ytckdbbjeifindaa.NumK
open Go.RowKit

theorem money_any (n : Int) (w : World) :
    Calls Try.prog 64 #[.int .i64 n] w fun e w' => e = .returned (.tuple #[.int .i64 (capV n), .int .i64 (capE n)]) ∧ Grew w w' := by
  by_cases h : isMoney n = true
  · have hr : [n].all isMoney = true := by simp [h]
    have H := Lib.hid h
    have C := (right_any (some ⟨w.heap.size, 0, none⟩) 1 1 [n] _ (ints1 w n 3) (by omega))
    rw [hr] at C
    clear hr h
    go_enter Try.func64, Try.ntmps64
    go_wp2_with (go_at_call 63; refine C.mono ?_; rintro e w' ⟨rfl, rfl⟩)
    go_ret2
    exact ⟨ret2 (capV_in H.out).symm (capE_in H.out).symm, grew_alloc _ _ _⟩
  · simp only [Bool.not_eq_true] at h
    have hr : [n].all isMoney = false := by simp [h]
    have H := Lib.hid h
    have C := (right_any (some ⟨w.heap.size, 0, none⟩) 1 1 [n] _ (ints1 w n 3) (by omega))
    rw [hr] at C
    clear hr h
    go_enter Try.func64, Try.ntmps64
    go_wp2_with (go_at_call 63; refine C.mono ?_; rintro e w' ⟨rfl, rfl⟩)
    go_ret2
    exact ⟨ret2 (capV_out H.out).symm (capE_out H.out).symm, grew_alloc _ _ _⟩

/-! ### Sum -/
def up (zs : List Int) : Int := (zs.map (· / 2147483648)).sum
def lo (zs : List Int) : Int := (zs.map (· % 2147483648)).sum

theorem up_succ (zs : List Int) (k : Nat) (h : k < zs.length) : up (zs.take (k + 1)) = up (zs.take k) + zs.getD k 0 / 2147483648 := by
  unfold up
  rw [List.take_succ_eq_append_getElem h, List.map_append, List.sum_append]
  simp [List.getD, List.getElem?_eq_getElem h]
theorem lo_succ (zs : List Int) (k : Nat) (h : k < zs.length) : lo (zs.take (k + 1)) = lo (zs.take k) + zs.getD k 0 % 2147483648 := by
  unfold lo
  rw [List.take_succ_eq_append_getElem h, List.map_append, List.sum_append]
  simp [List.getD, List.getElem?_eq_getElem h]
theorem up_lo (zs : List Int) : up zs * 2147483648 + lo zs = zs.sum := by
  induction zs with
  | nil => rfl
  | cons z zs ih => simp only [up, lo, List.map_cons, List.sum_cons] at *; omega
theorem lo_bd (zs : List Int) : 0 ≤ lo zs ∧ lo zs ≤ zs.length * 2147483648 := by
  induction zs with
  | nil => simp [lo]
  | cons z zs ih => simp only [lo, List.map_cons, List.sum_cons, List.length_cons] at *; omega
theorem up_bd (zs : List Int) (h : zs.all isMoney = true) : -(zs.length * 2147483648) ≤ up zs ∧ up zs ≤ zs.length * 2147483648 := by
  induction zs with
  | nil => simp [up]
  | cons z zs ih =>
    simp only [List.all_cons, Bool.and_eq_true, isMoney_iff] at h
    have := ih h.2
    simp only [up, List.map_cons, List.sum_cons, List.length_cons] at *; omega

def sumV (zs : List Int) : Int := if zs.all isMoney then capV zs.sum else 0
def sumE (zs : List Int) : Int := if zs.all isMoney then capE zs.sum else 3
theorem sumV_in {zs : List Int} (h : zs.all isMoney = true) : sumV zs = capV zs.sum := by simp only [sumV, h, if_true]
theorem sumE_in {zs : List Int} (h : zs.all isMoney = true) : sumE zs = capE zs.sum := by simp only [sumE, h, if_true]
theorem sumV_out {zs : List Int} (h : zs.all isMoney = false) : sumV zs = 0 := by simp [sumV, h]
theorem sumE_out {zs : List Int} (h : zs.all isMoney = false) : sumE zs = 3 := by simp [sumE, h]

theorem sum_wrong (A : Option Addr) (n c : Nat) (zs : List Int) (w : World) (hz : Ints w A n zs) (hn : n ≤ 9223372036854775807) (h : zs.all isMoney = false) :
    Calls Try.prog 37 #[.slice A n c] w fun e w' => e = .returned (.tuple #[.int .i64 (sumV zs), .int .i64 (sumE zs)]) ∧ Grew w w' := by
  have C := right_any A n c zs w hz hn
  rw [h] at C
  have H := Lib.hid h
  clear h hz
  go_enter Try.func37, Try.ntmps37
  go_wp2_with (go_at_call 63; refine C.mono ?_; rintro e w' ⟨rfl, rfl⟩)
  go_ret2
  exact ⟨ret2 (sumV_out H.out).symm (sumE_out H.out).symm, grew_refl _⟩

set_option maxHeartbeats 1000000 in
theorem sum_right (A : Option Addr) (n c : Nat) (zs : List Int) (w : World) (hz : Ints w A n zs) (hn : n ≤ 1000000) (h : zs.all isMoney = true) :
    Calls Try.prog 37 #[.slice A n c] w fun e w' => e = .returned (.tuple #[.int .i64 (sumV zs), .int .i64 (sumE zs)]) ∧ Grew w w' := by
  have C := right_any A n c zs w hz (by omega)
  rw [h] at C
  have H := Lib.hid h
  have HZ : Hid (Ints w A n zs) := hz
  clear h hz
  go_enter Try.func37, Try.ntmps37
  go_wp2_with (go_at_call 63; refine C.mono ?_; rintro e w' ⟨rfl, rfl⟩)
  go_loop [4, 5, 13] (fun u l i => ∃ k : Nat, k ≤ n ∧ i = .int .i64 k ∧ u = .int .i64 (up (zs.take k)) ∧ l = .int .i64 (lo (zs.take k))) (fun _ _ i => n - (intOf i).toNat)
  case atStart => exact ⟨0, Nat.zero_le _, rfl, rfl, rfl⟩
  case round =>
    obtain ⟨k, hk, rfl, rfl, rfl⟩ := hrel
    have hlen := HZ.out.1
    have b1 := up_bd (zs.take k) (by rw [List.all_eq_true]; intro x hx; exact (List.all_eq_true.1 H.out) x (List.mem_of_mem_take hx))
    have b2 := lo_bd (zs.take k)
    have hlk : (zs.take k).length = k := by simp; omega
    rw [hlk] at b1 b2
    by_cases hlt : k < n
    · obtain ⟨b, o, rfl, _, hc⟩ := HZ.out.2 (by omega)
      have hcell := hc k hlt
      have hu := up_succ zs k (by omega)
      have hl := lo_succ zs k (by omega)
      have hm : isMoney (zs.getD k 0) = true := (List.all_eq_true.1 H.out) _ (by rw [List.getD_eq_getElem?_getD, List.getElem?_eq_getElem (by omega)]; exact List.getElem_mem _)
      rw [isMoney_iff] at hm
      obtain ⟨hm1, hm2⟩ := hm
      obtain ⟨b3, b4⟩ := b1
      obtain ⟨b5, b6⟩ := b2
      generalize zs.getD k 0 = y at *
      generalize up (zs.take k) = U at *
      generalize lo (zs.take k) = L at *
      have HU := Lib.hid hu
      have HL := Lib.hid hl
      have k31 := mask31 y
      clear hu hl hc hlen hlk
      go_wp2
      go_round
      case rel => exact ⟨k + 1, by omega, by go_num, by rw [HU.out], by rw [HL.out]⟩
      case measure => simp [intOf]; omega
    · have : k = n := by omega
      subst this
      have ht : zs.take k = zs := List.take_of_length_le (by omega)
      rw [ht] at b1 b2 ⊢
      have hs := up_lo zs
      have HS : Hid (zs.sum = (up zs + lo zs / 2147483648) * 2147483648 + lo zs % 2147483648) := by show zs.sum = _; omega
      clear hs ht hlk hlen hlt
      have e1 : sumV zs = capV zs.sum := sumV_in H.out
      have e2 : sumE zs = capE zs.sum := sumE_in H.out
      have E1 := Lib.hid e1
      have E2 := Lib.hid e2
      clear e1 e2
      generalize up zs = U at *
      generalize lo zs = L at *
      obtain ⟨b3, b4⟩ := b1
      obtain ⟨b5, b6⟩ := b2
      have m31 := mask31 L
      have q0 : 0 ≤ L / 2147483648 := by omega
      have q1 : L / 2147483648 ≤ 1000000 := by omega
      have r0 : 0 ≤ L % 2147483648 := by omega
      have r1 : L % 2147483648 < 2147483648 := by omega
      by_cases c1 : U + L / 2147483648 < -2147483648
      · have hf : isMoney zs.sum = false := by rw [← Bool.not_eq_true, isMoney_iff]; have := HS.out; omega
        have HF := Lib.hid hf
        clear hf
        go_wp2
        go_ret2
        exact ⟨ret2 (E1.out.trans (capV_out HF.out)).symm (E2.out.trans (capE_out HF.out)).symm, grew_refl _⟩
      · by_cases c2 : 2147483648 < U + L / 2147483648
        · have hf : isMoney zs.sum = false := by rw [← Bool.not_eq_true, isMoney_iff]; have := HS.out; omega
          have HF := Lib.hid hf
          clear hf
          go_wp2
          go_ret2
          exact ⟨ret2 (E1.out.trans (capV_out HF.out)).symm (E2.out.trans (capE_out HF.out)).symm, grew_refl _⟩
        · go_wp2_with (go_at_call 64; refine (money_any _ _).mono ?_; rintro e w' ⟨rfl, hg⟩)
          go_ret2
          have hs := HS.out
          exact ⟨ret2 (by rw [E1.out, hs]) (by rw [E2.out, hs]), hg⟩

theorem sum_any (A : Option Addr) (n c : Nat) (zs : List Int) (w : World) (hz : Ints w A n zs) (hn : n ≤ 1000000) :
    Calls Try.prog 37 #[.slice A n c] w fun e w' => e = .returned (.tuple #[.int .i64 (sumV zs), .int .i64 (sumE zs)]) ∧ Grew w w' := by
  by_cases h : zs.all isMoney = true
  · exact sum_right A n c zs w hz hn h
  · exact sum_wrong A n c zs w hz (by omega) (by simpa using h)

end Go.Proofs.Ytckdbbjeifindaa.NumK
namespace Go.Proofs.Ytckdbbjeifindaa.NumK
open Go.RowKit

/-- Kind, Who, Cur. -/
abbrev Ac := Int × Int × Int
def acV (k m c : Int) : Value := .agg #[.int .i64 k, .int .i64 m, .int .i64 c]
def enAc : En Ac := ⟨3, fun a => [.int .i64 a.1, .int .i64 a.2.1, .int .i64 a.2.2], fun _ => rfl, fun a v hv => by
  simp at hv; rcases hv with rfl | rfl | rfl <;> rfl, by decide⟩

def ownedK (k : Int) : Bool := decide (k = 2) || decide (k = 3)
def rightA (k m c : Int) : Bool := decide (1 ≤ k ∧ k ≤ 6) && decide (0 ≤ c ∧ c < 3) && (if ownedK k then decide (1 ≤ m ∧ m ≤ 16) else decide (m = 0))

def sameA (k m c k' m' c' : Int) : Bool := decide (k = k') && decide (m = m') && decide (c = c')

theorem owned_any (k : Int) (w : World) : Calls Try.prog 78 #[.int .i64 k] w fun e w' => e = .returned (.bool (ownedK k)) ∧ w = w' := by
  go_enter Try.func78, Try.ntmps78
  go_wp2
  all_goals go_ret
  all_goals exact ⟨ret_b (by rw [Bool.eq_iff_iff]; simp_all [ownedK]), rfl⟩

theorem whos_any (k : Int) (w : World) : Calls Try.prog 77 #[.int .i64 k] w fun e w' => e = .returned (.tuple #[.int .i64 (if ownedK k then 1 else 0), .int .i64 (if ownedK k then 16 else 0)]) ∧ w = w' := by
  have C := owned_any k
  generalize ownedK k = b at *
  go_enter Try.func77, Try.ntmps77
  go_wp2_with (go_at_call 78; ((with_reducible refine (C _).mono ?_); rintro e w' ⟨rfl, rfl⟩))
  all_goals go_ret2
  all_goals exact ⟨by simp_all, rfl⟩

theorem aright_any (k m c : Int) (w : World) : Calls Try.prog 71 #[acV k m c] w fun e w' => e = .returned (.bool (rightA k m c)) ∧ Grew w w' := by
  have C := whos_any k
  unfold acV
  go_enter Try.func71, Try.ntmps71
  go_wp2_with (go_at_call 77; ((with_reducible refine (C _).mono ?_); rintro e w' ⟨rfl, rfl⟩))
  all_goals go_ret
  all_goals exact ⟨ret_b (by clear C; rw [Bool.eq_iff_iff]; simp_all [rightA] <;> omega), grew_alloc _ _ _⟩

end Go.Proofs.Ytckdbbjeifindaa.NumK
namespace Go.Proofs.Ytckdbbjeifindaa.NumK
open Go.RowKit

def whoAcs (k m : Int) : List Ac := [(k, m, 0), (k, m, 1), (k, m, 2)]
/-- n members' accounts from the first on. -/
def whosAcs (k f : Int) (n : Nat) : List Ac := (List.range n).flatMap fun i : Nat => whoAcs k (f + i)
def kindL (k : Int) : List Ac := if ownedK k then whosAcs k 1 16 else whosAcs k 0 1
def allTo (kinds : List Int) (n : Nat) : List Ac := (List.range n).flatMap fun i : Nat => if kinds.contains ((i : Int) + 1) then kindL ((i : Int) + 1) else []
def allL (kinds : List Int) : List Ac := allTo kinds 6

theorem sameA_iff (a b : Ac) : sameA a.1 a.2.1 a.2.2 b.1 b.2.1 b.2.2 = decide (a = b) := by
  rw [Bool.eq_iff_iff]
  simp [sameA, Prod.ext_iff, and_assoc]

theorem take_snoc {α : Type} (l : List α) (k : Nat) (d : α) (h : k < l.length) : l.take (k + 1) = l.take k ++ [l.getD k d] := by
  rw [List.take_succ_eq_append_getElem h]; simp [List.getD, h]

def allK : List Ac := allL [1, 2, 3, 4, 5, 6]

theorem allK_right : ∀ a ∈ allK, rightA a.1 a.2.1 a.2.2 = true := by decide +kernel

theorem mem_fin : ∀ k : Fin 7, ∀ m : Fin 17, ∀ c : Fin 3, rightA (k.val : Int) (m.val : Int) (c.val : Int) = true → ((k.val : Int), (m.val : Int), (c.val : Int)) ∈ allK := by decide +kernel
theorem mem_allK (a : Ac) (h : rightA a.1 a.2.1 a.2.2 = true) : a ∈ allK := by
  obtain ⟨k, m, c⟩ := a
  have hb : (0 ≤ k ∧ k < 7) ∧ (0 ≤ m ∧ m < 17) ∧ (0 ≤ c ∧ c < 3) := by
    simp only [rightA, Bool.and_eq_true, decide_eq_true_eq] at h
    obtain ⟨⟨h1, h2⟩, h3⟩ := h
    split at h3 <;> simp at h3 <;> omega
  obtain ⟨⟨k0, k1⟩, ⟨m0, m1⟩, c0, c1⟩ := hb
  obtain ⟨k, rfl⟩ := Int.eq_ofNat_of_zero_le k0
  obtain ⟨m, rfl⟩ := Int.eq_ofNat_of_zero_le m0
  obtain ⟨c, rfl⟩ := Int.eq_ofNat_of_zero_le c0
  exact mem_fin ⟨k, by omega⟩ ⟨m, by omega⟩ ⟨c, by omega⟩ h

theorem allK_len : allK.length = 108 := by decide +kernel
end Go.Proofs.Ytckdbbjeifindaa.NumK
namespace Go.Proofs.Ytckdbbjeifindaa.NumK
open Go.RowKit

/-- The account, the amount. -/
abbrev Lg := Ac × Int
def legV (k m c n : Int) : Value := .agg #[.int .i64 k, .int .i64 m, .int .i64 c, .int .i64 n]
def enLg : En Lg := ⟨4, fun l => [.int .i64 l.1.1, .int .i64 l.1.2.1, .int .i64 l.1.2.2, .int .i64 l.2], fun _ => rfl, fun a v hv => by
  simp at hv; rcases hv with rfl | rfl | rfl | rfl <;> rfl, by decide⟩
abbrev lg0 : Lg := ((0, 0, 0), 0)
/-- A leg of a row, cell by cell. -/
theorem RowE.lg {w : World} {n : Nat} {l : List Lg} {A : Option Addr} (h : RowE enLg w A n l) {j : Nat} (hj : j < n) :
    ∃ b o, A = some ⟨b, o, none⟩ ∧ b < w.heap.size ∧ w.cell? ⟨b, o + j * 4, none⟩ = some (.int .i64 (l.getD j lg0).1.1) ∧ w.cell? ⟨b, o + j * 4 + 1, none⟩ = some (.int .i64 (l.getD j lg0).1.2.1)
      ∧ w.cell? ⟨b, o + j * 4 + 2, none⟩ = some (.int .i64 (l.getD j lg0).1.2.2) ∧ w.cell? ⟨b, o + j * 4 + 3, none⟩ = some (.int .i64 (l.getD j lg0).2) := by
  have hl := h.len
  obtain ⟨b, o, e, hb, hc⟩ := h.at (by omega)
  have hj' : j < l.length := by omega
  have e1 : l.getD j lg0 = l[j] := by simp [List.getD, hj']
  rw [e1]
  exact ⟨b, o, e, hb, hc j hj' 0 (by decide), hc j hj' 1 (by decide), hc j hj' 2 (by decide), hc j hj' 3 (by decide)⟩

def okL (x : Lg) : Bool := rightA x.1.1 x.1.2.1 x.1.2.2 && isMoney x.2
def mayL (l : List Lg) : Bool := l.all okL
end Go.Proofs.Ytckdbbjeifindaa.NumK
namespace Go.Proofs.Ytckdbbjeifindaa.NumK
open Go.RowKit Go.ChangeShapes Go.WideShapes

abbrev spAcct : Sp Ac := spPair (spInt .i64) (spPair (spInt .i64) (spInt .i64))
theorem opens_acct : Opens Try.prog 84 spAcct :=
  opens_struct Try.underlying84 (by kernel_rfl)
    (Fs.cons _ _ 0 rfl (opens_int Try.underlying3 (by kernel_rfl)) (Fs.cons _ _ 1 rfl (opens_int Try.underlying3 (by kernel_rfl)) (Fs.last _ 2 rfl (opens_int Try.underlying3 (by kernel_rfl)))))
end Go.Proofs.Ytckdbbjeifindaa.NumK
namespace Go.Proofs.Ytckdbbjeifindaa.NumK
open Go.RowKit

end Go.Proofs.Ytckdbbjeifindaa.NumK
namespace Go.Proofs.Ytckdbbjeifindaa.NumK
open Go.RowKit

end Go.Proofs.Ytckdbbjeifindaa.NumK
namespace Go.Proofs.Ytckdbbjeifindaa.NumK
open Go.RowKit

end Go.Proofs.Ytckdbbjeifindaa.NumK
namespace Go.Proofs.Ytckdbbjeifindaa.NumK
open Go.RowKit

end Go.Proofs.Ytckdbbjeifindaa.NumK
namespace Go.Proofs.Ytckdbbjeifindaa.NumK
open Go.RowKit

structure Own2 (w : World) (b : Nat) (v0 v1 : Value) : Prop where
  c0 : w.cell? ⟨b, 0, none⟩ = some v0
  c1 : w.cell? ⟨b, 1, none⟩ = some v1
  f0 : w.frozen? ⟨b, 0, none⟩ = false
  f1 : w.frozen? ⟨b, 1, none⟩ = false
  lt : b < w.heap.size

theorem Own2.keep {w w' : World} {b : Nat} {v0 v1 : Value} (h : Own2 w b v0 v1) (g : Grew w w') : Own2 w' b v0 v1 :=
  ⟨(grew_cell g (p := ⟨b, 0, none⟩) h.lt).trans h.c0, (grew_cell g (p := ⟨b, 1, none⟩) h.lt).trans h.c1, (Below.frozen g (p := ⟨b, 0, none⟩) h.lt).trans h.f0, (Below.frozen g (p := ⟨b, 1, none⟩) h.lt).trans h.f1, Nat.lt_of_lt_of_le h.lt g.size⟩
theorem Own2.new (w : World) (v0 v1 : Value) (t : TypeId) (N : Nat) (hN : w.heap.size = N) : Own2 (w.alloc (.cells #[v0, v1] t)) N v0 v1 := by
  subst hN
  exact ⟨by simp, by simp, by simp, by simp, by simp⟩
theorem Own2.set {w : World} {b : Nat} {v0 v1 : Value} (h : Own2 w b v0 v1) (u0 u1 : Value) : Own2 ((w.setCell ⟨b, 0, none⟩ u0).setCell ⟨b, 1, none⟩ u1) b u0 u1 := by
  have k1 : (w.setCell ⟨b, 0, none⟩ u0).cell? ⟨b, 1, none⟩ = some v1 := (World.cell?_setCell_other _ _ _ _ (by intro e; simp at e)).trans h.c1
  refine ⟨?_, World.cell?_setCell_same _ _ _ k1, by rw [World.frozen?_setCell, World.frozen?_setCell]; exact h.f0, by rw [World.frozen?_setCell, World.frozen?_setCell]; exact h.f1, by simp [World.setCell]; exact h.lt⟩
  rw [World.cell?_setCell_other _ _ _ _ (by intro e; simp at e)]
  exact World.cell?_setCell_same _ _ _ h.c0
theorem Own2.other {w : World} {b : Nat} {v0 v1 : Value} (h : Own2 w b v0 v1) (p : Addr) (u : Value) (hp : p.block ≠ b) : Own2 (w.setCell p u) b v0 v1 :=
  ⟨(World.cell?_setCell_other _ _ _ _ (by intro e; apply hp; rw [e])).trans h.c0, (World.cell?_setCell_other _ _ _ _ (by intro e; apply hp; rw [e])).trans h.c1, by rw [World.frozen?_setCell]; exact h.f0, by rw [World.frozen?_setCell]; exact h.f1, by simp [World.setCell]; exact h.lt⟩
end Go.Proofs.Ytckdbbjeifindaa.NumK
namespace Go.Proofs.Ytckdbbjeifindaa.NumK
open Go.RowKit

/-- What stands on an account. -/
def sumA (l : List Lg) (a : Ac) : Int := ((l.filter fun x => decide (x.1 = a)).map (·.2)).sum
def ac0 : Ac := (0, 0, 0)
def joinF (f : Ac → Int) (k : Nat) : List Lg := (allK.take k).filterMap fun a => if f a = 0 then none else some (a, f a)
def joinE (l : List Lg) : Int := if mayL l then (if allK.all (fun a => isMoney (sumA l a)) then 0 else 1) else 3
def joinL (l : List Lg) : List Lg := if joinE l = 0 then joinF (sumA l) 108 else []

theorem sumA_nil (a : Ac) : sumA [] a = 0 := rfl
theorem sumA_append (l m : List Lg) (a : Ac) : sumA (l ++ m) a = sumA l a + sumA m a := by
  unfold sumA
  rw [List.filter_append, List.map_append, List.sum_append]
theorem sumA_one (x : Lg) (a : Ac) : sumA [x] a = if x.1 = a then x.2 else 0 := by
  unfold sumA
  by_cases h : x.1 = a
  · simp [h]
  · simp [h]
theorem sumA_cons (x : Lg) (l : List Lg) (a : Ac) : sumA (x :: l) a = (if x.1 = a then x.2 else 0) + sumA l a := by
  rw [show x :: l = [x] ++ l from rfl, sumA_append, sumA_one]
theorem okL_parts {x : Lg} (h : okL x = true) : rightA x.1.1 x.1.2.1 x.1.2.2 = true ∧ -4611686018427387904 ≤ x.2 ∧ x.2 ≤ 4611686018427387904 := by
  unfold okL at h
  simp only [Bool.and_eq_true] at h
  exact ⟨h.1, (isMoney_iff _).1 h.2⟩
theorem may_cons {x : Lg} {l : List Lg} : mayL (x :: l) = true ↔ okL x = true ∧ mayL l = true := by
  unfold mayL; simp
end Go.Proofs.Ytckdbbjeifindaa.NumK
namespace Go.Proofs.Ytckdbbjeifindaa.NumK
open Go.RowKit Go.Maps

def inInt (n : Int) : Prop := -9223372036854775808 ≤ n ∧ n ≤ 9223372036854775807
def inAc (a : Ac) : Prop := inInt a.1 ∧ inInt a.2.1 ∧ inInt a.2.2
def readW (v : Value) : Option (DataW Unit × List MemPlace) :=
  match v with
  | .agg cs => match cs.toList with
    | [.int .i64 a, .int .u64 b] => some (.agg [.lit (.int .i64 a), .lit (.int .u64 b)], [])
    | _ => none
  | _ => none
def wD (s : Int) : DataW Unit := .agg [.lit (.int .i64 (hi64 s)), .lit (.int .u64 (lo64 s))]
/-- A block is a map of at most n entries that holds at each account what g says. -/
def MapS (w : World) (b n : Nat) (g : Ac → Int) : Prop :=
  ∃ D : DataW Unit, w.ownsMap Try.prog 84 readW b n D ∧ IsMap D ∧ ∀ a, inAc a → ∀ kl, keyOf Try.prog 84 (acV a.1 a.2.1 a.2.2) = some kl → D.atKey kl (wD 0) = wD (g a)

theorem MapS.keep {w w' : World} {b n : Nat} {g : Ac → Int} (h : MapS w b n g) (hg : Grew w w') : MapS w' b n g := by
  obtain ⟨D, h1, h2, h3⟩ := h
  refine ⟨D, ?_, h2, h3⟩
  have hlt := h1.lt
  obtain ⟨es, clock, hb, F, hs, hD⟩ := h1
  exact ⟨es, clock, (hg.block b hlt).trans hb, F, hs, hD⟩
theorem MapS.lt {w : World} {b n : Nat} {g : Ac → Int} (h : MapS w b n g) : b < w.heap.size := by
  obtain ⟨D, h1, _⟩ := h
  exact h1.lt
theorem MapS.new (w : World) : MapS (w.alloc (.map #[] 0)) w.heap.size 0 (fun _ => 0) := by
  refine ⟨.map [], World.ownsMap_made _ _ _ _, isMap_empty, fun a _ kl _ => ?_⟩
  simp [DataW.atKey]
theorem MapS.congr {w : World} {b n : Nat} {g g' : Ac → Int} (h : MapS w b n g) (e : ∀ a, g a = g' a) : MapS w b n g' := by
  have : g = g' := funext e
  exact this ▸ h

end Go.Proofs.Ytckdbbjeifindaa.NumK
