/- frame: agrees. -/
import Derived.Test.YtogncnoheodgbaaFrameD
import Derived.StillTailTactics
import Derived.Deep.CutBlock
namespace Go.Proofs.Ytogncnoheodgbaa.NumK
open Go.RowKit

theorem rows1 {w : World} {A1 : Option Addr} {n1 c1 : Nat} {l1 : List UInt8} (t : TypeId) (h1 : Bys w A1 n1 l1) (a1 : A1 = none → c1 = 0) (b1 : n1 ≤ c1) (d1 : n1 ≤ 9223372036854775807) :
    RowsB (w.alloc (.cells #[.slice A1 n1 c1] t)) (some ⟨w.heap.size, 0, none⟩) 1 [l1] :=
  ⟨rfl, fun _ => ⟨_, _, rfl, by simp, fun j hj => by
    match j, hj with
    | 0, _ => exact ⟨A1, n1, c1, by simp, h1.keep (grew_alloc _ _ _), a1, b1, d1⟩⟩⟩
theorem rows2 {w : World} {A1 A2 : Option Addr} {n1 c1 n2 c2 : Nat} {l1 l2 : List UInt8} (t : TypeId) (h1 : Bys w A1 n1 l1) (a1 : A1 = none → c1 = 0) (b1 : n1 ≤ c1) (d1 : n1 ≤ 9223372036854775807)
    (h2 : Bys w A2 n2 l2) (a2 : A2 = none → c2 = 0) (b2 : n2 ≤ c2) (d2 : n2 ≤ 9223372036854775807) :
    RowsB (w.alloc (.cells #[.slice A1 n1 c1, .slice A2 n2 c2] t)) (some ⟨w.heap.size, 0, none⟩) 2 [l1, l2] :=
  ⟨rfl, fun _ => ⟨_, _, rfl, by simp, fun j hj => by
    match j, hj with
    | 0, _ => exact ⟨A1, n1, c1, by simp, h1.keep (grew_alloc _ _ _), a1, b1, d1⟩
    | 1, _ => exact ⟨A2, n2, c2, by simp, h2.keep (grew_alloc _ _ _), a2, b2, d2⟩⟩⟩

/-- The sum of a frame's bytes but its first and its own. -/
def msgB (l : List UInt8) : List UInt8 := (l.drop 1).take 16 ++ l.drop 21
def agreesB (l : List UInt8) : Bool := decide (num ((l.drop 17).take 4) = crc (msgB l))

theorem agrees_eq (l : List UInt8) : (((num ((l.drop 17).take 4) : Nat) : Int) == ((crc (msgB l) : Nat) : Int)) = agreesB l := by
  unfold agreesB
  by_cases h : num ((l.drop 17).take 4) = crc (msgB l)
  · rw [h]; simp
  · rw [decide_eq_false h]; simp; omega
theorem sum_of_two {b o n c : Nat} {l : List UInt8} {w : World} (h : Bys w (some ⟨b, o, none⟩) n l) (h21 : 21 ≤ n) (hc : n ≤ c) (hn : c ≤ 9223372036854775807) :
    Calls Try.prog 10 #[.slice (some ⟨w.heap.size, 0, none⟩) 2 2] (w.alloc (.cells #[.slice (some ⟨b, o + 1, none⟩) 16 (c - 1), .slice (if c = 21 then some ⟨b, o, none⟩ else some ⟨b, o + 21, none⟩) (n - 21) (c - 21)] 23)) fun e w' => e = .returned (.int .u32 (crc (msgB l) : Int)) ∧ w.alloc (.cells #[.slice (some ⟨b, o + 1, none⟩) 16 (c - 1), .slice (if c = 21 then some ⟨b, o, none⟩ else some ⟨b, o + 21, none⟩) (n - 21) (c - 21)] 23) = w' := by
  have h2 := bys_cut (t := 21) (T := n) h h21 (Nat.le_refl _) hc
  rw [List.take_of_length_le (l := l.drop 21) (by have := h.1; simp; omega)] at h2
  have := sum_any (some ⟨w.heap.size, 0, none⟩) 2 2 [(l.drop 1).take 16, l.drop 21] _ (rows2 (A1 := some ⟨b, o + 1, none⟩) (A2 := if c = 21 then some ⟨b, o, none⟩ else some ⟨b, o + 21, none⟩) (n1 := 16) (c1 := c - 1) (n2 := n - 21) (c2 := c - 21) 23 ((h.drop (k := 1) (by omega)).take (k := 16) (by omega)) (fun h => by cases h) (by omega) (by omega) h2 (fun h => (ite_some _ _ h).elim) (by omega) (by omega)) (by omega)
  simpa [msgB] using this

set_option maxRecDepth 100000 in
set_option maxHeartbeats 1000000 in
theorem agrees_any (b o n c : Nat) (l : List UInt8) (w : World) (h : Bys w (some ⟨b, o, none⟩) n l) (h21 : 21 ≤ n) (hc : n ≤ c) (hn : c ≤ 9223372036854775807) :
    Calls Try.prog 25 #[.slice (some ⟨b, o, none⟩) n c] w fun e w' => e = .returned (.bool (agreesB l)) ∧ Grew w w' := by
  have HB := Lib.hid h
  have HL := Lib.hid h.1
  have CS := fun (A : Option Addr) (n c : Nat) ls w h hn => sum_any A n c ls w h hn
  clear h
  have i1 : (17 : Int) ≤ (c : Int) := by omega
  have i2 : (21 : Int) ≤ (n : Int) := by omega
  have i3 : (n : Int) ≤ (c : Int) := by omega
  go_enter Try.func25, Try.ntmps25
  go_wp2
  go_still_tail 4, (by kernel_rfl)
  change wpList _ _ _ _ _ w.drew
  have hg2 : Grew w w.drew := Below.drew (grew_refl _)
  have HG : Hid (Grew w w.drew) := hg2
  clear hg2
  generalize w.drew = w2 at *
  have HCS := Lib.hid (sum_of_two (c := c) (w := w2) (HB.out.keep HG.out) h21 hc hn)
  have HCN := fun w' (g : Grew w w') => number_any (some ⟨b, o + 17, none⟩) 4 (c - 17) ((l.drop 17).take 4) w' (((HB.out.keep g).drop (k := 17) (by omega)).take (k := 4) (by omega)) (by omega)
  have i4 : (21 : Int) ≤ (c : Int) := by omega
  have HX := Lib.hid (agrees_eq l)
  clear CS
  have hcr := crc_lt (msgB l)
  have hwr : IntKind.u64.wrap ((crc (msgB l) : Nat) : Int) = ((crc (msgB l) : Nat) : Int) := by rw [IntKind.wrap_u64]; omega
  generalize (l.drop 17).take 4 = N4 at *
  generalize num N4 = V at *
  generalize crc (msgB l) = Z at *
  go_wp2_with (first | (go_at_call 10; ((with_reducible refine HCS.out.mono ?_); rintro e w1 ⟨rfl, rfl⟩)) | (go_at_call 24; ((with_reducible refine (HCN _ (grew_trans HG.out (grew_alloc _ _ _))).mono ?_); rintro e w1 ⟨rfl, rfl⟩)))
  all_goals
    go_ret
    exact ⟨ret_b HX.out, grew_trans HG.out (grew_alloc _ _ _)⟩
end Go.Proofs.Ytogncnoheodgbaa.NumK
