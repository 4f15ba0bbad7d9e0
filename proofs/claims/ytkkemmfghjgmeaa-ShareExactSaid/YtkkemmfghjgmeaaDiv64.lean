/- The contracts of math/bits.Len64, LeadingZeros64 and Div64. -/
import Derived.Test.YtkkemmfghjgmeaaWide0
import Derived.Lib.BitFns
import Derived.Deep.QuietTactic
import Derived.BigQuiet
import Derived.Deep.DeepCutAuto
import Derived.Deep.Light
namespace Go.Proofs.Ytkkemmfghjgmeaa.NumK
open Go.RowKit

theorem tab8 (i : Int) (h0 : 0 ≤ i) (h1 : i < 256) (h : i.toNat < Lib.len8tab.size) : ((Lib.len8tab[i.toNat].toNat : Nat) : Int) = (Lib.bitLen i.toNat : Int) ∧ Lib.bitLen i.toNat ≤ 8 := by
  refine ⟨?_, Lib.bitLen_le8' i h0 (by omega)⟩
  rw [← Lib.len8_of i h0 (by omega)]
  unfold Lib.len8
  rw [getElem?_pos Lib.len8tab i.toNat h]
  rfl

theorem fin8 (k L B : Nat) (z : Int) (hz : z = k) (hk : k ≤ 56) (l : L ≤ 8) (s : B = k + L) : wrap64 (z + wrap64 (L : Int)) = (B : Int) := by
  subst hz s
  unfold wrap64
  omega
theorem fin0 (L : Nat) (l : L ≤ 8) : wrap64 (wrap64 (L : Int)) = (L : Int) := by
  unfold wrap64
  omega

set_option maxHeartbeats 4000000 in
set_option maxRecDepth 100000 in
theorem len64_any (x : Int) (w : World) (h0 : 0 ≤ x) (h1 : x ≤ 18446744073709551615) :
    Calls Try.prog 57 #[.int .u64 x] w fun e w' => e = .returned (.int .i64 (Lib.bitLen x.toNat)) ∧ w = w' := by
  have hs : ((Lib.len8tab.size : Nat) : Int) = 256 := by rw [Lib.len8tab_size]; rfl
  go_enter Try.func57, Try.ntmps57
  go_wp2
  all_goals (go_ret; refine ⟨congrArg Ending.returned (congrArg (Value.int IntKind.i64) ?_), rfl⟩)
  all_goals first
    | (obtain ⟨e, l⟩ := tab8 (x / 4294967296 / 65536 / 256) (by omega) (by omega) (by rw [Lib.len8tab_size]; omega)
       simp only [e]
       have e2 : (x / 4294967296 / 65536 / 256).toNat = x.toNat / 72057594037927936 := by omega
       rw [e2] at l ⊢
       exact fin8 56 _ _ _ rfl (by omega) l (Lib.bitLen_shift56 x.toNat (by omega) (by omega)))
    | (obtain ⟨e, l⟩ := tab8 (x / 4294967296 / 65536) (by omega) (by omega) (by rw [Lib.len8tab_size]; omega)
       simp only [e]
       have e2 : (x / 4294967296 / 65536).toNat = x.toNat / 281474976710656 := by omega
       rw [e2] at l ⊢
       exact fin8 48 _ _ _ rfl (by omega) l (Lib.bitLen_shift48 x.toNat (by omega) (by omega)))
    | (obtain ⟨e, l⟩ := tab8 (x / 4294967296 / 256) (by omega) (by omega) (by rw [Lib.len8tab_size]; omega)
       simp only [e]
       have e2 : (x / 4294967296 / 256).toNat = x.toNat / 1099511627776 := by omega
       rw [e2] at l ⊢
       exact fin8 40 _ _ _ rfl (by omega) l (Lib.bitLen_shift40 x.toNat (by omega) (by omega)))
    | (obtain ⟨e, l⟩ := tab8 (x / 4294967296) (by omega) (by omega) (by rw [Lib.len8tab_size]; omega)
       simp only [e]
       have e2 : (x / 4294967296).toNat = x.toNat / 4294967296 := by omega
       rw [e2] at l ⊢
       exact fin8 32 _ _ _ rfl (by omega) l (Lib.bitLen_shift32 x.toNat (by omega) (by omega)))
    | (obtain ⟨e, l⟩ := tab8 (x / 65536 / 256) (by omega) (by omega) (by rw [Lib.len8tab_size]; omega)
       simp only [e]
       have e2 : (x / 65536 / 256).toNat = x.toNat / 16777216 := by omega
       rw [e2] at l ⊢
       exact fin8 24 _ _ _ rfl (by omega) l (Lib.bitLen_shift24 x.toNat (by omega) (by omega)))
    | (obtain ⟨e, l⟩ := tab8 (x / 65536) (by omega) (by omega) (by rw [Lib.len8tab_size]; omega)
       simp only [e]
       have e2 : (x / 65536).toNat = x.toNat / 65536 := by omega
       rw [e2] at l ⊢
       exact fin8 16 _ _ _ rfl (by omega) l (Lib.bitLen_shift16 x.toNat (by omega) (by omega)))
    | (obtain ⟨e, l⟩ := tab8 (x / 256) (by omega) (by omega) (by rw [Lib.len8tab_size]; omega)
       simp only [e]
       have e2 : (x / 256).toNat = x.toNat / 256 := by omega
       rw [e2] at l ⊢
       exact fin8 8 _ _ _ rfl (by omega) l (Lib.bitLen_shift8 x.toNat (by omega) (by omega)))
    | (obtain ⟨e, l⟩ := tab8 x (by omega) (by omega) (by rw [Lib.len8tab_size]; omega)
       simp only [e]
       exact fin0 _ l)

theorem lz64_any (x : Int) (w : World) (h0 : 0 ≤ x) (h1 : x ≤ 18446744073709551615) :
    Calls Try.prog 59 #[.int .u64 x] w fun e w' => e = .returned (.int .i64 (64 - (Lib.bitLen x.toNat : Int))) ∧ w = w' := by
  have C := fun w => len64_any x w h0 h1
  have l := Lib.bitLen_le x.toNat 64 (by omega) (by omega)
  generalize Lib.bitLen x.toNat = L at *
  go_enter Try.func59, Try.ntmps59
  go_wp2_with (go_at_call 57; ((with_reducible refine (C _).mono ?_); rintro e w' ⟨rfl, rfl⟩))
  go_ret
  exact ⟨rfl, rfl⟩
end Go.Proofs.Ytkkemmfghjgmeaa.NumK
