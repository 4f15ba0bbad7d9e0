/- Contracts of the reference's shift and divide. -/
import Derived.Test.YtkkemmfghjgmeaaRefShift
import Derived.Test.YtkkemmfghjgmeaaRow
import Derived.Test.YtkkemmfghjgmeaaRefLess
import Derived.Deep.RegionWith
namespace Go.Proofs.Ytkkemmfghjgmeaa.NumK
open Go.RowKit

theorem or_low (h d : Int) (h0 : 0 ≤ h) (h1 : h < 4611686018427387904) (d0 : 0 ≤ d) (d1 : d ≤ 1) : bits .or .i64 (2 * h) d = 2 * h + d := by
  obtain ⟨n, rfl⟩ := Int.eq_ofNat_of_zero_le h0
  have hd : d = 0 ∨ d = 1 := by omega
  have key : ∀ e : Nat, e ≤ 1 → (2 * n) ||| e = 2 * n + e := by
    intro e he
    have := Nat.two_pow_add_eq_or_of_lt (i := 1) (b := e) (by omega) n
    simpa using this.symm
  have e2 : (BitVec.ofInt 64 (2 * (n : Int))).toNat = 2 * n := by
    rw [show (2 * (n : Int)) = ((2 * n : Nat) : Int) from by omega, BitVec.ofInt_natCast, BitVec.toNat_ofNat]; exact Nat.mod_eq_of_lt (by omega)
  rcases hd with rfl | rfl
  · show IntKind.i64.wrap ((BitVec.ofInt 64 (2 * (n : Int)) ||| BitVec.ofInt 64 0).toNat : Int) = _
    rw [BitVec.toNat_or, e2, show (BitVec.ofInt 64 0).toNat = 0 from by decide, key 0 (by omega), IntKind.wrap_i64]; omega
  · show IntKind.i64.wrap ((BitVec.ofInt 64 (2 * (n : Int)) ||| BitVec.ofInt 64 1).toNat : Int) = _
    rw [BitVec.toNat_or, e2, show (BitVec.ofInt 64 1).toNat = 1 from by decide, key 1 (by omega), IntKind.wrap_i64]; omega

/-- What shift answers. -/
def ShiftPost (b : Int) (k : Nat) (w : World) (e : Ending) (w' : World) : Prop :=
  Grew w w' ∧ ∃ x : Int, isWide x = true ∧ 0 ≤ x ∧ e = .returned (.tuple #[.agg #[.int .i64 (hi64 x), .int .u64 (lo64 x)], .bool (decide (b * 2 ^ k < 170141183460469231731687303715884105728))]) ∧ (b * 2 ^ k < 170141183460469231731687303715884105728 → x = b * 2 ^ k)

theorem pow_le_pow {b : Int} (hb : 0 ≤ b) {i k : Nat} (h : i ≤ k) : b * 2 ^ i ≤ b * 2 ^ k := by
  refine Int.mul_le_mul_of_nonneg_left ?_ hb
  have : (2 ^ i : Nat) ≤ 2 ^ k := Nat.pow_le_pow_right (by omega) h
  have h1 : ((2 ^ i : Nat) : Int) = 2 ^ i := by simp
  have h2 : ((2 ^ k : Nat) : Int) = 2 ^ k := by simp
  omega

set_option maxRecDepth 100000 in
set_option maxHeartbeats 2000000 in
theorem shift_any (b : Int) (k : Nat) (w : World) (hb : 0 ≤ b) (hw : isWide b = true) (hk : k ≤ 62) :
    Calls Try.prog 47 #[.agg #[.int .i64 (hi64 b), .int .u64 (lo64 b)], .int .i64 k] w (ShiftPost b k w) := by
  have HX : ∀ w : World, Own2 ((w.alloc (.cells #[.int .i64 (hi64 b), .int .u64 (lo64 b)] 38)).alloc (.cells #[.int .i64 0, .int .u64 0] 38)) w.heap.size (.int .i64 (hi64 b)) (.int .u64 (lo64 b)) := fun w => (Own2.new w _ _ _ _ rfl).keep (grew_al (grew_refl _) _)
  have HR : ∀ w : World, Own2 ((w.alloc (.cells #[.int .i64 (hi64 b), .int .u64 (lo64 b)] 38)).alloc (.cells #[.int .i64 0, .int .u64 0] 38)) (w.heap.size + 1) (.int .i64 0) (.int .u64 0) := fun w => Own2.new _ _ _ _ _ (by simp)
  have HXH := Lib.hid (HX w)
  have HRH := Lib.hid (HR w)
  clear HX HR
  go_enter Try.func47, Try.ntmps47
  go_wp2
  have HG : Hid (Grew w ((w.alloc (.cells #[.int .i64 (hi64 b), .int .u64 (lo64 b)] 38)).alloc (.cells #[.int .i64 0, .int .u64 0] 38))) := grew_al (grew_al (grew_refl _) _) _
  generalize (w.alloc (.cells #[.int .i64 (hi64 b), .int .u64 (lo64 b)] 38)).alloc (.cells #[.int .i64 0, .int .u64 0] 38) = w1 at HXH HRH HG ⊢
  go_loopw [6] (fun vi wr => ∃ (i : Nat) (x : Int), vi = .int .i64 i ∧ i ≤ k ∧ Hid (x = b * 2 ^ i) ∧ 0 ≤ x ∧ x < 170141183460469231731687303715884105728 ∧ Hid (Own2 wr w.heap.size (.int .i64 (hi64 x)) (.int .u64 (lo64 x))) ∧ Hid (Own2 wr (w.heap.size + 1) (.int .i64 0) (.int .u64 0)) ∧ Hid (Grew w wr)) (fun vi _ => k - (intOf vi).toNat)
  case atStart => exact ⟨0, b, rfl, Nat.zero_le _, (show _ = _ by simp), hb, by rw [isWide_iff] at hw; omega, HXH, HRH, HG⟩
  case round =>
    clear HXH HRH HG
    obtain ⟨i, x, rfl, hi, HX, x0, x1, HO, HR, HG⟩ := hrel
    have bx := lo_bounds x
    have ex := w_eq x
    have hx0 : 0 ≤ hi64 x := by unfold hi64; omega
    have hx1 : hi64 x < 9223372036854775808 := by unfold hi64; omega
    have k1 := HO.out.c0
    have k2 := HO.out.c1
    have k3 := HO.out.f0
    have k4 := HO.out.f1
    have r1 := HR.out.c0
    have r2 := HR.out.c1
    have r3 := HR.out.f0
    have r4 := HR.out.f1
    by_cases hlt : i < k
    · by_cases hbig : 4611686018427387904 ≤ hi64 x
      · have HF : Hid (decide (b * 2 ^ k < 170141183460469231731687303715884105728) = false ∧ ¬ b * 2 ^ k < 170141183460469231731687303715884105728) := by
          have h1 := pow_le_pow hb (i := i + 1) (k := k) (by omega)
          rw [Int.pow_succ, ← Int.mul_assoc, ← HX.out] at h1
          have h2 : ¬ b * 2 ^ k < 170141183460469231731687303715884105728 := by omega
          exact ⟨decide_eq_false h2, h2⟩
        have hxw : isWide x = true := wide_in x (by omega)
        have HXW := Lib.hid hxw
        have HS := Lib.hid (HR.out.set (.int .i64 (hi64 x)) (.int .u64 (lo64 x)))
        clear hxw ex
        generalize hA1 : hi64 x = xh at *
        generalize hA2 : lo64 x = xl at *
        have HA1 := Lib.hid hA1.symm
        have HA2 := Lib.hid hA2.symm
        clear hA1 hA2
        go_wp2
        refine bodyPost_ret (v := .tuple #[.agg #[.int .i64 xh, .int .u64 xl], .bool false]) (by simp [results, Try.results47, go_sem, HS.out.c0, HS.out.c1]) rfl ⟨grew_set (grew_set HG.out _ (by simp)) _ (by simp), x, HXW.out, x0, by rw [HF.out.1, HA1.out, HA2.out], fun h => by have := HF.out.2; omega⟩
      · have HP : Hid (2 * x = b * 2 ^ (i + 1)) := by show _ = _; rw [Int.pow_succ, ← Int.mul_assoc, ← HX.out]; omega
        obtain ⟨d, hd⟩ : ∃ d, d = lo64 x / 9223372036854775808 := ⟨_, rfl⟩
        obtain ⟨l, hl⟩ : ∃ l, l = (2 * lo64 x) % 18446744073709551616 := ⟨_, rfl⟩
        have hd0 : 0 ≤ d ∧ d ≤ 1 := by rw [hd]; omega
        have U := w_unique (2 * x) (2 * hi64 x + d) l (by rw [hd, hl]; omega) (by omega) (by omega)
        have HU := Lib.hid U
        have hor := or_low (hi64 x) d hx0 (by omega) hd0.1 hd0.2
        rw [Int.mul_comm 2] at hor
        have hd' : lo64 x / 9223372036854775808 = d := hd.symm
        have hl' : IntKind.u64.wrap (lo64 x * 2) = l := by rw [hl, IntKind.wrap_u64]; omega
        have x2 : x < 85070591730234615865843651857942052864 := by omega
        have HS := Lib.hid (HO.out.set (.int .i64 (2 * hi64 x + d)) (.int .u64 l))
        have HRS := Lib.hid ((HR.out.other ⟨w.heap.size, 0, none⟩ (.int .i64 (2 * hi64 x + d)) (by simp)).other ⟨w.heap.size, 1, none⟩ (.int .u64 l) (by simp))
        have hcm : hi64 x * 2 + d = 2 * hi64 x + d := by omega
        rw [hcm] at hor
        clear U ex hd hl hcm
        generalize hA1 : hi64 x = xh at *
        generalize hA2 : lo64 x = xl at *
        clear hA1 hA2
        go_wp2
        go_roundw
        case rel =>
          refine ⟨i + 1, 2 * x, by go_num, by omega, HP, by omega, by omega, ?_, HRS, grew_set (grew_set HG.out _ (by simp)) _ (by simp)⟩
          rw [HU.out.1, HU.out.2]; exact HS
        case measure => simp only [intOf]; omega
    · obtain rfl : i = k := by omega
      have HF : Hid (decide (b * 2 ^ i < 170141183460469231731687303715884105728) = true) := decide_eq_true (by rw [← HX.out]; exact x1)
      have hxw : isWide x = true := wide_in x (by omega)
      have HXW := Lib.hid hxw
      have HS := Lib.hid (HR.out.set (.int .i64 (hi64 x)) (.int .u64 (lo64 x)))
      clear hxw ex
      generalize hA1 : hi64 x = xh at *
      generalize hA2 : lo64 x = xl at *
      have HA1 := Lib.hid hA1.symm
      have HA2 := Lib.hid hA2.symm
      clear hA1 hA2
      go_wp2
      refine bodyPost_ret (v := .tuple #[.agg #[.int .i64 xh, .int .u64 xl], .bool true]) (by simp [results, Try.results47, go_sem, HS.out.c0, HS.out.c1]) rfl ⟨grew_set (grew_set HG.out _ (by simp)) _ (by simp), x, HXW.out, x0, by rw [HF.out, HA1.out, HA2.out], fun _ => HX.out⟩
end Go.Proofs.Ytkkemmfghjgmeaa.NumK
