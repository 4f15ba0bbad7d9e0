/- Contracts of package share: sum. -/
import Derived.Test.YtkkemmfghjgmeaaShare1
import Derived.Test.YtkkemmfghjgmeaaOwn2
import Derived.Test.YtkkemmfghjgmeaaSplitMath
import Derived.Test.YtkkemmfghjgmeaaRow
import Derived.Deep.RegionWith
namespace Go.Proofs.Ytkkemmfghjgmeaa.NumK
open Go.RowKit

def sumTo (l : List Int) (k : Nat) : Int := (l.take k).sum
theorem sumTo_bd (l : List Int) (k : Nat) (h0 : ∀ x ∈ l, 0 ≤ x) (h1 : l.all isMoney = true) (hn : l.length ≤ 1024) : 0 ≤ sumTo l k ∧ sumTo l k ≤ 4722366482869645213696 := by
  have : ∀ l : List Int, (∀ x ∈ l, 0 ≤ x) → l.all isMoney = true → 0 ≤ l.sum ∧ l.sum ≤ l.length * 4611686018427387904 := by
    intro l
    induction l with
    | nil => intro _ _; simp
    | cons x l ih =>
      intro g0 g1
      simp only [List.all_cons, Bool.and_eq_true, isMoney_iff] at g1
      have := ih (fun y hy => g0 y (by simp [hy])) g1.2
      have := g0 x (by simp)
      simp only [List.sum_cons, List.length_cons]; omega
  have h2 := this (l.take k) (fun x hx => h0 x (List.mem_of_mem_take hx)) (by rw [List.all_eq_true]; intro x hx; exact (List.all_eq_true.1 h1) x (List.mem_of_mem_take hx))
  have h3 : (l.take k).length ≤ 1024 := by rw [List.length_take]; omega
  unfold sumTo; omega

set_option maxRecDepth 100000 in
set_option maxHeartbeats 1000000 in
theorem shareSum_any (A : Option Addr) (n c : Nat) (zs : List Int) (w : World) (hz : Ints w A n zs) (h0 : ∀ x ∈ zs, 0 ≤ x) (h1 : zs.all isMoney = true) (hn : n ≤ 1024) :
    Calls Try.prog 25 #[.slice A n c] w fun e w' => e = .returned (.agg #[.int .i64 (hi64 zs.sum), .int .u64 (lo64 zs.sum)]) ∧ Grew w w' := by
  have HZ := Lib.hid hz
  have H0 := Lib.hid h0
  have H1 := Lib.hid h1
  clear hz h0 h1
  go_enter Try.func25, Try.ntmps25
  go_wp2
  have HO : Hid (Own2 ((w.alloc (.cells #[.int .i64 0, .int .u64 0] 38)).alloc (.cells #[.int .i64 0, .int .u64 0] 38)) w.heap.size (.int .i64 0) (.int .u64 0)) := (Own2.new w _ _ _ _ rfl).keep (grew_alloc _ _ _)
  have HP : Hid (Own2 ((w.alloc (.cells #[.int .i64 0, .int .u64 0] 38)).alloc (.cells #[.int .i64 0, .int .u64 0] 38)) (w.heap.size + 1) (.int .i64 0) (.int .u64 0)) := Own2.new _ _ _ _ _ (by simp)
  have HG : Hid (Grew w ((w.alloc (.cells #[.int .i64 0, .int .u64 0] 38)).alloc (.cells #[.int .i64 0, .int .u64 0] 38))) := grew_al (grew_al (grew_refl _) _) _
  generalize hw1 : (w.alloc (.cells #[.int .i64 0, .int .u64 0] 38)).alloc (.cells #[.int .i64 0, .int .u64 0] 38) = w1 at HO HP HG ⊢
  clear hw1
  go_loopw [9, 5] (fun vi v5 wr => ∃ k : Nat, vi = .int .i64 k ∧ k ≤ n ∧ Hid (Own2 wr w.heap.size (.int .i64 0) (.int .u64 0)) ∧ Hid (Own2 wr (w.heap.size + 1) (.int .i64 (hi64 (sumTo zs k))) (.int .u64 (lo64 (sumTo zs k)))) ∧ Hid (Grew w wr)) (fun vi _ _ => n - (intOf vi).toNat)
  case atStart => exact ⟨0, rfl, Nat.zero_le _, HO, HP, HG⟩
  case round =>
    clear HO HP HG
    obtain ⟨k, rfl, hk, HO, HP, HG⟩ := hrel
    by_cases hlt : k < n
    · have hlen := HZ.out.1
      obtain ⟨b, o, rfl, hb, hc⟩ := (HZ.out.keep HG.out).2 (by omega)
      have hcell := hc k hlt
      have hst := sum_take_succ zs k (by omega)
      have hs1 := sumTo_bd zs k H0.out H1.out (by omega)
      have hs2 := sumTo_bd zs (k + 1) H0.out H1.out (by omega)
      have hm : isMoney (zs.getD k 0) = true := (List.all_eq_true.1 H1.out) _ (by rw [List.getD_eq_getElem?_getD, List.getElem?_eq_getElem (by omega)]; exact List.getElem_mem _)
      rw [isMoney_iff] at hm
      have HE : Hid (sumTo zs (k + 1) = sumTo zs k + zs.getD k 0) := hst
      generalize zs.getD k 0 = y at *
      have C1 := fun w => wof_any y w (by omega)
      have C2 := fun w => plus_any (sumTo zs k) y w (wide_in _ (by omega)) (wide_in _ (by omega)) (wide_in _ (by have := HE.out; omega))
      rw [← HE.out] at C2
      clear hst hs1 hs2 hm hc hlen HE
      generalize hB1 : hi64 (sumTo zs (k + 1)) = b1 at *
      generalize hB2 : lo64 (sumTo zs (k + 1)) = b2 at *
      have HB1 := Lib.hid hB1.symm
      have HB2 := Lib.hid hB2.symm
      clear hB1 hB2
      generalize hi64 (sumTo zs k) = a1 at *
      generalize lo64 (sumTo zs k) = a2 at *
      generalize hi64 y = y1 at *
      generalize lo64 y = y2 at *
      have q1 := HP.out.c0
      have q2 := HP.out.c1
      have q3 := HP.out.f0
      have q4 := HP.out.f1
      have q5 := HP.out.lt
      go_wp2_with fail
      go_region_with (first
        | (go_at_call 39; ((with_reducible refine (C1 _).mono ?_); rintro e w1 ⟨rfl, hg1⟩; have k0 := HP.out.keep (grew_trans (grew_drew (grew_refl _)) hg1); have q1' := k0.c0; have q2' := k0.c1))
        | (go_at_call 38; ((with_reducible refine (C2 _).mono ?_); rintro e w2 ⟨rfl, hg2⟩; have k1 := HP.out.keep (grew_trans (grew_trans (grew_drew (grew_refl _)) hg1) hg2); have q1'' := k1.c0; have q2'' := k1.c1; have q3'' := k1.f0; have q4'' := k1.f1; have q5'' := k1.lt)))
      all_goals
        have HP2 : Hid (Own2 ((w2.setCell ⟨w.heap.size + 1, 0, none⟩ (.int .i64 b1)).setCell ⟨w.heap.size + 1, 1, none⟩ (.int .u64 b2)) (w.heap.size + 1) (.int .i64 b1) (.int .u64 b2)) := k1.set _ _
        have HG2 : Hid (Grew w w2) := grew_trans HG.out (grew_trans (grew_trans (grew_drew (grew_refl _)) hg1) hg2)
        have HO2 : Hid (Own2 ((w2.setCell ⟨w.heap.size + 1, 0, none⟩ (.int .i64 b1)).setCell ⟨w.heap.size + 1, 1, none⟩ (.int .u64 b2)) w.heap.size (.int .i64 0) (.int .u64 0)) := ((HO.out.keep (grew_trans (grew_trans (grew_drew (grew_refl _)) hg1) hg2)).other _ _ (by simp)).other _ _ (by simp)
        have HG3 : Hid (Grew w ((w2.setCell ⟨w.heap.size + 1, 0, none⟩ (.int .i64 b1)).setCell ⟨w.heap.size + 1, 1, none⟩ (.int .u64 b2))) := grew_set (grew_set HG2.out _ (by simp)) _ (by simp)
        clear q1 q2 q3 q4 q5 q1' q2' q1'' q2'' q3'' q4'' q5'' k0 k1 hg1 hg2 HG2 C1 C2 hcell
        generalize (w2.setCell ⟨w.heap.size + 1, 0, none⟩ (.int .i64 b1)).setCell ⟨w.heap.size + 1, 1, none⟩ (.int .u64 b2) = w3 at HP2 HO2 HG3 ⊢
        go_wp2
        go_roundw
        case rel => exact ⟨k + 1, by go_num, by omega, HO2, by first | exact HP2 | (rw [HB1.out, HB2.out] at HP2; exact HP2), HG3⟩
        case measure => simp only [intOf]; omega
    · obtain rfl : k = n := by omega
      have hl : sumTo zs k = zs.sum := by unfold sumTo; rw [List.take_of_length_le (by have := HZ.out.1; omega)]
      rw [hl] at HP
      clear hl
      generalize hA : hi64 zs.sum = a1 at *
      generalize hB : lo64 zs.sum = a2 at *
      have HA := Lib.hid hA.symm
      have HB := Lib.hid hB.symm
      clear hA hB
      have q1 := HP.out.c0
      have q2 := HP.out.c1
      have q3 := HO.out.c0
      have q4 := HO.out.c1
      have q5 := HO.out.f0
      have q6 := HO.out.f1
      have q7 := HO.out.lt
      have HO2 : Hid (Own2 ((wr.setCell ⟨w.heap.size, 0, none⟩ (.int .i64 a1)).setCell ⟨w.heap.size, 1, none⟩ (.int .u64 a2)) w.heap.size (.int .i64 a1) (.int .u64 a2)) := HO.out.set _ _
      go_wp2
      exact bodyPost_ret (v := .agg #[.int .i64 a1, .int .u64 a2]) (by simp [results, Try.results25, go_sem, HO2.out.c0, HO2.out.c1]) rfl ⟨ret_wv HA.out HB.out, grew_set (grew_set HG.out _ (by simp)) _ (by simp)⟩
end Go.Proofs.Ytkkemmfghjgmeaa.NumK
