/- The contract of the reference's Greedy. -/
import Derived.Test.YtkkemmfghjgmeaaRefAll
import Derived.Test.YtkkemmfghjgmeaaGreedy
import Derived.Test.YtkkemmfghjgmeaaMem
namespace Go.Proofs.Ytkkemmfghjgmeaa.NumK
open Go.RowKit

def gV (T : Int) (l : List Int) : Int := if chkE T l = 0 then gr T (capAt l) l.length else 0
def gL (T : Int) (l : List Int) : List Int := if chkE T l = 0 then (List.range l.length).map (gp T (capAt l)) else []
def RefGreedyPost (T : Int) (l : List Int) (w : World) (e : Ending) (w' : World) : Prop :=
  ∃ A n c, e = .returned (.tuple #[.slice A n c, .int .i64 (gV T l), .int .i64 (chkE T l)]) ∧ Ints w' A n (gL T l) ∧ n ≤ 1024 ∧ Grew w w'

theorem refGreedyNo {T : Int} {l : List Int} {w w' : World} (E : Int) (hE : chkE T l = E) (h0 : E ≠ 0) (hg : Grew w w') :
    RefGreedyPost T l w (.returned (.tuple #[.slice none 0 0, .int .i64 0, .int .i64 E])) w' := by
  have hV : gV T l = 0 := by unfold gV; rw [if_neg (by omega)]
  have hL : gL T l = [] := by unfold gL; rw [if_neg (by omega)]
  exact ⟨none, 0, 0, by rw [hV, hE], by rw [hL]; exact ints0 _ _, by omega, hg⟩
theorem chkE_neg {T : Int} {l : List Int} (h : T < 0) : chkE T l = 3 := by
  unfold chkE; rw [if_neg]; simp; omega
theorem chkE_right {T : Int} {l : List Int} (h : isMoney T = false) : chkE T l = 3 := by
  unfold chkE; rw [if_neg]; simp [h]
theorem chkE_all {T : Int} {l : List Int} (h : l.all isMoney = false) : chkE T l = 3 := by
  unfold chkE; rw [if_neg]; rw [h]; simp
theorem chkE_has {T : Int} {l : List Int} (h : hasNeg l = true) : chkE T l = 3 := by
  unfold chkE; rw [if_neg]; rw [h]; simp
theorem chkE_long {T : Int} {l : List Int} (h1 : ¬ T < 0) (h2 : isMoney T = true) (h3 : l.all isMoney = true) (h4 : hasNeg l = false) (h5 : ¬ l.length ≤ 1024) : chkE T l = 5 := by
  unfold chkE; rw [if_pos, if_neg h5]; rw [h2, h3, h4]; simp; omega
theorem chkE_ok {T : Int} {l : List Int} (h1 : ¬ T < 0) (h2 : isMoney T = true) (h3 : l.all isMoney = true) (h4 : hasNeg l = false) (h5 : l.length ≤ 1024) : chkE T l = 0 := by
  unfold chkE; rw [if_pos, if_pos h5]; rw [h2, h3, h4]; simp; omega

set_option maxRecDepth 100000 in
set_option maxHeartbeats 1000000 in
theorem refGreedy_any (T : Int) (A : Option Addr) (n c : Nat) (zs : List Int) (w : World) (hz : Ints w A n zs) (hn : n ≤ 1000000) :
    Calls Try.prog 16 #[.int .i64 T, .slice A n c] w (RefGreedyPost T zs w) := by
  have CA := all_any A n c zs w hz (by omega)
  have CR := refRight_any T w
  have HZ := Lib.hid hz
  clear hz
  by_cases h1 : T < 0
  · have HE := Lib.hid (chkE_neg (l := zs) h1)
    clear CA CR
    go_enter Try.func16, Try.ntmps16
    go_wp2
    exact bodyPost_ret (v := .tuple #[.slice none 0 0, .int .i64 0, .int .i64 3]) (by simp [results, Try.results16, go_sem]) rfl (refGreedyNo 3 HE.out (by omega) (Below.refl _ _))
  have H1 := Lib.hid h1
  by_cases h2 : isMoney T = true
  · rw [h2] at CR
    have H2 := Lib.hid h2
    clear h2
    by_cases h3 : zs.all isMoney = true
    · rw [h3] at CA
      have H3 := Lib.hid h3
      clear h3
      go_enter Try.func16, Try.ntmps16
      go_wp2_with (first
        | (go_at_call 28; ((with_reducible refine CR.mono ?_); rintro e w1 ⟨rfl, rfl⟩))
        | (go_at_call 29; ((with_reducible refine CA.mono ?_); rintro e w1 ⟨rfl, rfl⟩)))
      clear CA CR
      go_loop [7] (fun i => ∃ k : Nat, k ≤ n ∧ i = .int .i64 k ∧ Hid (hasNeg (zs.take k) = false)) (fun i => n - (intOf i).toNat)
      case atStart => exact ⟨0, Nat.zero_le _, rfl, by simp [Hid, hasNeg]⟩
      case round =>
        obtain ⟨k, hk, rfl, HK⟩ := hrel
        by_cases hlt : k < n
        · obtain ⟨b, o, rfl, _, hc⟩ := HZ.out.2 (by omega)
          have hcell := hc k hlt
          have hl := HZ.out.1
          have HNX : Hid (¬ zs.getD k 0 < 0 → hasNeg (zs.take (k + 1)) = false) := hasNeg_take zs k (by omega) HK.out
          have HNY : Hid (zs.getD k 0 < 0 → hasNeg zs = true) := fun h => hasNeg_of (x := zs.getD k 0) (by rw [List.getD_eq_getElem?_getD, List.getElem?_eq_getElem (by omega)]; exact List.getElem_mem _) h
          clear hc hl
          generalize zs.getD k 0 = y at *
          by_cases hy : y < 0
          · have HE := Lib.hid (chkE_has (T := T) (HNY.out hy))
            clear HK
            go_wp2
            exact bodyPost_ret (v := .tuple #[.slice none 0 0, .int .i64 0, .int .i64 3]) (by simp [results, Try.results16, go_sem]) rfl (refGreedyNo 3 HE.out (by omega) (Below.refl _ _))
          · have HY := Lib.hid (HNX.out hy)
            clear HNX HNY
            go_wp2
            go_round
            case rel => exact ⟨k + 1, by omega, by go_num, HY⟩
            case measure => simp [intOf]; omega
        · obtain rfl : k = n := by omega
          have hno : hasNeg zs = false := by
            have := HK.out
            rwa [List.take_of_length_le (by have := HZ.out.1; omega)] at this
          have hl := HZ.out.1
          by_cases h5 : k ≤ 1024
          · have he := chkE_ok (by have := H1.out; omega) H2.out H3.out hno (by omega)
            have HE := Lib.hid he
            have HV : Hid (gV T zs = gr T (capAt zs) k) := by unfold gV; rw [if_pos he, hl]; rfl
            have HL : Hid (gL T zs = (List.range k).map (gp T (capAt zs))) := by unfold gL; rw [if_pos he, hl]; rfl
            obtain ⟨t1, t2, t3, t4, t5⟩ := chk_ok he
            have hcap : ∀ j, j < k → 0 ≤ capAt zs j ∧ capAt zs j ≤ 4611686018427387904 := by
              intro j hj
              have hm : zs.getD j 0 ∈ zs := by rw [List.getD_eq_getElem?_getD, List.getElem?_eq_getElem (by omega)]; exact List.getElem_mem _
              exact ⟨t3 _ hm, ((isMoney_iff _).1 ((List.all_eq_true.1 t4) _ hm)).2⟩
            have HC := Lib.hid hcap
            have HB := Lib.hid (gr_bd (c := capAt zs) (n := k) t1 (fun j hj => (hcap j hj).1))
            have hkn : (k : Int) ≤ 1024 := by omega
            clear he t3 t4 t5 hcap hno hl HK H1 H2 H3
            go_wp2
            go_loopw [0, 8, 9, 10] (fun v0 v8 v9 v10 wr => ∃ j : Nat, v9 = .int .i64 j ∧ j ≤ k ∧ v0 = .int .i64 (gr T (capAt zs) j) ∧ Hid (wr.ownsRow w.heap.size 3 1 v8 j (((List.range j).map (gp T (capAt zs))).map (Value.int .i64))) ∧ Hid (Grew w wr)) (fun _ _ v9 _ _ => k - (intOf v9).toNat)
            case atStart => exact ⟨0, rfl, Nat.zero_le _, rfl, World.ownsRow_nil _ _ _ _, Below.refl _ _⟩
            case round =>
              obtain ⟨j, rfl, hj, rfl, HO, HG⟩ := hrel
              by_cases hlt2 : j < k
              · obtain ⟨b, o, rfl, hb, hc⟩ := (HZ.out.keep HG.out).2 (by omega)
                have hcell : wr.cell? ⟨b, o + j, none⟩ = some (.int .i64 (capAt zs j)) := hc j hlt2
                obtain ⟨y1, y2⟩ := HC.out j hlt2
                obtain ⟨r1, r2⟩ := HB.out j hj
                have HX : Hid ((List.range j).map (gp T (capAt zs)) ++ [min (capAt zs j) (gr T (capAt zs) j)] = (List.range (j + 1)).map (gp T (capAt zs))) := by
                  rw [List.range_succ, List.map_append]; rfl
                have HGR : Hid (gr T (capAt zs) (j + 1) = gr T (capAt zs) j - min (capAt zs j) (gr T (capAt zs) j)) := rfl
                generalize capAt zs j = y at hcell y1 y2 HX HGR
                generalize gr T (capAt zs) j = r at *
                clear hc
                go_wp2_with (at_builtin; refine wpList_append_ints rfl _ _ rfl w.heap.size _ j _ rfl (HO.out.alloc _) (some ⟨wr.heap.size, 0, none⟩) 1 1 [_] rfl (by intro h; cases h) (ints1 _ _ _) (by omega) (by have := HG.out.size; simp; omega) ?_; intro v' w' hv hb'; have HV' := Lib.hid hv; have HB' := Lib.hid hb'; clear hv hb')
                have hv : (if y < r then y else r) = min y r := by split <;> omega
                go_roundw
                case rel =>
                  refine ⟨j + 1, by go_num, by omega, ?_, ?_, ?_⟩
                  · rw [HGR.out, ← hv]
                  · have := HV'.out
                    rw [hv, HX.out] at this
                    exact this
                  · exact (Below.alloc HG.out HG.out.size _).trans HB'.out
                case measure => simp only [intOf]; omega
              · obtain rfl : j = k := by omega
                obtain ⟨A3, c3, rfl, hI3, _⟩ := ints_of_own HO.out
                have HI3 := Lib.hid hI3
                clear hI3
                go_wp2
                exact bodyPost_ret (v := .tuple #[.slice A3 j c3, .int .i64 (gr T (capAt zs) j), .int .i64 0]) (by simp [results, Try.results16, go_sem]) rfl ⟨A3, j, c3, by rw [HV.out, HE.out], by rw [HL.out]; exact HI3.out, by omega, HG.out⟩
          · have HE := Lib.hid (chkE_long (by have := H1.out; omega) H2.out H3.out hno (by omega))
            clear hno hl HK
            go_wp2
            exact bodyPost_ret (v := .tuple #[.slice none 0 0, .int .i64 0, .int .i64 5]) (by simp [results, Try.results16, go_sem]) rfl (refGreedyNo 5 HE.out (by omega) (Below.refl _ _))
    · simp only [Bool.not_eq_true] at h3
      rw [h3] at CA
      have HE := Lib.hid (chkE_all (T := T) h3)
      clear h3
      go_enter Try.func16, Try.ntmps16
      go_wp2_with (first
        | (go_at_call 28; ((with_reducible refine CR.mono ?_); rintro e w1 ⟨rfl, rfl⟩))
        | (go_at_call 29; ((with_reducible refine CA.mono ?_); rintro e w1 ⟨rfl, rfl⟩)))
      exact bodyPost_ret (v := .tuple #[.slice none 0 0, .int .i64 0, .int .i64 3]) (by simp [results, Try.results16, go_sem]) rfl (refGreedyNo 3 HE.out (by omega) (Below.refl _ _))
  · simp only [Bool.not_eq_true] at h2
    rw [h2] at CR
    have HE := Lib.hid (chkE_right (l := zs) h2)
    clear h2 CA
    go_enter Try.func16, Try.ntmps16
    go_wp2_with (go_at_call 28; ((with_reducible refine CR.mono ?_); rintro e w1 ⟨rfl, rfl⟩))
    exact bodyPost_ret (v := .tuple #[.slice none 0 0, .int .i64 0, .int .i64 3]) (by simp [results, Try.results16, go_sem]) rfl (refGreedyNo 3 HE.out (by omega) (Below.refl _ _))
end Go.Proofs.Ytkkemmfghjgmeaa.NumK
