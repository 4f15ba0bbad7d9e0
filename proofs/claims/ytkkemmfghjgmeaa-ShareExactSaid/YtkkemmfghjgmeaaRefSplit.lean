/- The contract of the reference's Split. -/
import Derived.Test.YtkkemmfghjgmeaaRefGreedy
import Derived.Test.YtkkemmfghjgmeaaRowB
import Derived.Test.YtkkemmfghjgmeaaSplitGot
import Derived.Test.YtkkemmfghjgmeaaRefDiv2
import Derived.Test.YtkkemmfghjgmeaaRef01C
import Derived.Test.YtkkemmfghjgmeaaRefLess
namespace Go.Proofs.Ytkkemmfghjgmeaa.NumK
open Go.RowKit

def RefSplitPost (T : Int) (l : List Int) (w : World) (e : Ending) (w' : World) : Prop :=
  ∃ A n c ps, e = .returned (.tuple #[.slice A n c, .int .i64 (spE T l)]) ∧ Ints w' A n ps ∧ SplitVals T l ps ∧ n ≤ 1024 ∧ Grew w w'

theorem refSplitNo {T : Int} {l : List Int} {w w' : World} (E : Int) (hE : spE T l = E) (_h0 : E ≠ 0) (hg : Grew w w') :
    RefSplitPost T l w (.returned (.tuple #[.slice none 0 0, .int .i64 E])) w' :=
  ⟨none, 0, 0, [], by rw [hE], ints0 _ _, ⟨fun _ => rfl, fun _ => by omega⟩, by omega, hg⟩
theorem spE_of {T : Int} {l : List Int} {E : Int} (h : chkE T l = E) (h0 : E ≠ 0) : spE T l = E := by
  unfold spE; rw [if_pos (by omega), h]

theorem spE_zero {T : Int} {l : List Int} (h : chkE T l = 0) (h0 : l.sum ≠ 0 ∨ T = 0) : spE T l = 0 := by
  unfold spE; rw [if_neg (by omega), if_neg (by omega)]
theorem spE_two {T : Int} {l : List Int} (h : chkE T l = 0) (h1 : l.sum = 0) (h2 : T ≠ 0) : spE T l = 2 := by
  unfold spE; rw [if_neg (by omega), if_pos ⟨h1, h2⟩]
theorem split_zero {l : List Int} (_h : l.sum = 0) (hc : chkE 0 l = 0) : SplitVals 0 l ((List.range l.length).map (fun _ => 0)) := by
  refine ⟨fun g => absurd (spE_zero hc (Or.inr rfl)) g, fun _ => ⟨⟨hc, fun _ => rfl⟩, fun k => k, fun k => k, ⟨fun _ => rfl, fun _ => rfl, fun _ _ => rfl, fun i j a b => Or.inr ⟨by simp [rs], a⟩⟩, ?_⟩⟩
  refine List.map_congr_left fun k _ => ?_
  have e : qs 0 l = fun _ => 0 := by funext j; simp [qs]
  unfold pt lf
  rw [e, sm_zero]
  simp

set_option maxRecDepth 100000 in
set_option maxHeartbeats 4000000 in
theorem refSplit_any (T : Int) (A : Option Addr) (n c : Nat) (zs : List Int) (w : World) (hz : Ints w A n zs) (hn : n ≤ 100000) (hP : SplitOK T zs → ∃ s t, Pl (rs T zs) zs.length s t) :
    Calls Try.prog 12 #[.int .i64 T, .slice A n c] w (RefSplitPost T zs w) := by
  have CA := all_any A n c zs w hz (by omega)
  have CR := refRight_any T w
  have HZ := Lib.hid hz
  clear hz
  by_cases h1 : T < 0
  · have HE := Lib.hid (spE_of (chkE_neg (l := zs) h1) (by omega))
    clear CA CR
    go_enter Try.func12, Try.ntmps12
    go_wp2
    exact bodyPost_ret (v := .tuple #[.slice none 0 0, .int .i64 3]) (by simp [results, Try.results12, go_sem]) rfl (refSplitNo 3 HE.out (by omega) (Below.refl _ _))
  have H1 := Lib.hid h1
  by_cases h2 : isMoney T = true
  · rw [h2] at CR
    have H2 := Lib.hid h2
    clear h2
    by_cases h3 : zs.all isMoney = true
    · rw [h3] at CA
      have H3 := Lib.hid h3
      clear h3
      go_enter Try.func12, Try.ntmps12
      go_wp2_with (first
        | (go_at_call 28; ((with_reducible refine CR.mono ?_); rintro e w1 ⟨rfl, rfl⟩))
        | (go_at_call 29; ((with_reducible refine CA.mono ?_); rintro e w1 ⟨rfl, rfl⟩)))
      clear CA CR
      go_loopw [6, 7] (fun v i wr => ∃ k : Nat, k ≤ n ∧ i = .int .i64 k ∧ Hid (hasNeg (zs.take k) = false) ∧ Hid (wr.ownsRow w.heap.size 38 2 v k ((zs.take k).flatMap wcells)) ∧ Hid (Below w.heap.size w wr)) (fun _ i _ => n - (intOf i).toNat)
      case atStart => exact ⟨0, Nat.zero_le _, rfl, by simp [Hid, hasNeg], by simpa [Hid] using World.ownsRow_nil _ _ _ _, Below.refl _ _⟩
      case round =>
        obtain ⟨k, hk, rfl, HK, HO, HBW⟩ := hrel
        by_cases hlt : k < n
        · obtain ⟨b0, o0, rfl, hb0, hc⟩ := HZ.out.2 (by omega)
          have hcell : wr.cell? ⟨b0, o0 + k, none⟩ = some (.int .i64 (zs.getD k 0)) := by
            rw [← hc k (by omega)]
            exact HBW.out.cell (p := ⟨b0, o0 + k, none⟩) hb0
          have hl := HZ.out.1
          have hm : zs.getD k 0 ∈ zs := by rw [List.getD_eq_getElem?_getD, List.getElem?_eq_getElem (by omega)]; exact List.getElem_mem _
          have hy0 := (isMoney_iff _).1 ((List.all_eq_true.1 H3.out) _ hm)
          have HNX : Hid (¬ zs.getD k 0 < 0 → hasNeg (zs.take (k + 1)) = false) := hasNeg_take zs k (by omega) HK.out
          have HNY : Hid (zs.getD k 0 < 0 → hasNeg zs = true) := fun h => hasNeg_of hm h
          have HX := Lib.hid (take_map_succ zs k (by omega))
          clear hc hl hm
          generalize zs.getD k 0 = y at *
          by_cases hy : y < 0
          · have HE := Lib.hid (spE_of (chkE_has (T := T) (HNY.out hy)) (by omega))
            clear HK HX HNX HNY
            go_wp2
            exact bodyPost_ret (v := .tuple #[.slice none 0 0, .int .i64 3]) (by simp [results, Try.results12, go_sem]) rfl (refSplitNo 3 HE.out (by omega) HBW.out)
          · have HY := Lib.hid (HNX.out hy)
            have C := fun w => of_any y w (by omega)
            obtain ⟨y1, y2⟩ := hy0
            clear HNX HNY
            go_wp2_with (first
              | (go_at_call 19; ((with_reducible refine (C _).mono ?_); rintro e w2 ⟨rfl, hg2⟩; have HG2 := Lib.hid hg2; clear hg2))
              | (at_builtin; refine wpList_append_wide rfl _ _ rfl w.heap.size _ k _ rfl ((own_keep HO.out HG2.out).alloc _) w2.heap.size 1 y rfl (by simp) (by simp) (by omega) (Nat.le_trans HBW.out.size (Nat.le_trans HG2.out.size (by simp))) ?_; intro v' w' hv hb'; have HV := Lib.hid hv; have HB' := Lib.hid hb'; clear hv hb'))
            go_roundw
            case rel =>
              refine ⟨k + 1, by omega, by go_num, HY, ?_, ?_⟩
              · have := HV.out
                rw [HX.out] at this; exact this
              · exact ((HBW.out.trans (HG2.out.mono HBW.out.size)).alloc (Nat.le_trans HBW.out.size HG2.out.size) _).trans HB'.out
            case measure => simp [intOf]; omega
        · obtain rfl : k = n := by omega
          have ht : zs.take k = zs := List.take_of_length_le (by have := HZ.out.1; omega)
          have hno : hasNeg zs = false := by
            have := HK.out
            rwa [ht] at this
          have hl := HZ.out.1
          have HOZ := Lib.hid (ht ▸ HO.out)
          clear HO HK
          by_cases h5 : k ≤ 1024
          · have he := chkE_ok (by have := H1.out; omega) H2.out H3.out hno (by omega)
            have HE := Lib.hid he
            obtain ⟨t1, t2, t3, t4, t5⟩ := chk_ok he
            obtain ⟨A3, c3, rfl, hW⟩ := wides_of_own HOZ.out
            have hzb : ∀ z ∈ zs, -9223372036854775808 ≤ z ∧ z ≤ 9223372036854775807 := fun z hz => by have := (isMoney_iff _).1 ((List.all_eq_true.1 t4) z hz); omega
            have hs := sum_wide zs hzb (by omega)
            have C := refSum_any A3 k c3 zs wr hW (fun x hx => by have := hzb x hx; rw [isWide_iff]; omega) (by omega)
            rw [wsV, if_pos hs, hs] at C
            have hs0 := sum_nonneg t3
            have HT3 := Lib.hid t3
            have HT4 := Lib.hid t4
            have HWS := Lib.hid hs
            have HS0 := Lib.hid hs0
            have hsum2 := (sumTo_bd zs zs.length t3 t4 (by omega)).2
            have es : sumTo zs zs.length = zs.sum := by unfold sumTo; rw [List.take_length]
            rw [es] at hsum2
            have z1 : hi64 zs.sum = 0 ∧ lo64 zs.sum = 0 ↔ zs.sum = 0 := by
              have := w_eq zs.sum
              constructor
              · rintro ⟨a, b⟩; rw [a, b] at this; omega
              · intro h; rw [h]; decide
            have Z1 := Lib.hid z1
            have OW : Hid (∀ w : World, Own2 (w.alloc (.cells #[.int .i64 (hi64 zs.sum), .int .u64 (lo64 zs.sum)] 38)) w.heap.size (.int .i64 (hi64 zs.sum)) (.int .u64 (lo64 zs.sum))) := fun w => Own2.new w _ _ _ _ rfl
            have CDH : Hid (∀ a : Int, 0 ≤ a → isWide a = true → 0 < zs.sum → a / zs.sum ≤ 4611686018427387904 → ∀ w, Calls Try.prog 30 #[.agg #[.int .i64 (hi64 a), .int .u64 (lo64 a)], .agg #[.int .i64 (hi64 zs.sum), .int .u64 (lo64 zs.sum)]] w fun e w' => e = .returned (.tuple #[.int .i64 (a / zs.sum), .agg #[.int .i64 (hi64 (a % zs.sum)), .int .u64 (lo64 (a % zs.sum))]]) ∧ Grew w w') :=
              fun a h1 h2 h3 h4 w => divide_any a zs.sum w h1 h2 h3 hs h4
            clear ht HOZ hW hs hlt he hzb t3 t4 t5 hs0 H1 H2 H3 es z1 hno
            generalize hA1 : hi64 zs.sum = sh at *
            generalize hA2 : lo64 zs.sum = sl at *
            clear hA1 hA2
            have hmI := fun w => run_ints w k (by omega)
            have hmX := fun w => run_wides w k (by omega)
            have hmB := fun w => run_bools w k (by omega)
            go_upto_region 13 with (first
              | (go_at_call 20; ((with_reducible refine C.mono ?_); rintro e w2 ⟨rfl, hg2⟩; have HG2 := Lib.hid hg2; clear hg2)))
            go_cut [9, 63] (fun s9 s63 wx => s63 = .bool (decide (zs.sum = 0)) ∧ w2.alloc (.cells #[.int .i64 sh, .int .u64 sl] 38) = wx)
            case first => as_aux_lemma =>
              by_cases c1 : zs.sum = 0
              · obtain ⟨rfl, rfl⟩ := Z1.out.2 c1
                have F : decide (zs.sum = 0) = true := decide_eq_true c1
                have FH := Lib.hid F
                clear c1 F
                go_wp2_with fail
                go_meet
                case rel => exact ⟨by rw [FH.out], rfl⟩
              · have F : decide (zs.sum = 0) = false := decide_eq_false c1
                have FH := Lib.hid F
                have C1H := Lib.hid c1
                clear c1 F
                by_cases c2 : sh = 0
                · subst c2
                  have c3 : (sl == 0) = false := by
                    rw [beq_eq_false_iff_ne]; intro e; exact C1H.out (Z1.out.1 ⟨rfl, e⟩)
                  go_wp2_with fail
                  go_meet
                  case rel => exact ⟨by rw [FH.out], rfl⟩
                · have c3 : (sh == 0) = false := by rw [beq_eq_false_iff_ne]; exact c2
                  go_wp2_with fail
                  go_meet
                  case rel => exact ⟨by rw [FH.out], rfl⟩
            case rest =>
              obtain ⟨rfl, rfl⟩ := hcut
              have HG3 : Hid (Grew w (w2.alloc (.cells #[.int .i64 sh, .int .u64 sl] 38))) := grew_al (grew_trans HBW.out HG2.out) _
              clear C
              by_cases hq : zs.sum = 0
              · have F : decide (zs.sum = 0) = true := decide_eq_true hq
                have HQ := Lib.hid hq
                rw [F]
                clear F hq
                by_cases hT : T = 0
                · have HSE := Lib.hid (spE_zero HE.out (Or.inr hT))
                  have HTH := Lib.hid hT
                  subst hT
                  have HSZ := Lib.hid (split_zero HQ.out HE.out)
                  go_wp2_with fail
                  exact bodyPost_ret (v := .tuple #[.slice (some ⟨_, 0, none⟩) k k, .int .i64 0]) (by simp [results, Try.results12, go_sem]; rfl) rfl ⟨_, k, k, _, by rw [HSE.out]; simp, (RowI.made _ 3 k).ints, by have := HSZ.out; rw [hl] at this; exact this, h5, grew_al HG3.out _⟩
                · have d1 : (T != 0) = true := by simpa using hT
                  have HSE := Lib.hid (spE_two HE.out HQ.out hT)
                  clear hT
                  go_wp2_with fail
                  exact bodyPost_ret (v := .tuple #[.slice none 0 0, .int .i64 2]) (by simp [results, Try.results12, go_sem]) rfl (refSplitNo 2 HSE.out (by omega) HG3.out)
              · have F : decide (zs.sum = 0) = false := decide_eq_false hq
                have hspos : 0 < zs.sum := by have := HS0.out; omega
                have HSP := Lib.hid hspos
                rw [F]
                have HO0 := Lib.hid (OW.out w2)
                have HN0 : Hid (w.heap.size ≤ w2.heap.size) := (grew_trans HBW.out HG2.out).size
                clear F hq hspos OW Z1 HG2 HBW
                generalize hw3 : w2.alloc (.cells #[.int .i64 sh, .int .u64 sl] 38) = w3 at *
                clear hw3
                generalize w2.heap.size = Wb at *
                go_wp2_with fail
                have HR : Hid (RowI ((w3.alloc (.cells (madeCells #[.int .i64 0] k) 3)).alloc (.cells (madeCells #[.int .i64 0, .int .u64 0] (k * 2)) 38)) w3.heap.size k (fun j => if j < 0 then qs T zs j else 0)) := ((RowI.made w3 3 k).keep (grew_al (grew_refl _) _)).congr (fun k _ => by rw [if_neg (by omega)])
                have HX : Hid (RowX ((w3.alloc (.cells (madeCells #[.int .i64 0] k) 3)).alloc (.cells (madeCells #[.int .i64 0, .int .u64 0] (k * 2)) 38)) (w3.heap.size + 1) k (fun j => if j < 0 then rs T zs j else 0)) := by
                  have := RowX.made (w3.alloc (.cells (madeCells #[.int .i64 0] k) 3)) 38 k
                  simp only [World.size_alloc] at this
                  exact this.congr (fun k _ => by rw [if_neg (by omega)])
                have HO : Hid (Own2 ((w3.alloc (.cells (madeCells #[.int .i64 0] k) 3)).alloc (.cells (madeCells #[.int .i64 0, .int .u64 0] (k * 2)) 38)) Wb (.int .i64 sh) (.int .u64 sl)) := HO0.out.keep (grew_al (grew_al (grew_refl _) _) _)
                have HG : Hid (Grew w ((w3.alloc (.cells (madeCells #[.int .i64 0] k) 3)).alloc (.cells (madeCells #[.int .i64 0, .int .u64 0] (k * 2)) 38))) := grew_al (grew_al HG3.out _) _
                have HWP : Wb < w3.heap.size := HO0.out.lt
                have HNP : w.heap.size ≤ w3.heap.size := HG3.out.size
                generalize (w3.alloc (.cells (madeCells #[.int .i64 0] k) 3)).alloc (.cells (madeCells #[.int .i64 0, .int .u64 0] (k * 2)) 38) = w4 at HR HX HO HG ⊢
                generalize w3.heap.size = P at *
                clear hmI hmX HO0 HG3 HN0
                have HLE := Lib.hid hl
                clear hl
                go_loopw [13, 12] (fun vi v12 wr => ∃ i : Nat, vi = .int .i64 i ∧ i ≤ k ∧ v12 = .int .i64 (T - sm (qs T zs) i) ∧ Hid (RowI wr P k (fun j => if j < i then qs T zs j else 0)) ∧ Hid (RowX wr (P + 1) k (fun j => if j < i then rs T zs j else 0)) ∧ Hid (Own2 wr Wb (.int .i64 sh) (.int .u64 sl)) ∧ Hid (Grew w wr)) (fun vi _ _ => k - (intOf vi).toNat)
                case atStart => exact ⟨0, rfl, Nat.zero_le _, by simp [sm], HR, HX, HO, HG⟩
                case round =>
                  clear HR HX HO HG
                  obtain ⟨i, rfl, hi, rfl, HR, HX, HO, HG⟩ := hrel
                  by_cases hlt : i < k
                  · obtain ⟨b, o, rfl, hb, hc⟩ := (HZ.out.keep HG.out).2 (by omega)
                    have hcell : wr.cell? ⟨b, o + i, none⟩ = some (.int .i64 (wt zs i)) := hc i hlt
                    have hm : zs.getD i 0 ∈ zs := by rw [List.getD_eq_getElem?_getD, List.getElem?_eq_getElem (by have := HLE.out; omega)]; exact List.getElem_mem _
                    have y1 : 0 ≤ wt zs i := HT3.out _ hm
                    have y2 : wt zs i ≤ 4611686018427387904 := ((isMoney_iff _).1 ((List.all_eq_true.1 HT4.out) _ hm)).2
                    have hz0 : zs.sum = 0 → T = 0 := fun h => by have := HSP.out; omega
                    have l0 := lf_mid t1 HT3.out hz0 i (by have := HLE.out; omega)
                    have l1 := lf_mid t1 HT3.out hz0 (i + 1) (by have := HLE.out; omega)
                    have HSM : Hid (sm (qs T zs) (i + 1) = sm (qs T zs) i + qs T zs i) := rfl
                    have q0 := qs_nonneg t1 HT3.out i
                    have q1 := qs_le t1 HT3.out i
                    have CT := fun w => refTimes_any T (wt zs i) w (by omega) (by omega)
                    have hp : 0 ≤ T * wt zs i ∧ T * wt zs i ≤ 4611686018427387904 * 4611686018427387904 := ⟨Int.mul_nonneg t1 y1, Int.mul_le_mul t2 y2 y1 (by omega)⟩
                    have CD := fun w => CDH.out (T * wt zs i) hp.1 (by rw [isWide_iff]; omega) HSP.out (by exact Int.le_trans q1 t2) w
                    have HQS : T * wt zs i / zs.sum = qs T zs i := rfl
                    have HRS : T * wt zs i % zs.sum = rs T zs i := rfl
                    rw [HQS, HRS] at CD
                    rw [HSM.out] at l1
                    have HR2 : ∀ w' : World, Grew wr w' → Hid (RowI (w'.setCell ⟨P, i, none⟩ (.int .i64 (qs T zs i))) P k (fun j => if j < i + 1 then qs T zs j else 0)) := fun w' g => ((HR.out.keep g).set i (qs T zs i)).congr (fun j _ => by
                      by_cases c1 : j = i
                      · rw [if_pos c1, if_pos (by omega), c1]
                      · rw [if_neg c1]
                        by_cases c2 : j < i
                        · rw [if_pos c2, if_pos (by omega)]
                        · rw [if_neg c2, if_neg (by omega)])
                    have HX2 : ∀ w' : World, RowX w' (P + 1) k (fun j => if j < i then rs T zs j else 0) → Hid (RowX ((w'.setCell ⟨P + 1, i * 2, none⟩ (.int .i64 (hi64 (rs T zs i)))).setCell ⟨P + 1, i * 2 + 1, none⟩ (.int .u64 (lo64 (rs T zs i)))) (P + 1) k (fun j => if j < i + 1 then rs T zs j else 0)) := fun w' h => (h.set i (rs T zs i)).congr (fun j _ => by
                      by_cases c1 : j = i
                      · rw [if_pos c1, if_pos (by omega), c1]
                      · rw [if_neg c1]
                        by_cases c2 : j < i
                        · rw [if_pos c2, if_pos (by omega)]
                        · rw [if_neg c2, if_neg (by omega)])
                    have HR2H := Lib.hid HR2
                    have HX2H := Lib.hid HX2
                    have p1 := HO.out.c0
                    have p2 := HO.out.c1
                    clear HR2 HX2 hc hm hp hz0 HQS HRS CDH
                    generalize hi64 (T * wt zs i) = th at *
                    generalize lo64 (T * wt zs i) = tl at *
                    generalize wt zs i = y at *
                    generalize hqe : qs T zs i = q at *
                    have HQE := Lib.hid hqe
                    clear hqe
                    generalize hi64 (rs T zs i) = rh at *
                    generalize lo64 (rs T zs i) = rl at *
                    obtain ⟨l2, l3⟩ := l0
                    obtain ⟨l4, l5⟩ := l1
                    go_wp2_with fail
                    go_region_with (first
                      | (go_at_call 23; ((with_reducible refine (CT _).mono ?_); rintro e w5 ⟨rfl, hg5⟩; have k0 := HO.out.keep (grew_trans (grew_drew (grew_refl _)) hg5); have p1' := k0.c0; have p2' := k0.c1))
                      | (go_at_call 30; ((with_reducible refine (CD _).mono ?_); rintro e w6 ⟨rfl, hg6⟩; have HG6 := Lib.hid (grew_trans (grew_trans (grew_drew (grew_refl _)) hg5) hg6); have a1 := ((HR.out.keep HG6.out).2 i hlt).1; have a2 := ((HR.out.keep HG6.out).2 i hlt).2; obtain ⟨a3, a4, a5, a6⟩ := (HX.out.keep HG6.out).2 i hlt)))
                    all_goals
                      have R1 := HR2H.out _ HG6.out
                      have R2 : Hid (RowI (((w6.setCell ⟨P, i, none⟩ (.int .i64 q)).setCell ⟨P + 1, i * 2, none⟩ (.int .i64 rh)).setCell ⟨P + 1, i * 2 + 1, none⟩ (.int .u64 rl)) P k (fun j => if j < i + 1 then qs T zs j else 0)) := (R1.out.other _ _ (by simp)).other _ _ (by simp)
                      have X2 : Hid (RowX (((w6.setCell ⟨P, i, none⟩ (.int .i64 q)).setCell ⟨P + 1, i * 2, none⟩ (.int .i64 rh)).setCell ⟨P + 1, i * 2 + 1, none⟩ (.int .u64 rl)) (P + 1) k (fun j => if j < i + 1 then rs T zs j else 0)) := HX2H.out _ ((HX.out.keep HG6.out).other _ _ (by simp))
                      have O2 : Hid (Own2 (((w6.setCell ⟨P, i, none⟩ (.int .i64 q)).setCell ⟨P + 1, i * 2, none⟩ (.int .i64 rh)).setCell ⟨P + 1, i * 2 + 1, none⟩ (.int .u64 rl)) Wb (.int .i64 sh) (.int .u64 sl)) := (((HO.out.keep HG6.out).other _ _ (by show P ≠ Wb; omega)).other _ _ (by show P + 1 ≠ Wb; omega)).other _ _ (by show P + 1 ≠ Wb; omega)
                      have G2 : Hid (Grew w (((w6.setCell ⟨P, i, none⟩ (.int .i64 q)).setCell ⟨P + 1, i * 2, none⟩ (.int .i64 rh)).setCell ⟨P + 1, i * 2 + 1, none⟩ (.int .u64 rl))) := grew_set (grew_set (grew_set (grew_trans HG.out HG6.out) _ (by exact HNP)) _ (by show _ ≤ P + 1; omega)) _ (by show _ ≤ P + 1; omega)
                      have b1 := (R2.out.2 i hlt).1
                      simp only [if_pos (Nat.lt_succ_self i)] at b1
                      have b2 : qs T zs i = q := HQE.out
                      rw [b2] at b1
                      clear p1 p2 p1' p2' k0 a1 a2 a3 a4 a5 a6 R1 HR2H HX2H hg5 hg6 CT CD b2 hcell
                      generalize ((w6.setCell ⟨P, i, none⟩ (.int .i64 q)).setCell ⟨P + 1, i * 2, none⟩ (.int .i64 rh)).setCell ⟨P + 1, i * 2 + 1, none⟩ (.int .u64 rl) = w7 at R2 X2 O2 G2 b1 ⊢
                      go_wp2
                      go_roundw
                      case rel => exact ⟨i + 1, by go_num, by omega, by rw [HSM.out]; congr 1; omega, R2, X2, O2, G2⟩
                      case measure => simp only [intOf]; omega
                  · obtain rfl : i = k := by omega
                    have hHI := HLE.out
                    have hz0 : zs.sum = 0 → T = 0 := fun h => by have := HSP.out; omega
                    have hlf : T - sm (qs T zs) i = lf T zs := by unfold lf; rw [hHI]
                    have hb := lf_bd HT3.out hz0
                    have hSO : SplitOK T zs := ⟨HE.out, hz0⟩
                    obtain ⟨s, t, P0⟩ := hP hSO
                    rw [hHI] at P0 hb
                    have HPl := Lib.hid P0
                    have hlt2 : ∀ j, j < i → 0 ≤ lf T zs := fun _ _ => hb.1
                    obtain ⟨L, hL⟩ : ∃ L : Nat, lf T zs = (L : Int) := ⟨(lf T zs).toNat, by omega⟩
                    have HLF := Lib.hid hL
                    rw [hlf, hL]
                    have hLi : L ≤ i := by omega
                    have HR0 : Hid (RowI wr P i (pk T zs t 0)) := HR.out.congr (fun j hj => by rw [if_pos hj]; unfold pk; rw [if_neg (by omega)]; omega)
                    have HX0 : Hid (RowX wr (P + 1) i (rs T zs)) := HX.out.congr (fun j hj => by rw [if_pos hj])
                    have HQS0 : Hid (∀ j, j < i → 0 ≤ qs T zs j ∧ qs T zs j ≤ T) := fun j _ => ⟨qs_nonneg t1 HT3.out j, qs_le t1 HT3.out j⟩
                    have hmB := fun w => run_bools w i (by omega)
                    have hPW : P + 1 < wr.heap.size := HX.out.1
                    have CL := fun (x y : Int) w => refLess_any x y w
                    clear hlf hb hz0 hL P0 hSO HR HX HO CDH hlt2 hlt
                    go_wp2_with fail
                    have HB1 : Hid (RowB (wr.alloc (.cells (madeCells #[.bool false] i) 4)) wr.heap.size i (fun j => decide (t j < 0))) := (RowB.made wr 4 i).congr (fun j _ => by simp)
                    have HR1 := Lib.hid (HR0.out.keep (grew_al (grew_refl _) (.cells (madeCells #[.bool false] i) 4)))
                    have HX1 := Lib.hid (HX0.out.keep (grew_al (grew_refl _) (.cells (madeCells #[.bool false] i) 4)))
                    have HG1 := Lib.hid (grew_al HG.out (.cells (madeCells #[.bool false] i) 4))
                    generalize wr.alloc (.cells (madeCells #[.bool false] i) 4) = w4' at HB1 HR1 HX1 HG1 ⊢
                    generalize wr.heap.size = Q at *
                    clear hmB HR0 HX0 HG
                    go_loopw [12, 15, 16] (fun v12 _ _ wr => ∃ c : Nat, v12 = .int .i64 ((L : Int) - c) ∧ c ≤ L ∧ Hid (RowI wr P i (pk T zs t c)) ∧ Hid (RowX wr (P + 1) i (rs T zs)) ∧ Hid (RowB wr Q i (fun j => decide (t j < c))) ∧ Hid (Grew w wr)) (fun v12 _ _ _ => (intOf v12).toNat)
                    case atStart => exact ⟨0, by simp, Nat.zero_le _, HR1, HX1, HB1, HG1⟩
                    case round =>
                      clear HR1 HX1 HB1 HG1
                      obtain ⟨c, rfl, hc, HR, HX, HB, HG⟩ := hrel
                      by_cases hcl : c < L
                      · have hd : decide ((L : Int) - c > 0) = true := decide_eq_true (by omega)
                        go_wp2_with fail
                        go_loopw [15, 16] (fun v15 v16 wr => ∃ (j : Nat) (b : Int), v16 = .int .i64 j ∧ j ≤ i ∧ v15 = .int .i64 b ∧ -1 ≤ b ∧ b < j ∧ Hid ((b = -1 ∧ ∀ x, x < j → t x < c) ∨ (∃ x0 : Nat, b = x0 ∧ c ≤ t x0 ∧ ∀ x, x < j → c ≤ t x → t x0 ≤ t x)) ∧ Hid (RowI wr P i (pk T zs t c)) ∧ Hid (RowX wr (P + 1) i (rs T zs)) ∧ Hid (RowB wr Q i (fun j => decide (t j < c))) ∧ Hid (Grew w wr)) (fun _ v16 _ => i - (intOf v16).toNat)
                        case atStart => exact ⟨0, -1, rfl, Nat.zero_le _, rfl, by omega, by omega, Or.inl ⟨rfl, fun x hx => by omega⟩, HR, HX, HB, HG⟩
                        case round =>
                          clear HR HX HB HG
                          obtain ⟨j, b, rfl, hj, rfl, hb1, hb2, HJ, HR, HX, HB, HG⟩ := hrel
                          by_cases hji : j < i
                          · have gB : ∀ p : GrewTo wr, p.to.cell? ⟨Q, j, none⟩ = some (.bool (decide (t j < c))) := fun p => ((HB.out.keep p.h).2 j hji).1
                            have gX : ∀ (x : Nat), x < i → ∀ p : GrewTo wr, p.to.cell? ⟨P + 1, x * 2, none⟩ = some (.int .i64 (hi64 (rs T zs x))) ∧ p.to.cell? ⟨P + 1, x * 2 + 1, none⟩ = some (.int .u64 (lo64 (rs T zs x))) := fun x hx p => ⟨((HX.out.keep p.h).2 x hx).1, ((HX.out.keep p.h).2 x hx).2.1⟩
                            have GX := Lib.hid gX
                            have CLH := Lib.hid CL
                            have hji2 : (j : Int) < (i : Int) := by omega
                            clear gX CL
                            by_cases g1 : t j < c
                            · rw [decide_eq_true g1] at gB
                              have HJ2 : Hid ((b = -1 ∧ ∀ x, x < j + 1 → t x < c) ∨ (∃ x0 : Nat, b = x0 ∧ c ≤ t x0 ∧ ∀ x, x < j + 1 → c ≤ t x → t x0 ≤ t x)) := by
                                rcases HJ.out with ⟨e, h⟩ | ⟨x0, e, h1, h2⟩
                                · exact Or.inl ⟨e, fun x hx => by rcases Nat.lt_succ_iff_lt_or_eq.1 hx with q | q; exact h x q; rw [q]; exact g1⟩
                                · exact Or.inr ⟨x0, e, h1, fun x hx hcx => by rcases Nat.lt_succ_iff_lt_or_eq.1 hx with q | q; exact h2 x q hcx; rw [q] at hcx; omega⟩
                              clear HJ
                              go_wp2_with fail
                              refine wp_region_grew (by kernel_rfl) (by kernel_rfl) ?_
                              repeat (go_big_quiet_step (fail))
                              refine wpQuiet_nil ?_
                              intro w8 hw'
                              have hg := Lib.hid (grew_of hw')
                              clear hw' gB
                              go_wp2
                              go_roundw
                              case rel => exact ⟨j + 1, b, by go_num, by omega, rfl, hb1, by omega, HJ2, HR.out.keep hg.out, HX.out.keep hg.out, HB.out.keep hg.out, grew_trans HG.out hg.out⟩
                              case measure => simp only [intOf]; omega
                            · rw [decide_eq_false g1] at gB
                              by_cases g2 : b < 0
                              · have d2 : decide (b < 0) = true := decide_eq_true g2
                                have HJ2 : Hid ((((j : Nat) : Int) = -1 ∧ ∀ x, x < j + 1 → t x < c) ∨ (∃ x0 : Nat, (j : Int) = x0 ∧ c ≤ t x0 ∧ ∀ x, x < j + 1 → c ≤ t x → t x0 ≤ t x)) := by
                                  rcases HJ.out with ⟨e, h⟩ | ⟨x0, e, h1, h2⟩
                                  · exact Or.inr ⟨j, rfl, by omega, fun x hx hcx => by rcases Nat.lt_succ_iff_lt_or_eq.1 hx with q | q; have := h x q; omega; rw [q]; omega⟩
                                  · omega
                                clear HJ
                                go_wp2_with fail
                                refine wp_region_grew (by kernel_rfl) (by kernel_rfl) ?_
                                repeat (go_big_quiet_step (fail))
                                refine wpQuiet_nil ?_
                                intro w8 hw'
                                have hg := Lib.hid (grew_of hw')
                                clear hw' gB
                                go_wp2
                                go_roundw
                                case rel => exact ⟨j + 1, j, by go_num, by omega, rfl, by omega, by omega, HJ2, HR.out.keep hg.out, HX.out.keep hg.out, HB.out.keep hg.out, grew_trans HG.out hg.out⟩
                                case measure => simp only [intOf]; omega
                              · obtain ⟨x0, rfl, h1, h2⟩ : ∃ x0 : Nat, b = x0 ∧ c ≤ t x0 ∧ ∀ x, x < j → c ≤ t x → t x0 ≤ t x := by
                                  rcases HJ.out with ⟨e, h⟩ | h
                                  · omega
                                  · exact h
                                have d2 : decide ((x0 : Int) < 0) = false := decide_eq_false g2
                                have x1 := fun p => (GX.out x0 (by omega) p).1
                                have x2 := fun p => (GX.out x0 (by omega) p).2
                                have y1' := fun p => (GX.out j (by omega) p).1
                                have y2' := fun p => (GX.out j (by omega) p).2
                                have q1 : (x0 : Int) < (i : Int) := by omega
                                have hA1 := HPl.out.ahead (x := j) (y := x0) (by omega) (by omega)
                                have hA2 := HPl.out.ahead (x := x0) (y := j) (by omega) (by omega)
                                have H2 := Lib.hid h2
                                clear h2 HJ
                                by_cases g3 : rs T zs x0 < rs T zs j
                                · have hAA := hA1.2 (Or.inl g3)
                                  have CL3 : ∀ w, Calls Try.prog 22 #[.agg #[.int .i64 (hi64 (rs T zs x0)), .int .u64 (lo64 (rs T zs x0))], .agg #[.int .i64 (hi64 (rs T zs j)), .int .u64 (lo64 (rs T zs j))]] w fun e w' => e = .returned (.bool true) ∧ Grew w w' := fun w => by
                                    have := CLH.out (rs T zs x0) (rs T zs j) w
                                    rwa [decide_eq_true g3] at this
                                  have HJ2 : Hid ((((j : Nat) : Int) = -1 ∧ ∀ x, x < j + 1 → t x < c) ∨ (∃ x0 : Nat, (j : Int) = x0 ∧ c ≤ t x0 ∧ ∀ x, x < j + 1 → c ≤ t x → t x0 ≤ t x)) :=
                                    Or.inr ⟨j, rfl, by omega, fun x hx hcx => by rcases Nat.lt_succ_iff_lt_or_eq.1 hx with q | q; have := H2.out x q hcx; omega; rw [q]; omega⟩
                                  clear hA1 hA2 g3 hAA
                                  generalize hi64 (rs T zs x0) = r1 at *
                                  generalize lo64 (rs T zs x0) = r2 at *
                                  generalize hi64 (rs T zs j) = r3 at *
                                  generalize lo64 (rs T zs j) = r4 at *
                                  go_wp2_with fail
                                  refine wp_region_grew (by kernel_rfl) (by kernel_rfl) ?_
                                  repeat (go_big_quiet_step (exact calls_grew (CL3 _)))
                                  refine wpQuiet_nil ?_
                                  intro w8 hw'
                                  have hg := Lib.hid (grew_of hw')
                                  clear hw' gB x1 x2 y1' y2'
                                  go_wp2
                                  go_roundw
                                  case rel => exact ⟨j + 1, j, by go_num, by omega, rfl, by omega, by omega, HJ2, HR.out.keep hg.out, HX.out.keep hg.out, HB.out.keep hg.out, grew_trans HG.out hg.out⟩
                                  case measure => simp only [intOf]; omega
                                · have hAA := hA2.2 (by unfold Ah; omega)
                                  have CL3 : ∀ w, Calls Try.prog 22 #[.agg #[.int .i64 (hi64 (rs T zs x0)), .int .u64 (lo64 (rs T zs x0))], .agg #[.int .i64 (hi64 (rs T zs j)), .int .u64 (lo64 (rs T zs j))]] w fun e w' => e = .returned (.bool false) ∧ Grew w w' := fun w => by
                                    have := CLH.out (rs T zs x0) (rs T zs j) w
                                    rwa [decide_eq_false g3] at this
                                  have HJ2 : Hid ((((x0 : Nat) : Int) = -1 ∧ ∀ x, x < j + 1 → t x < c) ∨ (∃ x1 : Nat, (x0 : Int) = x1 ∧ c ≤ t x1 ∧ ∀ x, x < j + 1 → c ≤ t x → t x1 ≤ t x)) :=
                                    Or.inr ⟨x0, rfl, h1, fun x hx hcx => by rcases Nat.lt_succ_iff_lt_or_eq.1 hx with q | q; exact H2.out x q hcx; rw [q]; omega⟩
                                  clear hA1 hA2 g3 hAA
                                  generalize hi64 (rs T zs x0) = r1 at *
                                  generalize lo64 (rs T zs x0) = r2 at *
                                  generalize hi64 (rs T zs j) = r3 at *
                                  generalize lo64 (rs T zs j) = r4 at *
                                  go_wp2_with fail
                                  refine wp_region_grew (by kernel_rfl) (by kernel_rfl) ?_
                                  repeat (go_big_quiet_step (exact calls_grew (CL3 _)))
                                  refine wpQuiet_nil ?_
                                  intro w8 hw'
                                  have hg := Lib.hid (grew_of hw')
                                  clear hw' gB x1 x2 y1' y2'
                                  go_wp2
                                  go_roundw
                                  case rel => exact ⟨j + 1, x0, by go_num, by omega, rfl, by omega, by omega, HJ2, HR.out.keep hg.out, HX.out.keep hg.out, HB.out.keep hg.out, grew_trans HG.out hg.out⟩
                                  case measure => simp only [intOf]; omega
                          · obtain rfl : j = i := by omega
                            obtain ⟨x0, rfl, e0⟩ : ∃ x0 : Nat, b = x0 ∧ t x0 = c := by
                              have u1 := HPl.out.lt_s (k := c) (by omega)
                              have u2 := HPl.out.ts c
                              rcases HJ.out with ⟨e, h⟩ | ⟨x0, e, h1, h2⟩
                              · have := h _ u1; omega
                              · have := h2 _ u1 (by omega); exact ⟨x0, e, by omega⟩
                            have hsc : s c = x0 := by rw [← e0]; exact HPl.out.st x0
                            have hne : ∀ x, x ≠ x0 → t x ≠ c := fun x hx e => hx (by rw [← hsc, ← e]; exact (HPl.out.st x).symm)
                            have hx0 : x0 < j := by omega
                            have q1 : (x0 : Int) < (j : Int) := by omega
                            have HB2 : Hid (RowB (wr.setCell ⟨Q, x0, none⟩ (.bool true)) Q j (fun x => decide (t x < c + 1))) := (HB.out.set x0 true).congr (fun x _ => by
                              by_cases g : x = x0
                              · rw [if_pos g, g, e0]; simp
                              · rw [if_neg g]; exact decide_eq_decide.2 (by have := hne x g; omega))
                            have HR2 := Lib.hid (HR.out.other ⟨Q, x0, none⟩ (.bool true) (by show Q ≠ P; omega))
                            have HX2 := Lib.hid (HX.out.other ⟨Q, x0, none⟩ (.bool true) (by show Q ≠ P + 1; omega))
                            have hpk : pk T zs t c x0 = qs T zs x0 := by unfold pk; rw [e0, if_neg (by omega)]; omega
                            have hq := HQS0.out x0 hx0
                            have HR3 : ∀ v : Int, v = qs T zs x0 + 1 → Hid (RowI ((wr.setCell ⟨Q, x0, none⟩ (.bool true)).setCell ⟨P, x0, none⟩ (.int .i64 v)) P j (pk T zs t (c + 1))) := fun v hv => (HR2.out.set x0 v).congr (fun x _ => by
                              by_cases g : x = x0
                              · rw [if_pos g, hv, g]; unfold pk; rw [e0, if_pos (by omega)]
                              · rw [if_neg g]; unfold pk; congr 1
                                have := hne x g
                                by_cases g2 : t x < c
                                · rw [if_pos g2, if_pos (by omega)]
                                · rw [if_neg g2, if_neg (by omega)])
                            have HR3H := Lib.hid HR3
                            have HX3 : ∀ v : Value, Hid (RowX ((wr.setCell ⟨Q, x0, none⟩ (.bool true)).setCell ⟨P, x0, none⟩ v) (P + 1) j (rs T zs)) := fun v => HX2.out.other _ _ (by simp)
                            have HB3 : ∀ v : Value, Hid (RowB ((wr.setCell ⟨Q, x0, none⟩ (.bool true)).setCell ⟨P, x0, none⟩ v) Q j (fun x => decide (t x < c + 1))) := fun v => HB2.out.other _ _ (by show P ≠ Q; omega)
                            have HG3' : ∀ v : Value, Hid (Grew w ((wr.setCell ⟨Q, x0, none⟩ (.bool true)).setCell ⟨P, x0, none⟩ v)) := fun v => grew_set (grew_set HG.out _ (by show _ ≤ Q; omega)) _ (by exact HNP)
                            have HX3H := Lib.hid HX3
                            have HB3H := Lib.hid HB3
                            have HG3H := Lib.hid HG3'
                            have m1 := (HB.out.2 x0 hx0).1
                            have m2 := (HB.out.2 x0 hx0).2
                            have m3 := (HR2.out.2 x0 hx0).1
                            have m4 := (HR2.out.2 x0 hx0).2
                            have m5 := (HR.out.2 x0 hx0).1
                            have m6 := (HR.out.2 x0 hx0).2
                            rw [hpk] at m3 m5
                            clear HR3 HX3 HB3 HG3' hpk hne hsc HJ CL
                            generalize qs T zs x0 = q at *
                            obtain ⟨hq1, hq2⟩ := hq
                            go_wp2
                            go_roundw
                            case rel => exact ⟨c + 1, by congr 1; omega, by omega, HR3H.out _ rfl, HX3H.out _, HB3H.out _, HG3H.out _⟩
                            case measure => simp only [intOf]; omega
                      · obtain rfl : c = L := by omega
                        have hd : decide ((c : Int) - c > 0) = false := decide_eq_false (by omega)
                        have HSE := Lib.hid (spE_zero HE.out (Or.inl (by have := HSP.out; omega)))
                        have HRF : Hid (RowI wr P i (pt T zs t)) := HR.out.congr (fun x _ => by
                          unfold pk pt
                          rw [HLF.out]
                          congr 1
                          by_cases g : t x < c
                          · rw [if_pos g, if_pos (by omega)]
                          · rw [if_neg g, if_neg (by omega)])
                        go_wp2_with fail
                        exact bodyPost_ret (v := .tuple #[.slice (some ⟨P, 0, none⟩) i i, .int .i64 0]) (by simp [results, Try.results12, go_sem]) rfl ⟨_, i, i, _, by rw [HSE.out], HRF.out.ints, ⟨fun g => absurd HSE.out g, fun _ => ⟨⟨HE.out, fun h => by have := HSP.out; omega⟩, s, t, by rw [hHI]; exact HPl.out, by rw [hHI]⟩⟩, h5, HG.out⟩
          · have HE := Lib.hid (spE_of (chkE_long (by have := H1.out; omega) H2.out H3.out hno (by omega)) (by omega))
            clear hno hl
            go_wp2
            exact bodyPost_ret (v := .tuple #[.slice none 0 0, .int .i64 5]) (by simp [results, Try.results12, go_sem]) rfl (refSplitNo 5 HE.out (by omega) HBW.out)
    · simp only [Bool.not_eq_true] at h3
      rw [h3] at CA
      have HE := Lib.hid (spE_of (chkE_all (T := T) h3) (by omega))
      clear h3
      go_enter Try.func12, Try.ntmps12
      go_wp2_with (first
        | (go_at_call 28; ((with_reducible refine CR.mono ?_); rintro e w1 ⟨rfl, rfl⟩))
        | (go_at_call 29; ((with_reducible refine CA.mono ?_); rintro e w1 ⟨rfl, rfl⟩)))
      exact bodyPost_ret (v := .tuple #[.slice none 0 0, .int .i64 3]) (by simp [results, Try.results12, go_sem]) rfl (refSplitNo 3 HE.out (by omega) (Below.refl _ _))
  · simp only [Bool.not_eq_true] at h2
    rw [h2] at CR
    have HE := Lib.hid (spE_of (chkE_right (l := zs) h2) (by omega))
    clear h2 CA
    go_enter Try.func12, Try.ntmps12
    go_wp2_with (go_at_call 28; ((with_reducible refine CR.mono ?_); rintro e w1 ⟨rfl, rfl⟩))
    exact bodyPost_ret (v := .tuple #[.slice none 0 0, .int .i64 3]) (by simp [results, Try.results12, go_sem]) rfl (refSplitNo 3 HE.out (by omega) (Below.refl _ _))
end Go.Proofs.Ytkkemmfghjgmeaa.NumK
