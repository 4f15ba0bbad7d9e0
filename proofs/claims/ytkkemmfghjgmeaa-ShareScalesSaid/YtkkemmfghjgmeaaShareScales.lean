/- The law ShareScales. -/
import Derived.Test.YtkkemmfghjgmeaaSplitGot
import Derived.Test.YtkkemmfghjgmeaaTwinInts
namespace Go.Proofs.Ytkkemmfghjgmeaa.NumK
open Go.RowKit

/-- Two splits that stand to be compared. -/
def Pair (T : Int) (l m : List Int) : Prop := spE T m = spE T l ∧ ∀ ps qs', SplitVals T l ps → SplitVals T m qs' → ps = qs'

theorem pair_scale {T : Int} {l : List Int} {k : Int} (hk : 0 < k) (hm1 : mayB T l = true) (hm2 : mayB T (l.map (· * k)) = true) : Pair T l (l.map (· * k)) := by
  have hE : spE T (l.map (· * k)) = spE T l := by
    unfold spE
    have : l.sum * k = 0 ↔ l.sum = 0 := by rw [Int.mul_eq_zero]; omega
    rw [(mayB_chk hm1).1, (mayB_chk hm2).1, sum_scale]
    simp only [this]
  exact ⟨hE, fun ps qs' h1 h2 => split_same (by simp) hE h1 h2 (fun x y _ _ => ah_scale T l k hk x y) (fun _ j _ => qs_scale T l k hk j)⟩

theorem mayB_scale {T : Int} {l : List Int} {k : Int} (hk : 0 < k) (hk2 : k ≤ 1000) (hm : mayB T l = true) (hb : ∀ x ∈ l, x ≤ 1125899906842624) : mayB T (l.map (· * k)) = true := by
  obtain ⟨m1, m2, m3, m4, m5⟩ := mayB_chk hm
  unfold mayB
  rw [(inB_iff T).2 ⟨m4, m5⟩, decide_eq_true (show (l.map (· * k)).length ≤ 200 by simpa using m2)]
  simp only [Bool.true_and, List.all_eq_true]
  intro y hy
  obtain ⟨x, hx, rfl⟩ := List.mem_map.1 hy
  have h1 := (m3 x hx).1
  have h2 := hb x hx
  have h3 : 0 ≤ x * k := Int.mul_nonneg h1 (by omega)
  have h4 : x * k ≤ 1125899906842624 * 1000 := by
    refine Int.le_trans (Int.mul_le_mul_of_nonneg_right h2 (by omega)) (Int.mul_le_mul_of_nonneg_left hk2 (by omega))
  exact (inB_iff _).2 ⟨h3, by omega⟩

theorem take_all_succ {l : List Int} {k : Nat} {b : Int} (h : k < l.length) (h1 : ∀ x ∈ l.take k, x ≤ b) (h2 : l.getD k 0 ≤ b) : ∀ x ∈ l.take (k + 1), x ≤ b := by
  intro x hx
  rw [List.take_succ_eq_append_getElem h] at hx
  simp only [List.getD, List.getElem?_eq_getElem h, Option.getD_some] at h2
  rcases List.mem_append.1 hx with h3 | h3
  · exact h1 x h3
  · simp at h3; rw [h3]; exact h2

theorem scale_row {w : World} {g n : Nat} {zs : List Int} {k : Int} {d : Nat → Int} (hl : zs.length = n) (h : RowI w g n d) (hd : ∀ j, d j = if j < n then zs.getD j 0 * k else zs.getD j 0) : Ints w (some ⟨g, 0, none⟩) n (zs.map (· * k)) := by
  have h1 := h.ints
  have e : (List.range n).map d = zs.map (· * k) := by
    refine List.ext_getElem? fun j => ?_
    rw [List.getElem?_map, List.getElem?_map]
    by_cases c : j < n
    · rw [List.getElem?_range c, List.getElem?_eq_getElem (by omega)]
      simp only [Option.map_some, hd, if_pos c]
      rw [List.getD_eq_getElem?_getD, List.getElem?_eq_getElem (by omega)]; rfl
    · rw [List.getElem?_eq_none (by simpa using c), List.getElem?_eq_none (by omega)]; rfl
  rwa [e] at h1

set_option maxRecDepth 100000 in
set_option maxHeartbeats 4000000 in
theorem shareScales_walk (T : Int) (A : Option Addr) (n c : Nat) (zs : List Int) (k : Int) (w : World) (hz : Ints w A n zs) (hA : A = none → c = 0) (hn : n ≤ 9223372036854775807) :
    Calls Try.prog 8 #[.int .i64 T, .slice A n c, .int .i64 k] w fun e w' => e = .returned (.bool true) ∧ Grew w w' := by
  have C1 := may03_any T A n c zs w hz hn
  have HZ := Lib.hid hz
  have HA := Lib.hid hA
  clear hz hA
  by_cases hm : mayB T zs = true
  · rw [hm] at C1
    by_cases k1 : k < 1
    · clear hm
      go_enter Try.func8, Try.ntmps8
      go_wp2_with (go_at_call 18; ((with_reducible refine C1.mono ?_); rintro e w1 ⟨rfl, hg1⟩; have HG1 := Lib.hid hg1; clear hg1))
      go_ret
      exact ⟨rfl, HG1.out⟩
    · by_cases k2 : 1000 < k
      · clear hm
        go_enter Try.func8, Try.ntmps8
        go_wp2_with (go_at_call 18; ((with_reducible refine C1.mono ?_); rintro e w1 ⟨rfl, hg1⟩; have HG1 := Lib.hid hg1; clear hg1))
        go_ret
        exact ⟨rfl, HG1.out⟩
      · obtain ⟨m1, m2, m3, m4, m5⟩ := mayB_chk hm
        have hl := HZ.out.1
        have hn2 : n ≤ 200 := by omega
        have HM := Lib.hid hm
        have M3 := Lib.hid m3
        have HL := Lib.hid hl
        have CT := Lib.hid (fun w' (g : Grew w w') => twinInts_any A n c zs w' (HZ.out.keep g) HA.out (by omega))
        have CW := fun w => wakes03_any w
        clear m1 m3 hl hm
        go_enter Try.func8, Try.ntmps8
        go_wp2_with (first
          | (go_at_call 18; ((with_reducible refine C1.mono ?_); rintro e w1 ⟨rfl, hg1⟩; have HG1 := Lib.hid hg1; clear hg1))
          | (go_at_call 10; ((with_reducible refine (CT.out _ HG1.out).mono ?_); rintro e w2 ⟨hg2, A2, c2, rfl, hA2, hI2, hF2⟩; have HG2 : Hid (Grew w w2) := grew_trans HG1.out hg2; have HS2 : Hid (w.heap.size ≤ w1.heap.size) := HG1.out.size; have HA2 := Lib.hid hA2; have HI2 := Lib.hid hI2; have HF2 := Lib.hid hF2; clear hA2 hI2 hF2 hg2)))
        clear C1 CT
        have HQ0 : Hid (∃ d : Nat → Int, (∀ j, d j = if j < 0 then zs.getD j 0 * k else zs.getD j 0) ∧ (A2 = none → n = 0) ∧ ∀ a, A2 = some a → ∃ g, a = ⟨g, 0, none⟩ ∧ w.heap.size ≤ g ∧ RowI w2 g n d) :=
          ⟨fun j => zs.getD j 0, fun j => by rw [if_neg (by omega)], fun h => (HA2.out h).1, fun a ha => by
            obtain ⟨g, g1, g2, g3⟩ := HF2.out a ha
            exact ⟨g, g1, Nat.le_trans HS2.out g2, g3⟩⟩
        clear HF2 HI2 HA2
        go_loopw [8] (fun vi wr => ∃ i : Nat, vi = .int .i64 i ∧ i ≤ n ∧ Hid (∀ x ∈ zs.take i, x ≤ 1125899906842624) ∧
          Hid (∃ d : Nat → Int, (∀ j, d j = if j < i then zs.getD j 0 * k else zs.getD j 0) ∧ (A2 = none → n = 0) ∧ ∀ a, A2 = some a → ∃ g, a = ⟨g, 0, none⟩ ∧ w.heap.size ≤ g ∧ RowI wr g n d) ∧ Hid (Grew w wr)) (fun vi _ => n - (intOf vi).toNat)
        case atStart => exact ⟨0, rfl, Nat.zero_le _, (fun x hx => by simp at hx), HQ0, HG2⟩
        case round =>
          clear HQ0 HG2
          obtain ⟨i, rfl, hi, HB, HQ, HG⟩ := hrel
          by_cases hlt : i < n
          · obtain ⟨d, hd, hnone, hsome⟩ := HQ.out
            clear HQ
            cases A2 with
            | none => exact absurd (hnone rfl) (by omega)
            | some a =>
              obtain ⟨g, rfl, hg, hR⟩ := hsome a rfl
              have HR := Lib.hid hR
              have HD := Lib.hid hd
              have HGB := Lib.hid hg
              have a1 := (hR.2 i hlt).1
              have a2 := (hR.2 i hlt).2
              have hdi := hd i
              rw [if_neg (by omega)] at hdi
              rw [hdi] at a1
              have a3 : (i : Int) < (n : Int) := by omega
              have hy := M3.out (zs.getD i 0) (by rw [List.getD_eq_getElem?_getD, List.getElem?_eq_getElem (by have := HL.out; omega)]; exact List.getElem_mem _)
              have HTS := Lib.hid (fun h => take_all_succ (l := zs) (k := i) (b := 1125899906842624) (by have := HL.out; omega) HB.out h)
              have HX : Hid (∀ v, v = zs.getD i 0 * k → RowI (wr.setCell ⟨g, i, none⟩ (.int .i64 v)) g n (fun j => if j < i + 1 then zs.getD j 0 * k else zs.getD j 0)) := fun v hv => (hR.set i v).congr (fun j hj => by
                by_cases c1 : j = i
                · rw [if_pos c1, if_pos (by omega), hv, c1]
                · rw [if_neg c1, hd j]
                  by_cases c2 : j < i
                  · rw [if_pos c2, if_pos (by omega)]
                  · rw [if_neg c2, if_neg (by omega)])
              have HG2 : Hid (∀ v, Grew w (wr.setCell ⟨g, i, none⟩ v)) := fun v => grew_set HG.out _ hg
              clear hnone hsome hR hd hg hdi HR
              obtain ⟨y, hyy⟩ : ∃ y, y = zs.getD i 0 := ⟨_, rfl⟩
              rw [← hyy] at a1 hy
              have HY := Lib.hid hyy
              clear hyy
              obtain ⟨y1, y2⟩ := hy
              by_cases hb : 1125899906842624 < y
              · go_wp2
                go_ret
                exact ⟨rfl, HG.out⟩
              · have hp1 : 0 ≤ y * k := Int.mul_nonneg y1 (by omega)
                have hp2 : y * k ≤ 1125899906842624 * 1000 := Int.le_trans (Int.mul_le_mul_of_nonneg_right (by omega) (by omega)) (Int.mul_le_mul_of_nonneg_left (by omega) (by omega))
                have HT2 := Lib.hid (HTS.out (by rw [← HY.out]; omega))
                obtain ⟨p, hp⟩ : ∃ p, p = y * k := ⟨_, rfl⟩
                have hw1 : IntKind.i64.wrap (y * k) = p := by rw [IntKind.wrap_i64]; omega
                have hw2 : wrap64 (y * k) = p := by unfold wrap64; omega
                have HPX := Lib.hid (HX.out p (by rw [hp, HY.out]))
                rw [← hp] at hp1 hp2
                have hp' : y * k = p := hp.symm
                clear hp HTS HX
                go_wp2
                go_roundw
                case rel => exact ⟨i + 1, by go_num, by omega, HT2, ⟨_, fun j => rfl, (fun h => by cases h), fun a ha => by cases ha; exact ⟨g, rfl, HGB.out, HPX.out⟩⟩, HG2.out _⟩
                case measure => simp only [intOf]; omega
          · obtain rfl : i = n := by omega
            have hI2 : Ints wr A2 i (zs.map (· * k)) := by
              obtain ⟨d, hd, hnone, hsome⟩ := HQ.out
              cases A2 with
              | none =>
                obtain rfl := hnone rfl
                have : zs = [] := List.eq_nil_of_length_eq_zero HL.out
                rw [this]; exact ints0 _ _
              | some a =>
                obtain ⟨g, rfl, _, hR⟩ := hsome a rfl
                exact scale_row HL.out hR hd
            have hB2 : ∀ x ∈ zs, x ≤ 1125899906842624 := by
              have := HB.out
              rwa [List.take_of_length_le (by have := HL.out; omega)] at this
            have hm2 := mayB_scale (k := k) (by omega) (by omega) HM.out hB2
            have P := Lib.hid (pair_scale (k := k) (by omega) HM.out hm2)
            have CS1 := Lib.hid (split_got T A i c zs wr (HZ.out.keep HG.out) (by omega))
            have CS2 := Lib.hid (fun w' (g : Grew wr w') => split_got T A2 i c2 (zs.map (· * k)) w' (hI2.keep g) (by omega))
            clear hI2 hB2 hm2 HQ HB
            have P1 : Hid (spE T (zs.map (· * k)) = spE T zs) := P.out.1
            generalize hms : zs.map (· * k) = ms at *
            clear hms
            generalize hE : spE T zs = E at P1
            have HE := Lib.hid hE
            clear hE
            go_wp2_with (first
              | (go_at_call 11; ((with_reducible refine CS1.out.mono ?_); rintro e w5 ⟨A5, n5, c5, ps, rfl, hI5, hV5, hn5, hg5, _, _⟩; rw [HE.out]; have HI5 := Lib.hid hI5; have HV5 := Lib.hid hV5; have HG5 := Lib.hid hg5; clear hI5 hV5 hg5))
              | (go_at_call 11; ((with_reducible refine (CS2.out _ HG5.out).mono ?_); rintro e w6 ⟨A6, n6, c6, qs', rfl, hI6, hV6, hn6, hg6, _, _⟩; rw [P1.out]; have HI6 := Lib.hid hI6; have HV6 := Lib.hid hV6; have HG6 := Lib.hid hg6; have HI5' := Lib.hid (HI5.out.keep hg6); have HPQ : Hid (ps = qs') := P.out.2 ps qs' HV5.out hV6; clear hI6 hV6 hg6))
              | (go_at_call 13; ((with_reducible refine (keepInts_any A5 A6 n5 n6 c5 c6 ps qs' w6 HI5'.out HI6.out (by omega) (by omega)).mono ?_); rintro e w7 ⟨rfl, hg7⟩; rw [decide_eq_true HPQ.out]; have HG7 := Lib.hid hg7; clear hg7))
              | (go_at_call 17; ((with_reducible refine (CW _).mono ?_); rintro e w8 ⟨rfl, hg8⟩; have HG8 := Lib.hid hg8; clear hg8)))
            go_ret
            exact ⟨rfl, grew_trans HG.out (grew_trans HG5.out (grew_trans HG6.out (grew_trans HG7.out HG8.out)))⟩
  · simp only [Bool.not_eq_true] at hm
    rw [hm] at C1
    clear hm
    go_enter Try.func8, Try.ntmps8
    go_wp2_with (go_at_call 18; ((with_reducible refine C1.mono ?_); rintro e w1 ⟨rfl, hg1⟩; have HG1 := Lib.hid hg1; clear hg1))
    go_ret
    exact ⟨rfl, HG1.out⟩
end Go.Proofs.Ytkkemmfghjgmeaa.NumK
