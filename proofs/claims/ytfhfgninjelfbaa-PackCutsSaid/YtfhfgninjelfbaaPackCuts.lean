/- The law PackCuts. -/
import Derived.Test.YtfhfgninjelfbaaPackBack
import Derived.Deep.CutBlock
namespace Go.Proofs.Ytfhfgninjelfbaa.NumK
open Go.RowKit

theorem all_take_snoc (l : List It) (k : Nat) (hk : k < l.length) : (l.take (k + 1)).all oneB = ((l.take k).all oneB && oneB (l.getD k default)) := by
  rw [List.take_succ_eq_append_getElem hk, List.all_append]
  simp [List.getD, hk]
theorem all_no (l : List It) (k : Nat) (hk : k < l.length) (h : oneB (l.getD k default) = false) : l.all oneB = false := by
  rw [List.all_eq_false]
  refine ⟨l.getD k default, ?_, by rw [h]; simp⟩
  rw [List.getD_eq_getElem?_getD, List.getElem?_eq_getElem hk]; exact List.getElem_mem _

set_option maxHeartbeats 1000000 in
theorem all4_any (A : Option Addr) (n c : Nat) (l : List It) (w : World) (h : Items w A n l) (hn : n ≤ 200) :
    Calls Try.prog 31 #[.slice A n c] w fun e w' => e = .returned (.bool (l.all oneB)) ∧ w = w' := by
  have HI := Lib.hid h
  have HL := Lib.hid h.1
  clear h
  go_enter Try.func31, Try.ntmps31
  go_wp2
  go_loop [3] (fun v3 => ∃ k : Nat, v3 = .int .i64 k ∧ k ≤ n ∧ Hid ((l.take k).all oneB = true)) (fun v3 => n - (intOf v3).toNat)
  case atStart => exact ⟨0, rfl, Nat.zero_le _, rfl⟩
  case round =>
    obtain ⟨k, rfl, hk, HK⟩ := hrel
    by_cases hlt : k < n
    · obtain ⟨b, o, A1, c1, A2, c2, rfl, hp, _, _, g0, g1, g2, g3⟩ := HI.out.at2 (grew_refl _) hlt
      have HS := Lib.hid (all_take_snoc l k (by rw [HL.out]; exact hlt))
      have HNO := Lib.hid (all_no l k (by rw [HL.out]; exact hlt))
      have hx : oneB (l.getD k default) = !(decide (kd (l.getD k default).K = 0) && decide (1 < (l.getD k default).n1)) := by
        unfold oneB; rw [hp.ints.1]
      have m1 := hp.le1
      have HX := Lib.hid hx
      clear hp hx
      generalize oneB (l.getD k default) = ob at *
      generalize l.getD k default = x at *
      have hU : ∃ U : Int, U = IntKind.u64.wrap x.K := ⟨_, rfl⟩
      obtain ⟨U, hU⟩ := hU
      have hU0 : 0 ≤ U := by rw [hU, IntKind.wrap_u64]; omega
      have HKD : Hid (kd x.K = U % 3) := by show _ = _; rw [hU]; rfl
      have hKU := hU.symm
      clear hU
      by_cases k0 : U % 3 = 0
      · by_cases k1 : 1 < x.n1
        · have d1 : (1 : Int) < (x.n1 : Int) := by omega
          have HF : Hid (l.all oneB = false) := HNO.out (by rw [HX.out, HKD.out]; simp [k0, k1])
          clear HX HNO HS
          go_wp2
          go_ret
          exact ⟨ret_b HF.out.symm, rfl⟩
        · have d1 : ¬ (1 : Int) < (x.n1 : Int) := by omega
          have HF : Hid ((l.take (k + 1)).all oneB = true) := by show _ = _; rw [HS.out, HK.out, HX.out, HKD.out]; simp; omega
          clear HX HNO HS
          go_wp2
          go_round
          case rel => exact ⟨k + 1, by go_num, by omega, HF⟩
          case measure => simp only [intOf]; omega
      · have dk : (U % 3 == 0) = false := by simpa using k0
        have HF : Hid ((l.take (k + 1)).all oneB = true) := by show _ = _; rw [HS.out, HK.out, HX.out, HKD.out]; simp [k0]
        clear HX HNO HS HKD
        go_wp2
        go_round
        case rel => exact ⟨k + 1, by go_num, by omega, HF⟩
        case measure => simp only [intOf]; omega
    · obtain rfl : k = n := by omega
      have HF : Hid (l.all oneB = true) := by have := HK.out; rwa [take_all HL.out] at this
      go_wp2
      go_ret
      exact ⟨ret_b HF.out.symm, rfl⟩

theorem newReader_new (A : Option Addr) (n c : Nat) (l : List UInt8) (w0 w : World) (hb : Bys w A n l) (hA : A = none → c = 0) (hn : n ≤ 1000000000) (hG : Grew w0 w) :
    Calls Try.prog 18 #[.slice A n c] w fun e w' => ∃ p, w0.heap.size ≤ p ∧ e = .returned (.pointer (some ⟨p, 0, none⟩)) ∧ RD w' p ⟨l, 0⟩ ∧ Grew w0 w' :=
  (newReader_any A n c l w hb hA hn).mono fun _ _ ⟨he, hr, hg⟩ => ⟨_, hG.size, he, hr, grew_trans hG hg⟩
theorem twin_more {w w1 w2 w3 : World} {A2 : Option Addr} {c2 n : Nat} {l : List UInt8} {c : UInt8} {v : Value} (hG : Grew w w1) (hT : Grew w1 w2) (ho : w3.ownsRow w1.heap.size 5 1 v (n + 1) ((l ++ [c]).map byv)) (hb : Below w1.heap.size (w2.alloc (.cells #[.int .u8 (c.toNat : Int)] 5)) w3) (_ : A2 = none → c2 = 0) :
    ∃ A3 c3, v = .slice A3 (n + 1) c3 ∧ Bys w3 A3 (n + 1) (l ++ [c]) ∧ (A3 = none → c3 = 0) ∧ Grew w w3 := by
  obtain ⟨A3, c3, h1, h2, h3, _⟩ := bys_of_own ho
  exact ⟨A3, c3, h1, h2, h3, grew_trans hG ((Below.alloc hT hT.size _).trans hb)⟩

set_option maxRecDepth 100000 in
set_option maxHeartbeats 4000000 in
theorem packCuts_walk (A : Option Addr) (n c : Nat) (l : List It) (at' : Int) (u : UInt8) (w : World) (h : Items w A n l) (hn : n ≤ 9223372036854775807) :
    Calls Try.prog 7 #[.slice A n c, .int .i64 at', .int .u8 (u.toNat : Int)] w fun e w' => e = .returned (.bool true) ∧ Grew w w' := by
  have CH := heavy_any A n c l w h hn
  have HI := Lib.hid h
  have HLEN := Lib.hid h.1
  have CW := fun w => wakes04_any w
  clear h
  by_cases hz : n = 0
  · have dz : ((n : Int) == 0) = true := by simp; omega
    clear hz
    go_enter Try.func7, Try.ntmps7
    go_wp2_with (go_at_call 10; ((with_reducible refine CH.mono ?_); rintro e w1 ⟨rfl, hh⟩; rcases hh with rfl | ⟨rfl, _, _⟩))
    all_goals
      go_ret
      exact ⟨rfl, grew_refl _⟩
  have dz : ((n : Int) == 0) = false := by simp; omega
  clear hz
  go_enter Try.func7, Try.ntmps7
  go_wp2_with (go_at_call 10; ((with_reducible refine CH.mono ?_); rintro e w1 ⟨rfl, hh⟩; rcases hh with rfl | ⟨rfl, hs, hl⟩))
  · go_ret
    exact ⟨rfl, grew_refl _⟩
  · have hn2 : n ≤ 200 := by rw [← HLEN.out]; exact hs
    have HL : Hid (∀ j, j < n → LightIt (l.getD j default)) := by rw [HLEN.out] at hl; exact hl
    have HWL := Lib.hid (wAll_len HI.out HL.out)
    clear CH hs hl hn
    have HW0 : Hid (WR (w.alloc (.cells #[.pointer none, .int .i64 0, .int .i64 0] 28)) w.heap.size (some [])) := WR.new w _
    have HG0 : Hid (Grew w (w.alloc (.cells #[.pointer none, .int .i64 0, .int .i64 0] 28))) := grew_alloc _ _ _
    generalize w.alloc (.cells #[.pointer none, .int .i64 0, .int .i64 0] 28) = w0 at *
    go_loopw [8] (fun v4 wr => ∃ k : Nat, v4 = .int .i64 k ∧ k ≤ n ∧ Hid (∀ j, j < k → (l.getD j default).n2 ≤ 65536) ∧ Hid (WR wr w.heap.size (wAll (l.take k))) ∧ Hid (Grew w wr)) (fun v4 _ => n - (intOf v4).toNat)
    case atStart => exact ⟨0, rfl, Nat.zero_le _, fun j hj => by omega, HW0, HG0⟩
    case round =>
      clear HW0 HG0
      obtain ⟨k, rfl, hk, HT, HW, HG⟩ := hrel
      by_cases hlt : k < n
      · obtain ⟨b, o, A1, c1, A2, c2, rfl, hp, hold, g0, g1, g2, g3⟩ := HI.out.at HG.out hlt
        have HC := Lib.hid (write_call w.heap.size (wAll (l.take k)) (l.getD k default) A1 c1 A2 c2 wr HW.out hp (HL.out k hlt).1 hold (by have := HWL.out k hk; omega))
        have HS := Lib.hid (wAll_snoc l k (by rw [HLEN.out]; exact hlt))
        have m2 := hp.le2
        have HTN : Hid ((l.getD k default).n2 ≤ 65536 → ∀ j, j < k + 1 → (l.getD j default).n2 ≤ 65536) := fun hx j hj => by
          by_cases e : j = k
          · subst e; exact hx
          · exact HT.out j (by omega)
        clear hp hold
        generalize l.getD k default = x at *
        by_cases ht : 65536 < x.n2
        · have d : (65536 : Int) < (x.n2 : Int) := by omega
          go_wp2
          go_ret
          exact ⟨rfl, HG.out⟩
        · have d : ¬ (65536 : Int) < (x.n2 : Int) := by omega
          have HTT := Lib.hid (HTN.out (by omega))
          go_wp2_with (go_at_call 11; ((with_reducible refine HC.out.mono ?_); rintro e w1 ⟨rfl, hr, ht⟩; have HR := Lib.hid hr; have HT2 := Lib.hid ht; clear hr ht HC))
          go_roundw
          case rel => exact ⟨k + 1, by go_num, by omega, HTT, by rw [HS.out]; exact HR, Turn.new HG.out HT2.out (Nat.le_refl _)⟩
          case measure => simp only [intOf]; omega
      · obtain rfl : k = n := by omega
        have HFIT := Lib.hid (fit_all HI.out HT.out)
        have HWF : Hid (WR wr w.heap.size (some (encAll l))) := by have := HW.out; rw [take_all HLEN.out, wAll_fit HFIT.out] at this; exact this
        have HLF : Hid ((encAll l).length ≤ 14000000) := by show _ ≤ _; have := HWL.out k (Nat.le_refl _); rw [take_all HLEN.out, wAll_fit HFIT.out] at this; simp [wLen] at this; omega
        have hm : ∃ m, m = (encAll l).length := ⟨_, rfl⟩
        obtain ⟨m, hm⟩ := hm
        have hml : m ≤ 14000000 := by rw [hm]; exact HLF.out
        have HC2 := Lib.hid (wBytes_some w.heap.size m (encAll l) wr HWF.out hm.symm (by omega))
        have HM := Lib.hid hm
        clear HW HWL HL HWF HLF hm
        go_upto_region 11 with (first
          | (go_at_call 13; ((with_reducible refine HC2.out.mono ?_); rintro e w2 ⟨hg, B, rfl, hb, hf⟩; have HG2 := Lib.hid (grew_trans HG.out hg); have HB2 := Lib.hid hb; clear hg hb hf HC2)))
        by_cases hm0 : m = 0
        · subst hm0
          go_wp2_with (go_at_call 14; ((with_reducible refine (CW _).mono ?_); rintro e w7 ⟨rfl, hg⟩; have HG7 := Lib.hid hg; clear hg))
          go_ret
          exact ⟨rfl, grew_trans HG2.out HG7.out⟩
        · have dm : ((m : Int) == 0) = false := by simp; omega
          have hU : ∃ U : Int, U = IntKind.u64.wrap at' := ⟨_, rfl⟩
          obtain ⟨U, hU⟩ := hU
          have hU0 : 0 ≤ U := by rw [hU, IntKind.wrap_u64]; omega
          have hKU := hU.symm
          have hN : ∃ N : Nat, U % (m : Int) = (N : Int) := ⟨(U % (m : Int)).toNat, by have := Int.emod_nonneg U (show (m : Int) ≠ 0 by omega); omega⟩
          obtain ⟨N, hN⟩ := hN
          have hNm : N < m := by have := Int.emod_lt_of_pos U (show (0 : Int) < (m : Int) by omega); omega
          have hNi : (N : Int) ≤ (m : Int) := by omega
          have m0 : (0 : Int) < (m : Int) := by omega
          clear hU hm0
          go_wp2
          clear hKU hN
          have HNM : Hid (N < (encAll l).length) := by show _ < _; rw [← HM.out]; exact hNm
          have hnn : w.heap.size ≤ w2.heap.size := HG2.out.size
          go_loopw [12] (fun v12 wr => ∃ kk : Nat, v12 = .int .i64 kk ∧ kk ≤ 2 ∧ Hid (Grew w2 wr)) (fun v12 _ => 2 - (intOf v12).toNat)
          case atStart => exact ⟨0, rfl, by omega, grew_refl _⟩
          case round =>
            obtain ⟨kk, rfl, hkk, HGR⟩ := hrel
            by_cases hk2 : kk = 2
            · subst hk2
              go_wp2_with (go_at_call 14; ((with_reducible refine (CW _).mono ?_); rintro e w7 ⟨rfl, hg⟩; have HG7 := Lib.hid hg; clear hg))
              go_ret
              exact ⟨rfl, grew_trans HG2.out (grew_trans HGR.out HG7.out)⟩
            · have hkl : (kk : Int) < 2 := by omega
              have HB3 := Lib.hid (HB2.out.keep HGR.out)
              by_cases hk1 : kk = 1
              · have dk : ((kk : Int) == 1) = true := by simp; omega
                have HTW := Lib.hid (twinB_any (some ⟨B, 0, none⟩) m m (encAll l) wr HB3.out (fun h => by cases h) (by omega))
                have HNOT : Hid (l.all oneB = true → rD (readAll l ⟨encAll l ++ [u], 0⟩) ≠ 0) := fun _ => rD_more HFIT.out u
                go_upto_region 20 with (first
                  | (go_at_call 17; ((with_reducible refine HTW.out.mono ?_); rintro e w4 ⟨hg, A2, c2, rfl, ho, _, hA2, _⟩; have HG4 := Lib.hid hg; have HO4 := Lib.hid ho; have HA2 := Lib.hid hA2; clear hg ho hA2 HTW))
                  | (at_builtin; refine (wpList_append_bytes rfl _ _ rfl wr.heap.size _ m (encAll l) rfl (HO4.out.alloc _) (some ⟨w4.heap.size, 0, none⟩) 1 1 [u] rfl (by intro h; cases h) (bys1 _ u _ _ rfl) (by omega) (by have := HG4.out.size; simp; omega) ?_); intro v' w5 hv' hb'; have hx := twin_more HGR.out HG4.out hv' hb' HA2.out; obtain ⟨A3, c3, hv, h1, h2, h3⟩ := hx; subst hv; have HNR := Lib.hid (newReader_new A3 (m + 1) c3 (encAll l ++ [u]) w2 w5 h1 h2 (by omega) h3); clear hv' hb' h1 h2 h3))
                generalize encAll l ++ [u] = CC at *
                go_upto_region 23 with (go_at_call 18; ((with_reducible refine HNR.out.mono ?_); rintro e w6 ⟨p, hp0, rfl, hr, hg⟩; have HR6 := Lib.hid hr; have HG6 := Lib.hid hg; clear hr hg HNR))
                have hpn : w.heap.size ≤ p := by omega
                go_wp2
                go_loopw [15] (fun v15 wx => ∃ j : Nat, v15 = .int .i64 j ∧ j ≤ k ∧ Hid (RD wx p (readAll (l.take j) ⟨CC, 0⟩)) ∧ Hid (Grew w2 wx)) (fun v15 _ => k - (intOf v15).toNat)
                case atStart => exact ⟨0, rfl, Nat.zero_le _, HR6, HG6⟩
                case round =>
                  clear HR6 HG6
                  obtain ⟨j, rfl, hj, HRJ, HGX⟩ := hrel
                  by_cases hlt2 : j < k
                  · obtain ⟨b, o, A1, c1, A2, c2, rfl, hp, hold1, hold2, g0, g1, g2, g3⟩ := HI.out.at2 (grew_trans HG2.out HGX.out) hlt2
                    have HC := Lib.hid (got_any p (readAll (l.take j) ⟨CC, 0⟩) (l.getD j default) A1 c1 A2 c2 wr HRJ.out hp (fun hn a ha => by have := hold1 hn a ha; omega) (fun hn a ha => by have := hold2 hn a ha; omega))
                    have HS := Lib.hid (readAll_snoc l j (by rw [HLEN.out]; exact hlt2) ⟨CC, 0⟩)
                    clear hp hold1 hold2
                    generalize l.getD j default = x at *
                    generalize readAll (l.take j) ⟨CC, 0⟩ = sj at *
                    generalize (gotS x sj).1 = gb at *
                    generalize (gotS x sj).2 = gs at *
                    go_wp2_with (go_at_call 27; ((with_reducible refine HC.out.mono ?_); rintro e w7 ⟨rfl, hr, ht⟩; have HR7 := Lib.hid hr; have HT7 := Lib.hid ht; clear hr ht HC))
                    go_roundw
                    case rel => exact ⟨j + 1, by go_num, by omega, by rw [HS.out]; exact HR7, Turn.new HGX.out HT7.out hp0⟩
                    case measure => simp only [intOf]; omega
                  · obtain rfl : j = k := by omega
                    have HRZ : Hid (RD wr p (readAll l ⟨CC, 0⟩)) := by have := HRJ.out; rw [take_all HLEN.out] at this; exact this
                    have DN := Lib.hid (done_any p _ wr HRZ.out)
                    have DA := Lib.hid (all4_any A j c l wr (HI.out.keep (grew_trans HG2.out HGX.out)) hn2)
                    generalize readAll l ⟨CC, 0⟩ = sf at *
                    by_cases hd : rD sf = 0
                    · have hall : l.all oneB = false := by
                        cases ha : l.all oneB with
                        | false => rfl
                        | true => exact absurd hd (HNOT.out ha)
                      rw [hall] at DA
                      rw [hd] at DN
                      clear hall hd
                      go_wp2_with (first
                        | (go_at_call 25; ((with_reducible refine DN.out.mono ?_); rintro e w8 ⟨rfl, rfl⟩))
                        | (go_at_call 31; ((with_reducible refine DA.out.mono ?_); rintro e w9 ⟨rfl, rfl⟩)))
                      go_roundw
                      case rel => exact ⟨kk + 1, by go_num, by omega, HGX⟩
                      case measure => simp only [intOf]; omega
                    · have d0 : (rD sf == 0) = false := by simpa using hd
                      clear hd
                      go_wp2_with (first
                        | (go_at_call 25; ((with_reducible refine DN.out.mono ?_); rintro e w8 ⟨rfl, rfl⟩)))
                      go_roundw
                      case rel => exact ⟨kk + 1, by go_num, by omega, HGX⟩
                      case measure => simp only [intOf]; omega
              · have dk : ((kk : Int) == 1) = false := by simp; omega
                have HNR := Lib.hid (newReader_new (some ⟨B, 0, none⟩) N m ((encAll l).take N) w2 wr (HB3.out.take (by omega)) (fun h => by cases h) (by omega) HGR.out)
                have HNOT : Hid (l.all oneB = true → rD (readAll l ⟨(encAll l).take N, 0⟩) ≠ 0) := fun ha => rD_cut HFIT.out ha HNM.out
                generalize (encAll l).take N = CC at *
                go_upto_region 23 with (go_at_call 18; ((with_reducible refine HNR.out.mono ?_); rintro e w6 ⟨p, hp0, rfl, hr, hg⟩; have HR6 := Lib.hid hr; have HG6 := Lib.hid hg; clear hr hg HNR))
                have hpn : w.heap.size ≤ p := by omega
                go_wp2
                go_loopw [15] (fun v15 wx => ∃ j : Nat, v15 = .int .i64 j ∧ j ≤ k ∧ Hid (RD wx p (readAll (l.take j) ⟨CC, 0⟩)) ∧ Hid (Grew w2 wx)) (fun v15 _ => k - (intOf v15).toNat)
                case atStart => exact ⟨0, rfl, Nat.zero_le _, HR6, HG6⟩
                case round =>
                  clear HR6 HG6
                  obtain ⟨j, rfl, hj, HRJ, HGX⟩ := hrel
                  by_cases hlt2 : j < k
                  · obtain ⟨b, o, A1, c1, A2, c2, rfl, hp, hold1, hold2, g0, g1, g2, g3⟩ := HI.out.at2 (grew_trans HG2.out HGX.out) hlt2
                    have HC := Lib.hid (got_any p (readAll (l.take j) ⟨CC, 0⟩) (l.getD j default) A1 c1 A2 c2 wr HRJ.out hp (fun hn a ha => by have := hold1 hn a ha; omega) (fun hn a ha => by have := hold2 hn a ha; omega))
                    have HS := Lib.hid (readAll_snoc l j (by rw [HLEN.out]; exact hlt2) ⟨CC, 0⟩)
                    clear hp hold1 hold2
                    generalize l.getD j default = x at *
                    generalize readAll (l.take j) ⟨CC, 0⟩ = sj at *
                    generalize (gotS x sj).1 = gb at *
                    generalize (gotS x sj).2 = gs at *
                    go_wp2_with (go_at_call 27; ((with_reducible refine HC.out.mono ?_); rintro e w7 ⟨rfl, hr, ht⟩; have HR7 := Lib.hid hr; have HT7 := Lib.hid ht; clear hr ht HC))
                    go_roundw
                    case rel => exact ⟨j + 1, by go_num, by omega, by rw [HS.out]; exact HR7, Turn.new HGX.out HT7.out hp0⟩
                    case measure => simp only [intOf]; omega
                  · obtain rfl : j = k := by omega
                    have HRZ : Hid (RD wr p (readAll l ⟨CC, 0⟩)) := by have := HRJ.out; rw [take_all HLEN.out] at this; exact this
                    have DN := Lib.hid (done_any p _ wr HRZ.out)
                    have DA := Lib.hid (all4_any A j c l wr (HI.out.keep (grew_trans HG2.out HGX.out)) hn2)
                    generalize readAll l ⟨CC, 0⟩ = sf at *
                    by_cases hd : rD sf = 0
                    · have hall : l.all oneB = false := by
                        cases ha : l.all oneB with
                        | false => rfl
                        | true => exact absurd hd (HNOT.out ha)
                      rw [hall] at DA
                      rw [hd] at DN
                      clear hall hd
                      go_wp2_with (first
                        | (go_at_call 25; ((with_reducible refine DN.out.mono ?_); rintro e w8 ⟨rfl, rfl⟩))
                        | (go_at_call 31; ((with_reducible refine DA.out.mono ?_); rintro e w9 ⟨rfl, rfl⟩)))
                      go_roundw
                      case rel => exact ⟨kk + 1, by go_num, by omega, HGX⟩
                      case measure => simp only [intOf]; omega
                    · have d0 : (rD sf == 0) = false := by simpa using hd
                      clear hd
                      go_wp2_with (first
                        | (go_at_call 25; ((with_reducible refine DN.out.mono ?_); rintro e w8 ⟨rfl, rfl⟩)))
                      go_roundw
                      case rel => exact ⟨kk + 1, by go_num, by omega, HGX⟩
                      case measure => simp only [intOf]; omega

theorem packCuts_row (A : Option Addr) (n c : Nat) (l : List ItV) (at' b8 : Int) (w : World) (h : Row spItem w A n l) (hn : n ≤ 9223372036854775807) (hb0 : 0 ≤ b8) (hb1 : b8 ≤ 255) :
    Calls Try.prog 7 #[.slice A n c, .int .i64 at', .int .u8 b8] w fun e w' => e = .returned (.bool true) ∧ Grew w w' := by
  obtain ⟨xs, hx⟩ := items_of_row h
  obtain ⟨u, rfl⟩ : ∃ u : UInt8, b8 = (u.toNat : Int) := ⟨UInt8.ofNat b8.toNat, by rw [u8_ofNat (by omega)]; omega⟩
  exact packCuts_walk A n c xs at' u w hx hn
end Go.Proofs.Ytfhfgninjelfbaa.NumK
