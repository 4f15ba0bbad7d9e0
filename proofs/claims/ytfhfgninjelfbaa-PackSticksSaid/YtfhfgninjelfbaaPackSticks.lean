/- The law PackSticks. -/
import Derived.Test.YtfhfgninjelfbaaPackF
import Derived.Test.YtfhfgninjelfbaaPackH
import Derived.Deep.CutBlock
namespace Go.Proofs.Ytfhfgninjelfbaa.NumK
open Go.RowKit

theorem rD_long {s : RS} (h : rD s = 5) : s.e = 5 := by
  unfold rD at h
  split at h
  · cases h
  · exact h
theorem rD_five {s : RS} (h : s.e = 5) : rD s = 5 := by unfold rD; rw [if_neg (by rw [h]; intro g; cases g.1)]; exact h

set_option maxRecDepth 100000 in
set_option maxHeartbeats 2000000 in
theorem packSticks_walk (A A1 : Option Addr) (n c m c1 : Nat) (bs : List UInt8) (ks : List Int) (w : World) (hb : Bys w A n bs) (hA : A = none → c = 0) (hn : n ≤ 9223372036854775807) (hk : Ints w A1 m ks) (hm : m ≤ 9223372036854775807) :
    Calls Try.prog 9 #[.slice A n c, .slice A1 m c1] w fun e w' => e = .returned (.bool true) ∧ Grew w w' := by
  have HK := Lib.hid hk
  clear hk
  by_cases h1 : 131072 < n
  · have d : (131072 : Int) < (n : Int) := by omega
    go_enter Try.func9, Try.ntmps9
    go_wp2
    go_ret
    exact ⟨rfl, grew_refl _⟩
  have d1 : ¬ (131072 : Int) < (n : Int) := by omega
  by_cases h2 : 200 < m
  · have d : (200 : Int) < (m : Int) := by omega
    go_enter Try.func9, Try.ntmps9
    go_wp2
    go_ret
    exact ⟨rfl, grew_refl _⟩
  have d2 : ¬ (200 : Int) < (m : Int) := by omega
  have CN := Lib.hid (newReader_any A n c bs w hb hA (by omega))
  have CW := fun w => wakes04_any w
  clear hb hA
  go_enter Try.func9, Try.ntmps9
  go_upto_region 7 with (go_at_call 18; ((with_reducible refine CN.out.mono ?_); rintro e w2 ⟨rfl, hr, hg⟩; have HR2 := Lib.hid hr; have HG2 := Lib.hid hg; clear hr hg CN))
  generalize hp : w.heap.size = p at *
  have HPW : Hid (w.heap.size ≤ p) := by show _ ≤ _; omega
  clear hp
  go_wp2
  go_loopw [6, 7] (fun v6 v7 wr => ∃ (k : Nat) (s : RS) (lg : Bool), v7 = .int .i64 k ∧ k ≤ m ∧ v6 = .bool lg ∧ Hid (lg = true → s.e = 5) ∧ Hid (RD wr p s) ∧ Hid (Grew w wr)) (fun _ v7 _ => m - (intOf v7).toNat)
  case atStart => exact ⟨0, _, false, rfl, Nat.zero_le _, rfl, (fun h => by cases h), HR2, HG2⟩
  case round =>
    clear HR2 HG2
    obtain ⟨k, s, lg, rfl, hkm, rfl, HL, HR, HG⟩ := hrel
    by_cases hlt : k < m
    · obtain ⟨b, o, rfl, hbb, hcc⟩ := (HK.out.keep HG.out).2 (by omega)
      have hcell := hcc k hlt
      generalize ks.getD k 0 = K at *
      have hU : ∃ U : Int, U = IntKind.u64.wrap K := ⟨_, rfl⟩
      obtain ⟨U, hU⟩ := hU
      have hU0 : 0 ≤ U := by rw [hU, IntKind.wrap_u64]; omega
      have hKU := hU.symm
      clear hcc hU
      have C0 := Lib.hid (rInt_any p s wr HR.out)
      have C1 := Lib.hid (rMark_any p s wr HR.out)
      have C2 := Lib.hid (rText_any p s wr HR.out)
      have HTO := Lib.hid (rT_out s)
      cases lg with
      | true =>
        have h5 := HL.out rfl
        have h5' : s.e ≠ 0 := by omega
        rw [rI_bad h5'] at C0
        rw [rM_bad h5'] at C1
        rw [rT_bad h5'] at C2
        clear h5'
        have H5 := Lib.hid h5
        have DN : Hid (∀ w', RD w' p s → Calls Try.prog 25 #[.pointer (some ⟨p, 0, none⟩)] w' fun e w'' => e = .returned (.int .i64 5) ∧ w' = w'') := fun w' hr => by
          have := done_any p s w' hr
          rwa [rD_five H5.out] at this
        clear h5
        by_cases k0 : U % 3 = 0
        · clear C1 C2
          go_upto_region 17 with (go_at_call 19; ((with_reducible refine C0.out.mono ?_); rintro e w1 ⟨rfl, hr, ht⟩; have HR1 := Lib.hid hr; have HT1 := Lib.hid ht; clear hr ht))
          go_wp2_with (go_at_call 25; ((with_reducible refine (DN.out _ HR1.out).mono ?_); rintro e w3 ⟨rfl, rfl⟩))
          go_roundw
          case rel => exact ⟨k + 1, s, true, by go_num, by omega, rfl, fun _ => H5.out, HR1, Turn.new HG.out HT1.out HPW.out⟩
          case measure => simp only [intOf]; omega
        · by_cases k1 : U % 3 = 1
          · clear C0 C2
            go_upto_region 17 with (go_at_call 21; ((with_reducible refine C1.out.mono ?_); rintro e w1 ⟨rfl, hr, ht⟩; have HR1 := Lib.hid hr; have HT1 := Lib.hid ht; clear hr ht))
            go_wp2_with (go_at_call 25; ((with_reducible refine (DN.out _ HR1.out).mono ?_); rintro e w3 ⟨rfl, rfl⟩))
            go_roundw
            case rel => exact ⟨k + 1, s, true, by go_num, by omega, rfl, fun _ => H5.out, HR1, Turn.new HG.out HT1.out HPW.out⟩
            case measure => simp only [intOf]; omega
          · clear C0 C1
            go_upto_region 17 with (go_at_call 23; ((with_reducible refine C2.out.mono ?_); rintro e w1 ⟨A3, n3, c3, rfl, hb3, hf3, _, hr, ht⟩; obtain rfl : n3 = 0 := hb3.1.symm; have HR1 := Lib.hid hr; have HT1 := Lib.hid ht; clear hb3 hf3 hr ht))
            go_wp2_with (go_at_call 25; ((with_reducible refine (DN.out _ HR1.out).mono ?_); rintro e w3 ⟨rfl, rfl⟩))
            go_roundw
            case rel => exact ⟨k + 1, s, true, by go_num, by omega, rfl, fun _ => H5.out, HR1, Turn.new HG.out HT1.out HPW.out⟩
            case measure => simp only [intOf]; omega
      | false =>
        clear HL
        by_cases k0 : U % 3 = 0
        · clear C1 C2
          go_upto_region 17 with (go_at_call 19; ((with_reducible refine C0.out.mono ?_); rintro e w1 ⟨rfl, hr, ht⟩; have HR1 := Lib.hid hr; have HT1 := Lib.hid ht; clear hr ht))
          have DN := Lib.hid (done_any p _ w1 HR1.out)
          generalize hs' : (rI s).2 = s' at *
          clear hs'
          by_cases h5 : rD s' = 5
          · have H5 := Lib.hid (rD_long h5)
            rw [h5] at DN
            clear h5
            go_wp2_with (go_at_call 25; ((with_reducible refine DN.out.mono ?_); rintro e w3 ⟨rfl, rfl⟩))
            go_roundw
            case rel => exact ⟨k + 1, s', true, by go_num, by omega, rfl, fun _ => H5.out, HR1, Turn.new HG.out HT1.out HPW.out⟩
            case measure => simp only [intOf]; omega
          · have d5 : (rD s' == 5) = false := by simpa using h5
            go_wp2_with (go_at_call 25; ((with_reducible refine DN.out.mono ?_); rintro e w3 ⟨rfl, rfl⟩))
            go_roundw
            case rel => exact ⟨k + 1, s', false, by go_num, by omega, rfl, (fun h => by cases h), HR1, Turn.new HG.out HT1.out HPW.out⟩
            case measure => simp only [intOf]; omega
        · by_cases k1 : U % 3 = 1
          · clear C0 C2
            go_upto_region 17 with (go_at_call 21; ((with_reducible refine C1.out.mono ?_); rintro e w1 ⟨rfl, hr, ht⟩; have HR1 := Lib.hid hr; have HT1 := Lib.hid ht; clear hr ht))
            have DN := Lib.hid (done_any p _ w1 HR1.out)
            generalize hs' : (rM s).2 = s' at *
            clear hs'
            by_cases h5 : rD s' = 5
            · have H5 := Lib.hid (rD_long h5)
              rw [h5] at DN
              clear h5
              go_wp2_with (go_at_call 25; ((with_reducible refine DN.out.mono ?_); rintro e w3 ⟨rfl, rfl⟩))
              go_roundw
              case rel => exact ⟨k + 1, s', true, by go_num, by omega, rfl, fun _ => H5.out, HR1, Turn.new HG.out HT1.out HPW.out⟩
              case measure => simp only [intOf]; omega
            · have d5 : (rD s' == 5) = false := by simpa using h5
              go_wp2_with (go_at_call 25; ((with_reducible refine DN.out.mono ?_); rintro e w3 ⟨rfl, rfl⟩))
              go_roundw
              case rel => exact ⟨k + 1, s', false, by go_num, by omega, rfl, (fun h => by cases h), HR1, Turn.new HG.out HT1.out HPW.out⟩
              case measure => simp only [intOf]; omega
          · clear C0 C1
            go_upto_region 17 with (go_at_call 23; ((with_reducible refine C2.out.mono ?_); rintro e w1 ⟨A3, n3, c3, rfl, hb3, hf3, _, hr, ht⟩; have HB3 := Lib.hid hb3; have HR1 := Lib.hid hr; have HT1 := Lib.hid ht; clear hb3 hf3 hr ht))
            have DN := Lib.hid (done_any p _ w1 HR1.out)
            generalize hs' : (rT s).2 = s' at *
            clear hs'
            by_cases h5 : rD s' = 5
            · have H5 := Lib.hid (rD_long h5)
              rw [h5] at DN
              clear h5
              go_wp2_with (go_at_call 25; ((with_reducible refine DN.out.mono ?_); rintro e w3 ⟨rfl, rfl⟩))
              go_roundw
              case rel => exact ⟨k + 1, s', true, by go_num, by omega, rfl, fun _ => H5.out, HR1, Turn.new HG.out HT1.out HPW.out⟩
              case measure => simp only [intOf]; omega
            · have d5 : (rD s' == 5) = false := by simpa using h5
              go_wp2_with (go_at_call 25; ((with_reducible refine DN.out.mono ?_); rintro e w3 ⟨rfl, rfl⟩))
              go_roundw
              case rel => exact ⟨k + 1, s', false, by go_num, by omega, rfl, (fun h => by cases h), HR1, Turn.new HG.out HT1.out HPW.out⟩
              case measure => simp only [intOf]; omega
    · obtain rfl : k = m := by omega
      go_wp2_with (go_at_call 14; ((with_reducible refine (CW _).mono ?_); rintro e w7 ⟨rfl, hg⟩; have HG7 := Lib.hid hg; clear hg))
      go_ret
      exact ⟨rfl, grew_trans HG.out HG7.out⟩

theorem packSticks_row (A A1 : Option Addr) (n c m c1 : Nat) (l : List Int) (ks : List Int) (w : World) (hb : Row (spInt .u8) w A n l) (hA : A = none → c = 0) (hn : n ≤ 9223372036854775807) (hk : Row (spInt .i64) w A1 m ks) (hm : m ≤ 9223372036854775807) :
    Calls Try.prog 9 #[.slice A n c, .slice A1 m c1] w fun e w' => e = .returned (.bool true) ∧ Grew w w' := by
  obtain ⟨bs, hbs⟩ := bys_of_row hb
  exact packSticks_walk A A1 n c m c1 bs ks w hbs hA hn (ints_of_spec hk).1 hm
end Go.Proofs.Ytfhfgninjelfbaa.NumK
