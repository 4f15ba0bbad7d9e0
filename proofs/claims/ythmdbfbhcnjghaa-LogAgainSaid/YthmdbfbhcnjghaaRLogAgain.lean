/-
  For every snapshot, records and picks: to open a log once more, without a crash, finds the same, and so does a second crash (P7.1); inputs beyond the sizes that the statement names it lets by.
-/
import Derived.Test.YthmdbfbhcnjghaaRJnN
import Derived.Test.YthmdbfbhcnjghaaRGrd
import Derived.Test.YthmdbfbhcnjghaaRFrame
import Derived.Test.YthmdbfbhcnjghaaRows
import Derived.WalkKit
import Derived.ProofKit
import Derived.OpenShut
import Derived.ShutString
import Derived.ChangeOld
import Derived.Below
import Derived.Carry
import Derived.SizedLaws
namespace Go.Proofs.Ythmdbfbhcnjghaa.NumK
open Go.RowKit

set_option maxRecDepth 100000 in
set_option maxHeartbeats 4000000 in
theorem logAgain_walk (A0 A1 A2 : Option Addr) (n0 n1 n2 c0 c1 c2 : Nat) (p : List UInt8) (ls : List (List UInt8)) (zs : List Int) (W : World) (b0 : Bys W A0 n0 p) (a0 : A0 = none → c0 = 0) (m0 : n0 ≤ c0) (b1 : RowsB W A1 n1 ls)
    (i2 : Ints W A2 n2 zs) (m2 : n2 ≤ 9223372036854775807) :
    Calls Try.prog 5 #[.slice A0 n0 c0, .slice A1 n1 c1, .slice A2 n2 c2] W fun e w' => e = .returned (.bool true) ∧ Grew W w' := by
  have CF := Lib.hid (fun w (g : Grew W w) => few_any A1 n1 c1 ls w (b1.keep g))
  by_cases h0 : 2000 < n0
  · have d0 : (2000 : Int) < (n0 : Int) := by omega
    clear CF b0 b1 i2
    go_enter Try.func5, Try.ntmps5
    go_wp2
    go_ret
    exact ⟨rfl, grew_refl _⟩
  have d0 : ¬ (2000 : Int) < (n0 : Int) := by omega
  cases hf : fewB ls with
  | false =>
    rw [hf] at CF
    clear b0 b1 i2
    go_enter Try.func5, Try.ntmps5
    go_wp2_with (go_at_call 22; ((with_reducible refine (CF.out _ (grew_refl _)).mono ?_); rintro e w1 ⟨rfl, hg⟩; have G1 := Lib.hid hg; clear hg))
    go_ret
    exact ⟨rfl, G1.out⟩
  | true =>
  rw [hf] at CF
  have hfew : ls.length ≤ 20 ∧ ∀ l ∈ ls, l.length ≤ 300 := of_decide_eq_true hf
  by_cases h2 : 2000 < n2
  · have d2 : (2000 : Int) < (n2 : Int) := by omega
    clear b0 b1 i2 hf hfew
    go_enter Try.func5, Try.ntmps5
    go_wp2_with (go_at_call 22; ((with_reducible refine (CF.out _ (grew_refl _)).mono ?_); rintro e w1 ⟨rfl, hg⟩; have G1 := Lib.hid hg; clear hg))
    go_ret
    exact ⟨rfl, G1.out⟩
  have d2 : ¬ (2000 : Int) < (n2 : Int) := by omega
  have hp : p.length = n0 := b0.1
  have hln : ls.length = n1 := b1.1
  have hsp := spanL_few ls hfew.2
  obtain ⟨s1, e1, L1, o1, k1⟩ := LL.first 600 p (by omega) (by omega) (by unfold nbk; omega)
  have r1 : roomD s1 = 300 := by unfold roomD; rw [k1]
  obtain ⟨s2, e2, L2, f2⟩ := L1.append ls (fun l hl => by have := hfew.2 l hl; omega) (by rw [r1]; simp only [spanL, List.append_nil]; unfold nbk; omega)
  obtain ⟨s3, e3, L3, o3, k3, _⟩ := L2.sync
  simp only [List.nil_append] at e2 L2 L3
  have k2 : s2.safe.length = 600 := by rw [f2, k1]
  rw [k2] at k3
  have CN : Hid (∀ w, Grew W w → Calls Try.prog 12 #[.int .i64 600] w fun e w' => ∃ q, e = .returned (.tuple #[.pointer (some ⟨q, 0, none⟩), .int .i64 0]) ∧ DI N0 W w' q (dNew 600)) := fun w g => (newD 600 w (by omega) (by omega)).mono fun e w' ⟨q, h1, h2⟩ => ⟨q, h1, h2.from g⟩
  have CO := Lib.hid (fun w1 q (h : DI N0 W w1 q (dNew 600)) => h.openJ (lOpen_ok rfl (by rw [dNew_len]; omega)))
  have CB := Lib.hid (fun w1 lb q (h : JI N0 W w1 lb q (dNew 600) (lPick (dNew 600))) => h.begin' (grew_refl _) p A0 n0 c0 (b0.keep h.grew) a0 m0 (fun a ha h0 => Or.inl (b0.old a ha h0)) (by omega) (by simp [dNew]) e1 L1.on)
  have CA := Lib.hid (fun w1 lb q (h : JI N0 W w1 lb q s1 (lgL 0 1 p [] true)) => h.append' (grew_refl _) ls A1 n1 c1 (b1.stays h.grew) (by omega) (by rw [o1]; simp) e2 L2.on)
  have CY := Lib.hid (fun w1 lb q (h : JI N0 W w1 lb q s2 (lgL 0 1 p ls true)) => h.sync' (grew_refl _) (by have := L2.opn; omega) e3 L3.on)
  have CO2 : Hid (∀ s w1 q, LL s 0 1 p ls [] → s.safe.length = 600 → DI N0 W w1 q s → Calls Try.prog 23 #[.pointer (some ⟨q, 0, none⟩)] w1 fun e w' => Grew w1 w' ∧ ∃ lb, e = .returned (.tuple #[.pointer (some ⟨lb, 0, none⟩), .int .i64 0]) ∧ JI N0 W w' lb q s (lgL 0 1 p ls false)) := fun s w1 q L hk h => by
    have e := L.pick
    rw [List.append_nil] at e
    have := h.openJ (lOpen_ok L.on (by omega))
    rw [e] at this
    exact this
  have CC := Lib.hid (fun s w1 q (hl : s.opn = []) (h : DI N0 W w1 q s) => h.crash' A2 n2 c2 zs i2 m2 (by rw [hl]; simp))
  have CT := Lib.hid (fun s w1 q (h : DI N0 W w1 q (dCrash s zs)) => h.start')
  have CX := Lib.hid (fun s w1 lb q (hl : s.opn = []) (L : LL s 0 1 p ls []) (h : JI N0 W w1 lb q s (lgL 0 1 p ls false)) => h.appendX rfl L.on (by rw [hl]; simp))
  have CG := Lib.hid (fun s w1 lb q (h : JI N0 W w1 lb q s (lgL 0 1 p ls false)) => h.genL)
  have CS := Lib.hid (fun s w1 lb q (h : JI N0 W w1 lb q s (lgL 0 1 p ls false)) => h.snapL)
  have CR := Lib.hid (fun s w1 lb q (h : JI N0 W w1 lb q s (lgL 0 1 p ls false)) => h.recsL)
  have CK := Lib.hid (fun (A B : Option Addr) (n m c c2 : Nat) (xs ys : List UInt8) w hx hy hn hm => keepBytes_any A B n m c c2 xs ys w hx hy hn hm)
  have CKR := Lib.hid (fun (A B : Option Addr) (n m c c2 : Nat) (xs ys : List (List UInt8)) w hx hy hn hm => keepRows_any A B n m c c2 xs ys w hx hy hn hm)
  have CW := Lib.hid (fun w => wakes07_any w)
  have HCL := Lib.hid (fun s (L : LL s 0 1 p ls []) (hl : s.opn = []) => L.clean hl zs)
  have B0 := Lib.hid b0
  have B1 := Lib.hid b1
  have HPL := Lib.hid hp
  have HLL := Lib.hid hln
  have H3 := Lib.hid L3
  have H3o := Lib.hid o3
  have H3k := Lib.hid k3
  have hn1 : n1 ≤ 20 := by omega
  clear e1 L1 o1 k1 r1 e2 L2 f2 k2 e3 L3 o3 k3 b0 b1 i2 hp hln hsp hfew hf
  go_enter Try.func5, Try.ntmps5
  go_upto_region 10 with (first
    | (go_at_call 22; ((with_reducible refine (CF.out _ (grew_refl _)).mono ?_); rintro e w0 ⟨rfl, hg⟩; have G1 := Lib.hid hg; clear hg))
    | (go_at_call 12; ((with_reducible refine (CN.out _ G1.out).mono ?_); rintro e w1 ⟨q, rfl, hd⟩; have D0 := Lib.hid hd; clear hd))
    | (go_at_call 23; ((with_reducible refine (CO.out _ _ D0.out).mono ?_); rintro e w2 ⟨hg, lb, rfl, hj⟩; have J0 := Lib.hid hj; clear hj hg))
    | (go_at_call 29; ((with_reducible refine (CB.out _ _ _ J0.out).mono ?_); rintro e w3 ⟨rfl, hj⟩; have J1 := Lib.hid hj; clear hj))
    | (go_at_call 30; ((with_reducible refine (CA.out _ _ _ J1.out).mono ?_); rintro e w4 ⟨rfl, hj⟩; have J2 := Lib.hid hj; clear hj))
    | (go_at_call 31; ((with_reducible refine (CY.out _ _ _ J2.out).mono ?_); rintro e w5 ⟨rfl, hj⟩; have D3 := Lib.hid hj.di; clear hj)))
  clear CF CN CO CB CA CY G1 D0 J0 J1 J2
  go_loopw [10] (fun v10 wr => ∃ (k : Nat) (s : DS), v10 = .int .i64 k ∧ k ≤ 3 ∧ Hid (DI N0 W wr q s) ∧ Hid (LL s 0 1 p ls []) ∧ Hid (s.opn = []) ∧ Hid (s.safe.length = 600)) (fun v10 _ => 3 - (intOf v10).toNat)
  case atStart => exact ⟨0, s3, rfl, by omega, D3, H3, H3o, H3k⟩
  case round =>
    obtain ⟨k, s, rfl, hk, DR, HL, HO, HK⟩ := hrel
    clear D3
    by_cases hlt : k < 3
    · have a3 : (k : Int) < 3 := by omega
      have HCLN := Lib.hid (HCL.out s HL.out HO.out)
      go_wp2_with (first
        | (go_at_call 23; ((with_reducible refine (CO2.out _ _ _ HL.out HK.out DR.out).mono ?_); rintro e w7 ⟨hg, lb2, rfl, hj⟩; have J4 := Lib.hid hj; clear hj hg))
        | (go_at_call 33; ((with_reducible refine (CG.out _ _ _ _ J4.out).mono ?_); rintro e w7b ⟨rfl, rfl⟩))
        | (go_at_call 26; ((with_reducible refine (CS.out _ _ _ _ J4.out).mono ?_); rintro e w8 ⟨hg8, A8, c8, rfl, _, hb8, _⟩; have J5 := Lib.hid (J4.out.grows hg8); have CK8 := Lib.hid (CK.out A8 A0 p.length n0 c8 c0 p p w8 hb8 (B0.out.keep J5.out.grew) (by have := HPL.out; omega) (by omega)); clear hg8 hb8; rw [decide_eq_true rfl] at CK8))
        | (go_at_call 32; ((with_reducible refine CK8.out.mono ?_); rintro e w9 ⟨rfl, hg9⟩; have J6 := Lib.hid (J5.out.grows hg9); clear hg9))
        | (go_at_call 27; ((with_reducible refine (CR.out _ _ _ _ J6.out).mono ?_); rintro e w10 ⟨hg10, v, rfl, hv⟩; obtain ⟨A10, c10, rfl, hb10, -⟩ := hv.toB; have J7 := Lib.hid (J6.out.grows hg10); have CK9 := Lib.hid (CKR.out A10 A1 ls.length n1 c10 c1 ls ls w10 hb10 (B1.out.keep J7.out.grew) (by have := HLL.out; omega) (by omega)); clear hg10 hv hb10; rw [decide_eq_true rfl] at CK9))
        | (go_at_call 34; ((with_reducible refine CK9.out.mono ?_); rintro e w11 ⟨rfl, hg11⟩; have J8 := Lib.hid (J7.out.grows hg11); clear hg11; have m1 := run_mark w11 #[.int .u8 120] w11.heap.size 1 1 rfl))
        | (go_at_call 30; ((with_reducible refine (CX.out _ _ _ _ HO.out HL.out J8.out).mono ?_); rintro e w12 ⟨rfl, hj⟩; have J9 := Lib.hid hj; clear hj))
        | (go_at_call 16; ((with_reducible refine (CC.out _ _ _ HO.out J9.out.di).mono ?_); rintro e w13 ⟨rfl, hd⟩; have D5 := Lib.hid hd; clear hd))
        | (go_at_call 18; ((with_reducible refine (CT.out _ _ _ D5.out).mono ?_); rintro e w14 ⟨rfl, hd⟩; have D6 := Lib.hid hd; clear hd)))
      go_roundw
      case rel => exact ⟨k + 1, dAfter s zs, by go_num, by omega, D6, HCLN.out.1, HCLN.out.2.1, by show _ = _; rw [dAfter_len, HK.out]⟩
      case measure => simp only [intOf]; omega
    · obtain rfl : k = 3 := by omega
      go_wp2_with (go_at_call 21; ((with_reducible refine (CW.out _).mono ?_); rintro e w15 ⟨rfl, hg⟩; have GE := Lib.hid (grew_trans DR.out.grew hg); clear hg))
      go_ret
      exact ⟨rfl, GE.out⟩
theorem logAgain_row (A0 A1 A2 : Option Addr) (n0 n1 n2 c0 c1 c2 : Nat) (l0 : List Int) (l1 : List (List Int)) (l2 : List Int) (W : World) (r0 : Row (spInt .u8) W A0 n0 l0) (r1 : Row (spSliceZ 1 (spInt .u8)) W A1 n1 l1) (r2 : Row (spInt .i64) W A2 n2 l2)
    (a0 : A0 = none → c0 = 0) (m0 : n0 ≤ c0) (m2 : n2 ≤ c2) (k2 : c2 ≤ 9223372036854775807) :
    Calls Try.prog 5 #[.slice A0 n0 c0, .slice A1 n1 c1, .slice A2 n2 c2] W fun e w' => e = .returned (.bool true) ∧ Grew W w' := by
  obtain ⟨bs, hb⟩ := bys_of_row r0
  obtain ⟨xs, hx, _⟩ := rowsB_of_row r1
  exact logAgain_walk A0 A1 A2 n0 n1 n2 c0 c1 c2 bs xs l2 W hb a0 m0 hx (ints_of_spec r2).1 (by omega)
end Go.Proofs.Ythmdbfbhcnjghaa.NumK
namespace Go.Proofs.Ythmdbfbhcnjghaa.logAgain
open Go.ChangeShapes Go.WideShapes Go.ChangeAt Go.RowKit
set_option linter.unusedVariables false

theorem own : ownKnob Try.prog.godebug = none := by kernel_rfl
theorem laidOut : laidOutB Try.prog = true := by kernel_rfl

set_option maxRecDepth 100000 in
theorem lifted (os : Os) (started : os.Started) (H : Type) (enc : TypeId × Value → H) :
    ReturnsInHanded {} Try.checked os 5 .any (Rows.logAgainSpec.pre6 enc Try.prog Try.f5 Rows.logAgainRow.domain false) (Rows.logAgainSpec.post enc Try.prog Try.f5 false true false false) := by
  refine returnsInHanded_of_change_sized (C := Try.checked) own started (by kernel_rfl) Try.func5
    (ChangeSpec.witness6 (enc := enc) (C := Try.checked) false ⟨#[], #[.slice none 0 0, .slice none 0 0, .slice none 0 0], []⟩ 8 (by kernel_rfl) (by kernel_rfl) (by kernel_rfl) (by kernel_rfl)) ?_
  intro W base args ds gs before hval0 hW hcnd hsz0 _
  have hval : ∀ (j : Nat) t v, Try.f5.params[j]? = some t → args[j]? = some v → Value.okWide Try.prog W .any base t v := hval0
  have hW' := hW
  obtain ⟨p, q, hA0, hV, rfl, hfz, hnd⟩ := hW
  have hA : DataW.TrodAll enc Try.prog W 0 (fun _ => true) true Try.f5.params.toList args.toList ds p := hA0
  have hsz : (DataW.weightsEach Try.prog (Try.f5.params.toList ++ Rows.logAgainSpec.plain.varTypes Try.prog) (ds ++ gs)).all (· ≤ reachBytes) = true := hsz0
  rw [Try.params5] at hA hval hsz
  obtain ⟨v0, vs0, d0, ds0, p0, q0, hargs, rfl, rfl, h0, r0⟩ := trodAll_cons hA
  obtain ⟨v1, vs1, d1, ds1, p1, q1, rfl, rfl, rfl, h1, r1⟩ := trodAll_cons r0
  obtain ⟨v2, vs2, d2, ds2, p2, q2, rfl, rfl, rfl, h2, r2⟩ := trodAll_cons r1
  obtain ⟨rfl, rfl, rfl⟩ := trodAll_nil r2
  obtain rfl : args = #[v0, v1, v2] := by cases args; simp_all
  obtain ⟨rfl, rfl⟩ := trodVars_none hV
  have k0 := h0
  have lt0 : ∀ x ∈ p0, x.block < W.heap.size := by obtain ⟨m, hm⟩ := k0; exact DataW.trod_lt m _ _ _ hm
  obtain ⟨A0, len0, cap0, l0, rfl, ro0, n0, c0, m0⟩ := NumK.arg_slice Try.underlying37 NumK.opens_bytes (hval 0 37 v0 rfl rfl) h0
  have k1 := h1
  have lt1 : ∀ x ∈ p1, x.block < W.heap.size := by obtain ⟨m, hm⟩ := k1; exact DataW.trod_lt m _ _ _ hm
  obtain ⟨A1, len1, cap1, l1, rfl, ro1, n1, c1, m1⟩ := NumK.arg_sliceZ Try.underlying38 NumK.opens_rows (hval 1 38 v1 rfl rfl) h1 (j := 1) hsz rfl rfl
  have k2 := h2
  have lt2 : ∀ x ∈ p2, x.block < W.heap.size := by obtain ⟨m, hm⟩ := k2; exact DataW.trod_lt m _ _ _ hm
  obtain ⟨A2, len2, cap2, l2, rfl, ro2, n2, c2, m2⟩ := NumK.arg_slice Try.underlying39 NumK.opens_ints (hval 2 39 v2 rfl rfl) h2
  clear hA0 hval0 hsz hsz0
  refine (NumK.logAgain_row A0 A1 A2 len0 len1 len2 cap0 cap1 cap2 l0 l1 l2 W ro0 ro1 ro2 n0 c0 c2 m2).mono fun e W' ⟨he, bel⟩ => ?_
  subst he
  exact ⟨_, rfl, _, _, _, [], _, [], hW', trodAll_mk1 (shut_bool Try.underlying4 _), (trodAll_cons_mk (Below.trod laidOut (by kernel_rfl) (of_decide_eq_true (by kernel_rfl)) k0 bel lt0) (trodAll_cons_mk (Below.trod laidOut (by kernel_rfl) (of_decide_eq_true (by kernel_rfl)) k1 bel lt1) (trodAll_cons_mk (Below.trod laidOut (by kernel_rfl) (of_decide_eq_true (by kernel_rfl)) k2 bel lt2) trodAll_mk0))), rfl, bel.frame _, fun h => by cases h⟩

theorem over : Rows.logAgainRow.holds Try.pinned (OpenSpec.ofChange Rows.logAgainSpec) :=
  OpenClaim.holds_of_wide 5 Try.f5 rfl rfl rfl rfl rfl rfl rfl ⟨rfl, rfl, rfl, rfl, rfl⟩ rfl rfl rfl rfl rfl (by kernel_rfl) Try.func5 (by kernel_rfl)
    (of_decide_eq_true (by kernel_rfl)) (by unfold Func.isWrapper; first | (rw [if_pos (by decide +kernel)]; kernel_rfl) | (rw [if_neg (by decide +kernel)]; exact ⟨rfl, rfl⟩))
    (fun os started H enc _ => lifted os started H enc)

/-! ### the statement -/
theorem proved : Rows.LogAgainSaid := over
end Go.Proofs.Ythmdbfbhcnjghaa.logAgain
