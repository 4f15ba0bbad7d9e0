/-
  For every slice of acts: behind them all positions, and all costs, of each instrument add up to 0, and the book is right; more than 500 acts the statement lets by.
-/
import Derived.Test.YtkbmiajgmnfpfaaRX
import Derived.Test.YtkbmiajgmnfpfaaRR2
import Derived.Test.YtkbmiajgmnfpfaaRows
import Derived.WalkKit
import Derived.ProofKit
import Derived.OpenShut
import Derived.Test.YtkbmiajgmnfpfaaRX2
import Derived.ShutString
import Derived.ChangeOld
import Derived.Below
import Derived.Carry
namespace Go.Proofs.Ytkbmiajgmnfpfaa.NumK
open Go.RowKit
set_option linter.unusedVariables false

set_option maxRecDepth 100000 in
set_option maxHeartbeats 8000000 in
theorem bookSound_walk (A : Option Addr) (n c : Nat) (l : List Ac13) (w : World) (h : RowE enAc13 w A n l) :
    Calls Try.prog 4 #[.slice A n c] w fun e w' => e = .returned (.bool true) ∧ Grew w w' := by
  by_cases h5 : 500 < n
  · have k1 : (n : Int) > 500 := by omega
    clear h
    go_enter Try.func4, Try.ntmps4
    go_wp2
    go_ret
    exact ⟨rfl, grew_refl _⟩
  · have k1 : ¬ (n : Int) > 500 := by omega
    have CG := grown13_any A n c l w h (by omega)
    have hgb := GB.grow l 100
    unfold BookP at CG
    clear h
    generalize growL (l.take 100) = G at *
    have hlen := right_lens hgb.right
    have CS := fun (k : Nat) (k1 : 1 ≤ k) (k2 : k < 9) A1 A2 c1 c2 w' (ho : InB w' G A1 A2 G.2.1.length G.2.2.length c1 c2) => bsum_any G A1 A2 _ _ c1 c2 (k : Int) w' ho (by omega)
    have HZ := fun (k : Nat) (k1 : 1 ≤ k) (k2 : k < 9) => hgb.both (k : Int) (by omega) (by omega)
    have CC := fun A1 A2 c1 c2 w' (ho : InB w' G A1 A2 G.2.1.length G.2.2.length c1 c2) => bcheck_any G A1 A2 _ _ c1 c2 w' ho ⟨by omega, by omega⟩
    have CR := fun A1 A2 c1 c2 w' (ho : InB w' G A1 A2 G.2.1.length G.2.2.length c1 c2) => rbook_any G A1 A2 _ _ c1 c2 w' ho ⟨by omega, by omega⟩
    have CW := fun w' => wakes13_any w'
    rw [chkB_yes hgb.right] at CC
    rw [hgb.right] at CR
    obtain ⟨nx, lt, lp⟩ := G
    dsimp only [vBk] at *
    go_enter Try.func4, Try.ntmps4
    go_upto_region 4 with (go_at_call 24; ((with_reducible refine CG.mono ?_); rintro e w1 ⟨B1, B2, d1, d2, rfl, hb, hg⟩; have HB1 := Lib.hid (hb.in.keep (grew_alloc w1 #[.int .i64 nx, .slice B1 lt.length d1, .slice B2 lp.length d2] 25)); have HG1 := Lib.hid (grew_trans hg (grew_alloc w1 #[.int .i64 nx, .slice B1 lt.length d1, .slice B2 lp.length d2] 25)); have HX1 := Lib.hid (OwnC.new w1 [.int .i64 nx, .slice B1 lt.length d1, .slice B2 lp.length d2] 25 _ rfl); clear hb hg CG))
    generalize w1.alloc (.cells #[.int .i64 nx, .slice B1 lt.length d1, .slice B2 lp.length d2] 25) = w2 at *
    generalize w1.heap.size = H at *
    go_wp2
    go_loopw [4] (fun v wr => ∃ k : Nat, v = .int .i64 k ∧ 1 ≤ k ∧ k ≤ 9 ∧ Hid (Grew w2 wr)) (fun v _ => 9 - (intOf v).toNat)
    case atStart => exact ⟨1, rfl, by omega, by omega, grew_refl _⟩
    case round =>
      obtain ⟨k, rfl, hk1, hk, HG⟩ := hrel
      have HX := Lib.hid (HX1.out.keep HG.out)
      have x0 : wr.cell? ⟨H, 0, none⟩ = some (.int .i64 nx) := HX.out.at 0 _ rfl
      have x1 : wr.cell? ⟨H, 1, none⟩ = some (.slice B1 lt.length d1) := HX.out.at 1 _ rfl
      have x2 : wr.cell? ⟨H, 2, none⟩ = some (.slice B2 lp.length d2) := HX.out.at 2 _ rfl
      by_cases hk9 : k < 9
      · have i1 : (k : Int) ≤ 8 := by omega
        obtain ⟨z1, z2⟩ := HZ k hk1 hk9
        have CT := CS k hk1 hk9 B1 B2 d1 d2 wr (HB1.out.keep HG.out)
        rw [z1, z2] at CT
        clear z1 z2
        go_wp2_with (go_at_call 11; ((with_reducible refine CT.mono ?_); rintro e w3 ⟨rfl, hg⟩; have HG3 := Lib.hid (grew_trans HG.out hg); clear hg))
        go_roundw
        case rel => exact ⟨k + 1, by go_num, by omega, by omega, HG3.out⟩
        case measure => simp only [intOf]; omega
      · obtain rfl : k = 9 := by omega
        have CC2 := CC B1 B2 d1 d2 wr (HB1.out.keep HG.out)
        have CR2 := fun w' (g : Grew w2 w') => CR B1 B2 d1 d2 w' (HB1.out.keep g)
        clear CC CR CS HZ
        go_wp2_with (first
          | (go_at_call 13; ((with_reducible refine CC2.mono ?_); rintro e w3 ⟨rfl, hg⟩; have HG3 := Lib.hid (grew_trans HG.out hg); have HX3 := Lib.hid (HX1.out.keep HG3.out); have y0 : w3.cell? ⟨H, 0, none⟩ = some (.int .i64 nx) := HX3.out.at 0 _ rfl; have y1 : w3.cell? ⟨H, 1, none⟩ = some (.slice B1 lt.length d1) := HX3.out.at 1 _ rfl; have y2 : w3.cell? ⟨H, 2, none⟩ = some (.slice B2 lp.length d2) := HX3.out.at 2 _ rfl; clear hg))
          | (go_at_call 14; ((with_reducible refine (CR2 _ HG3.out).mono ?_); rintro e w4 ⟨rfl, hg⟩; have HG4 := Lib.hid (grew_trans HG3.out hg); clear hg))
          | (go_at_call 23; ((with_reducible refine (CW _).mono ?_); rintro e w5 ⟨rfl, hg⟩; have HG5 := Lib.hid (grew_trans HG4.out hg); clear hg)))
        go_ret
        exact ⟨rfl, grew_trans HG1.out HG5.out⟩
end Go.Proofs.Ytkbmiajgmnfpfaa.NumK
namespace Go.Proofs.Ytkbmiajgmnfpfaa.bookSound
open Go.ChangeShapes Go.WideShapes Go.ChangeAt Go.RowKit
set_option linter.unusedVariables false

theorem own : ownKnob Try.prog.godebug = none := by kernel_rfl
theorem laidOut : laidOutB Try.prog = true := by kernel_rfl

set_option maxRecDepth 100000 in
theorem lifted (os : Os) (started : os.Started) (H : Type) (enc : TypeId × Value → H) :
    ReturnsInHanded {} Try.checked os 4 .any (Rows.bookSoundSpec.pre6 enc Try.prog Try.f4 Rows.bookSoundRow.domain false) (Rows.bookSoundSpec.post enc Try.prog Try.f4 false true false false) := by
  refine returnsInHanded_of_change (C := Try.checked) own started (by kernel_rfl) Try.func4
    (ChangeSpec.witness6 (enc := enc) (C := Try.checked) false ⟨#[], #[.slice none 0 0], []⟩ 8 (by kernel_rfl) (by kernel_rfl) (by kernel_rfl) (by kernel_rfl)) ?_
  intro W base args ds gs before hval0 hW hcnd _
  have hval : ∀ (j : Nat) t v, Try.f4.params[j]? = some t → args[j]? = some v → Value.okWide Try.prog W .any base t v := hval0
  have hW' := hW
  obtain ⟨p, q, hA0, hV, rfl, hfz, hnd⟩ := hW
  have hA : DataW.TrodAll enc Try.prog W 0 (fun _ => true) true Try.f4.params.toList args.toList ds p := hA0
  skip
  rw [Try.params4] at hA hval
  obtain ⟨v0, vs0, d0, ds0, p0, q0, hargs, rfl, rfl, h0, r0⟩ := trodAll_cons hA
  obtain ⟨rfl, rfl, rfl⟩ := trodAll_nil r0
  obtain rfl : args = #[v0] := by cases args; simp_all
  obtain ⟨rfl, rfl⟩ := trodVars_none hV
  have k0 := h0
  have lt0 : ∀ x ∈ p0, x.block < W.heap.size := by obtain ⟨m, hm⟩ := k0; exact DataW.trod_lt m _ _ _ hm
  obtain ⟨A0, len0, cap0, l0, rfl, ro0, n0, c0, m0⟩ := NumK.arg_slice Try.underlying45 NumK.opens_acts (hval 0 45 v0 rfl rfl) h0
  clear hA0 hval0
  refine (NumK.bookSound_walk A0 len0 cap0 l0 W (NumK.acs13_of ro0)).mono fun e W' ⟨he, bel⟩ => ?_
  subst he
  exact ⟨_, rfl, _, _, _, [], _, [], hW', trodAll_mk1 (shut_bool Try.underlying4 _), (trodAll_cons_mk (Below.trod laidOut (by kernel_rfl) (of_decide_eq_true (by kernel_rfl)) k0 bel lt0) trodAll_mk0), rfl, bel.frame _, fun h => by cases h⟩

theorem over : Rows.bookSoundRow.holds Try.pinned (OpenSpec.ofChange Rows.bookSoundSpec) :=
  OpenClaim.holds_of_wide 4 Try.f4 rfl rfl rfl rfl rfl rfl rfl ⟨rfl, rfl, rfl, rfl, rfl⟩ rfl rfl rfl rfl rfl (by kernel_rfl) Try.func4 (by kernel_rfl)
    (of_decide_eq_true (by kernel_rfl)) (by unfold Func.isWrapper; first | (rw [if_pos (by decide +kernel)]; kernel_rfl) | (rw [if_neg (by decide +kernel)]; exact ⟨rfl, rfl⟩))
    (fun os started H enc _ => lifted os started H enc)

/-! ### the statement -/
theorem proved : Rows.BookSoundSaid := over
end Go.Proofs.Ytkbmiajgmnfpfaa.bookSound
