/-
  Behind the first 40 of whatever postings, those refused left out, the ledger is right, by the reference and by Check, and of each currency the total of all kinds is 0 (P10.4); more than 200 postings, or legs of one, the statement lets by.
-/
import Derived.Test.YtafglljfgoeapaaRS
import Derived.Test.YtafglljfgoeapaaRows
import Derived.WalkKit
import Derived.ProofKit
import Derived.OpenShut
import Derived.ShutString
import Derived.ChangeOld
import Derived.Below
import Derived.Carry
namespace Go.Proofs.Ytafglljfgoeapaa.NumK
open Go.RowKit
set_option linter.unusedVariables false

set_option maxRecDepth 100000 in
set_option maxHeartbeats 2000000 in
theorem ledgerSound_walk (A : Option Addr) (n c : Nat) (l : List Ld) (w : World) (h : Posts w A n l) :
    Calls Try.prog 4 #[.slice A n c] w fun e w' => e = .returned (.bool true) ∧ Grew w w' := by
  by_cases hf : Few n l
  · have HA := Lib.hid h
    have CH := heavy_few (c := c) h hf
    have CG := grown_any A n c l w h hf
    have WK := fun w => wakes10_any w
    clear h hf
    go_enter Try.func4, Try.ntmps4
    go_wp2_with (first
      | (go_at_call 22; ((with_reducible refine CH.mono ?_); rintro e w1 ⟨rfl, rfl⟩; clear CH))
      | (go_at_call 23; ((with_reducible refine CG.mono ?_); rintro e w1 ⟨last, bl, A', c', q, rfl, hl, hg⟩; have HL := Lib.hid hl; have HG1 := Lib.hid hg; unfold ldV; clear hl hg CG))
      | (go_at_call 11; ((with_reducible refine (led_ref HL.out (grew_alloc _ _ _)).mono ?_); rintro e w2 ⟨rfl, hg⟩; have e0 : w2.cell? ⟨w1.heap.size, 0, none⟩ = some (.int .i64 last) := own_cell hg 0; have e1 : w2.cell? ⟨w1.heap.size, 1, none⟩ = some (.slice A' bl.length c') := own_cell hg 1; have HG2 := Lib.hid hg; clear hg))
      | (go_at_call 12; ((with_reducible refine (led_check HL.out (grew_trans (grew_alloc _ _ _) HG2.out)).mono ?_); rintro e w3 ⟨rfl, hg⟩; clear e0 e1; have HG3 := Lib.hid (grew_trans HG2.out hg); clear hg)))
    go_loopw [5] (fun v wr => ∃ q : Nat, v = .int .i64 q ∧ q ≤ 3 ∧ Hid (Grew w3 wr)) (fun v _ => 3 - (intOf v).toNat)
    case atStart => exact ⟨0, rfl, by omega, grew_refl _⟩
    case round =>
      obtain ⟨q, rfl, hq, HG⟩ := hrel
      have e0 : wr.cell? ⟨w1.heap.size, 0, none⟩ = some (.int .i64 last) := own_cell (grew_trans HG3.out HG.out) 0
      have e1 : wr.cell? ⟨w1.heap.size, 1, none⟩ = some (.slice A' bl.length c') := own_cell (grew_trans HG3.out HG.out) 1
      by_cases hq3 : q < 3
      · have i9 : (q : Int) < 3 := by omega
        have CT : ∀ N, N = wr.heap.size → Calls Try.prog 19 #[.agg #[.int .i64 last, .slice A' bl.length c'], .int .i64 q, .slice (some ⟨N, 0, none⟩) 6 6] (wr.alloc (.cells #[.int .i64 1, .int .i64 2, .int .i64 3, .int .i64 4, .int .i64 5, .int .i64 6] 3)) fun e w' => e = .returned (.tuple #[.int .i64 0, .int .i64 0]) ∧ Grew wr w' := by
          rintro N rfl
          have := led_total HL.out (grew_trans (grew_trans (grew_alloc _ _ _) (grew_trans HG3.out HG.out)) (grew_alloc wr #[.int .i64 1, .int .i64 2, .int .i64 3, .int .i64 4, .int .i64 5, .int .i64 6] 3)) q _ 6 6 [1, 2, 3, 4, 5, 6] (ints6' wr 1 2 3 4 5 6 3 _ rfl) (by omega)
          rw [led_sum HL.out q hq3] at this
          exact this.mono fun e w' ⟨he, hg⟩ => ⟨he, own_back hg⟩
        go_wp2_with (go_at_call 19; ((with_reducible refine (CT _ rfl).mono ?_); rintro e w7 ⟨rfl, hg⟩; have HG7 := Lib.hid (grew_trans HG.out hg); clear hg CT))
        go_roundw
        case rel => exact ⟨q + 1, by go_num, by omega, HG7.out⟩
        case measure => simp only [intOf]; omega
      · go_wp2_with (go_at_call 21; ((with_reducible refine (WK _).mono ?_); rintro e w9 ⟨rfl, hg⟩; have HG9 := Lib.hid (grew_trans HG1.out (grew_trans (grew_alloc _ _ _) (grew_trans HG3.out (grew_trans HG.out hg)))); clear hg))
        go_ret
        exact ⟨rfl, HG9.out⟩
  · have CH := heavy_not (c := c) h hf
    clear h hf
    go_enter Try.func4, Try.ntmps4
    go_wp2_with (go_at_call 22; ((with_reducible refine CH.mono ?_); rintro e w1 ⟨rfl, rfl⟩; clear CH))
    go_ret
    exact ⟨rfl, grew_refl _⟩
end Go.Proofs.Ytafglljfgoeapaa.NumK
namespace Go.Proofs.Ytafglljfgoeapaa.ledgerSound
open Go.ChangeShapes Go.WideShapes Go.ChangeAt Go.RowKit
set_option linter.unusedVariables false

theorem own : ownKnob Try.prog.godebug = none := by kernel_rfl
theorem laidOut : laidOutB Try.prog = true := by kernel_rfl

set_option maxRecDepth 100000 in
theorem lifted (os : Os) (started : os.Started) (H : Type) (enc : TypeId × Value → H) :
    ReturnsInHanded {} Try.checked os 4 .any (Rows.ledgerSoundSpec.pre6 enc Try.prog Try.f4 Rows.ledgerSoundRow.domain false) (Rows.ledgerSoundSpec.post enc Try.prog Try.f4 false true false false) := by
  refine returnsInHanded_of_change (C := Try.checked) own started (by kernel_rfl) Try.func4
    (ChangeSpec.witness6 (enc := enc) (C := Try.checked) false ⟨#[], #[.slice none 0 0], []⟩ 8 (by kernel_rfl) (by kernel_rfl) (by kernel_rfl) (by kernel_rfl)) ?_
  intro W base args ds gs before hval0 hW hcnd _
  have hval : ∀ (j : Nat) t v, Try.f4.params[j]? = some t → args[j]? = some v → Value.okWide Try.prog W .any base t v := hval0
  have hW' := hW
  obtain ⟨p, q, hA0, hV, rfl, hfz, hnd⟩ := hW
  have hA : DataW.TrodAll enc Try.prog W 0 (fun _ => true) true Try.f4.params.toList args.toList ds p := hA0
  skip
  rw [Try.params4] at hA hval
  obtain ⟨v0, vs0, d0, ds0, p0, q0, hargs, rfl, rfl, h0, r0⟩ := trodAll_cons hA
  obtain ⟨rfl, rfl, rfl⟩ := trodAll_nil r0
  obtain rfl : args = #[v0] := by cases args; simp_all
  obtain ⟨rfl, rfl⟩ := trodVars_none hV
  have k0 := h0
  have lt0 : ∀ x ∈ p0, x.block < W.heap.size := by obtain ⟨m, hm⟩ := k0; exact DataW.trod_lt m _ _ _ hm
  obtain ⟨A0, len0, cap0, l0, rfl, ro0, n0, c0, m0⟩ := NumK.arg_slice Try.underlying45 NumK.opens_posts (hval 0 45 v0 rfl rfl) h0
  clear hA0 hval0
  refine (NumK.ledgerSound_walk A0 len0 cap0 l0 W (NumK.posts_of_row ro0)).mono fun e W' ⟨he, bel⟩ => ?_
  subst he
  exact ⟨_, rfl, _, _, _, [], _, [], hW', trodAll_mk1 (shut_bool Try.underlying4 _), (trodAll_cons_mk (Below.trod laidOut (by kernel_rfl) (of_decide_eq_true (by kernel_rfl)) k0 bel lt0) trodAll_mk0), rfl, bel.frame _, fun h => by cases h⟩

theorem over : Rows.ledgerSoundRow.holds Try.pinned (OpenSpec.ofChange Rows.ledgerSoundSpec) :=
  OpenClaim.holds_of_wide 4 Try.f4 rfl rfl rfl rfl rfl rfl rfl ⟨rfl, rfl, rfl, rfl, rfl⟩ rfl rfl rfl rfl rfl (by kernel_rfl) Try.func4 (by kernel_rfl)
    (of_decide_eq_true (by kernel_rfl)) (by unfold Func.isWrapper; first | (rw [if_pos (by decide +kernel)]; kernel_rfl) | (rw [if_neg (by decide +kernel)]; exact ⟨rfl, rfl⟩))
    (fun os started H enc _ => lifted os started H enc)

/-! ### the statement -/
theorem proved : Rows.LedgerSoundSaid := over
end Go.Proofs.Ytafglljfgoeapaa.ledgerSound
