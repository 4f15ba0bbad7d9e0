/-
  For every quantity and all bids: what is filled and the rest are all of it, as much as was bid for, no price stands behind a worse one, nobody gets more than he bid for at that price, and who bids better than one that got some got all of his; what may not be is refused with nothing; more than 300 bids the statement lets by.
-/
import Derived.Test.YtahioajpmlochaaRG16
import Derived.Test.YtahioajpmlochaaRG15
import Derived.Test.YtahioajpmlochaaRows
import Derived.WalkKit
import Derived.ProofKit
import Derived.OpenShut
import Derived.ShutString
import Derived.ChangeOld
import Derived.Below
import Derived.Carry
namespace Go.Proofs.Ytahioajpmlochaa.NumK
open Go.RowKit
theorem auctionFair_row (w : World) {q : Int} (hw : (Lit.int .i64 q).wf = true) {A : Option Addr} {n c : Nat} {l : List B5} (h : Row spBi w A n l) (hk : A = none → c = 0) :
    Calls Try.prog 4 #[.int .i64 q, .slice A n c] w fun e w' => e = .returned (.bool true) ∧ Grew w w' :=
  auctionFair_walk q A n c l w (bis_row h) hk (bis_in h) (in64_wf hw)
end Go.Proofs.Ytahioajpmlochaa.NumK
namespace Go.Proofs.Ytahioajpmlochaa.auctionFair
open Go.ChangeShapes Go.WideShapes Go.ChangeAt Go.RowKit
set_option linter.unusedVariables false

theorem own : ownKnob Try.prog.godebug = none := by kernel_rfl
theorem laidOut : laidOutB Try.prog = true := by kernel_rfl

set_option maxRecDepth 100000 in
theorem lifted (os : Os) (started : os.Started) (H : Type) (enc : TypeId × Value → H) :
    ReturnsInHanded {} Try.checked os 4 .any (Rows.auctionFairSpec.pre6 enc Try.prog Try.f4 Rows.auctionFairRow.domain false) (Rows.auctionFairSpec.post enc Try.prog Try.f4 false true false false) := by
  refine returnsInHanded_of_change (C := Try.checked) own started (by kernel_rfl) Try.func4
    (ChangeSpec.witness6 (enc := enc) (C := Try.checked) false ⟨#[], #[.int .i64 0, .slice none 0 0], []⟩ 8 (by kernel_rfl) (by kernel_rfl) (by kernel_rfl) (by kernel_rfl)) ?_
  intro W base args ds gs before hval0 hW hcnd _
  have hval : ∀ (j : Nat) t v, Try.f4.params[j]? = some t → args[j]? = some v → Value.okWide Try.prog W .any base t v := hval0
  have hW' := hW
  obtain ⟨p, q, hA0, hV, rfl, hfz, hnd⟩ := hW
  have hA : DataW.TrodAll enc Try.prog W 0 (fun _ => true) true Try.f4.params.toList args.toList ds p := hA0
  skip
  rw [Try.params4] at hA hval
  obtain ⟨v0, vs0, d0, ds0, p0, q0, hargs, rfl, rfl, h0, r0⟩ := trodAll_cons hA
  obtain ⟨v1, vs1, d1, ds1, p1, q1, rfl, rfl, rfl, h1, r1⟩ := trodAll_cons r0
  obtain ⟨rfl, rfl, rfl⟩ := trodAll_nil r1
  obtain rfl : args = #[v0, v1] := by cases args; simp_all
  obtain ⟨rfl, rfl⟩ := trodVars_none hV
  obtain ⟨a0, rfl, rfl, rfl, w0⟩ := open_int Try.underlying3 (hval 0 3 v0 rfl rfl) h0
  have k1 := h1
  have lt1 : ∀ x ∈ p1, x.block < W.heap.size := by obtain ⟨m, hm⟩ := k1; exact DataW.trod_lt m _ _ _ hm
  obtain ⟨A1, len1, cap1, l1, rfl, ro1, n1, c1, m1⟩ := NumK.arg_slice Try.underlying22 NumK.opens_bis (hval 1 22 v1 rfl rfl) h1
  clear hA0 hval0
  refine (NumK.auctionFair_row W w0 ro1 n1).mono fun e W' ⟨he, bel⟩ => ?_
  subst he
  exact ⟨_, rfl, _, _, _, [], _, [], hW', trodAll_mk1 (shut_bool Try.underlying4 _), (trodAll_cons_mk (shut_int Try.underlying3 w0) (trodAll_cons_mk (Below.trod laidOut (by kernel_rfl) (of_decide_eq_true (by kernel_rfl)) k1 bel lt1) trodAll_mk0)), rfl, bel.frame _, fun h => by cases h⟩

theorem over : Rows.auctionFairRow.holds Try.pinned (OpenSpec.ofChange Rows.auctionFairSpec) :=
  OpenClaim.holds_of_wide 4 Try.f4 rfl rfl rfl rfl rfl rfl rfl ⟨rfl, rfl, rfl, rfl, rfl⟩ rfl rfl rfl rfl rfl (by kernel_rfl) Try.func4 (by kernel_rfl)
    (of_decide_eq_true (by kernel_rfl)) (by unfold Func.isWrapper; first | (rw [if_pos (by decide +kernel)]; kernel_rfl) | (rw [if_neg (by decide +kernel)]; exact ⟨rfl, rfl⟩))
    (fun os started H enc _ => lifted os started H enc)

/-! ### the statement -/
theorem proved : Rows.AuctionFairSaid := over
end Go.Proofs.Ytahioajpmlochaa.auctionFair
