/-
  For every total and every list of integers no longer than 2000: the parts of a split (P3.1) and of a greedy distribution (P3.2), what is left and the errors are what the document says, and what was handed in stays as it was; a longer list the statement lets by.
-/
import Derived.Test.YtkkemmfghjgmeaaRowI
import Derived.Test.YtkkemmfghjgmeaaWide0
import Derived.Test.YtkkemmfghjgmeaaRefSplit
import Derived.Test.YtkkemmfghjgmeaaKeepInts
import Derived.Test.YtkkemmfghjgmeaaRows
import Derived.WalkKit
import Derived.ProofKit
import Derived.OpenShut
import Derived.ShutString
import Derived.ChangeOld
import Derived.Below
import Derived.Carry
namespace Go.Proofs.Ytkkemmfghjgmeaa.NumK
open Go.RowKit

/-- The same numbers, in memory of the call's own. -/
def TwinPost (l : List Int) (n : Nat) (w : World) (e : Ending) (w' : World) : Prop :=
  Grew w w' ∧ ∃ A c, e = .returned (.slice A n c) ∧ (A = none → n = 0 ∧ c = 0) ∧ Ints w' A n l ∧ ∀ a, A = some a → ∃ g, a = ⟨g, 0, none⟩ ∧ w.heap.size ≤ g ∧ RowI w' g n (fun k => l.getD k 0)

theorem twin_of_own {w w' : World} {e : TypeId} {v : Value} {n : Nat} {zs : List Int} (g : Grew w w') (h : w'.ownsRow w.heap.size e 1 v n (zs.map (Value.int .i64))) : TwinPost zs n w (.returned v) w' := by
  refine ⟨g, ?_⟩
  obtain ⟨A, c, rfl, hI, hA⟩ := ints_of_own h
  refine ⟨A, c, rfl, fun hn => ⟨?_, hA hn⟩, hI, fun a ha => ?_⟩
  · rcases Nat.eq_zero_or_pos n with h0 | h0
    · exact h0
    · obtain ⟨b, o, he, _⟩ := hI.2 h0
      rw [hn] at he; cases he
  · subst ha
    obtain ⟨hl, h⟩ := h
    rcases h with ⟨he, _⟩ | ⟨g, cap, cur, he, hb, hh, h1, h2, h3, h4⟩
    · cases he
    · cases he
      refine ⟨g, rfl, hb, ?_, fun k hk => ⟨?_, ?_⟩⟩
      · rcases Nat.lt_or_ge g w'.heap.size with h5 | h5
        · exact h5
        · rw [Array.getElem?_eq_none h5] at hh; cases hh
      · obtain ⟨b, o, he, _, hc⟩ := hI.2 (by omega)
        cases he
        have := hc k hk
        rwa [Nat.zero_add] at this
      · unfold World.frozen?
        simp [hh]

set_option maxHeartbeats 1000000 in
theorem twinInts_any (A : Option Addr) (n c : Nat) (zs : List Int) (w : World) (hz : Ints w A n zs) (hA : A = none → c = 0) (hn : n ≤ 1000000) :
    Calls Try.prog 10 #[.slice A n c] w (TwinPost zs n w) := by
  have HZ := Lib.hid hz
  have HA := Lib.hid hA
  clear hz hA
  go_enter Try.func10, Try.ntmps10
  go_wp2_with (at_builtin; refine (wpList_append_ints rfl _ _ rfl w.heap.size (.slice none 0 0) 0 [] rfl ⟨rfl, Or.inl ⟨rfl, rfl⟩⟩ A n c zs rfl HA.out HZ.out (by omega) (Nat.le_refl _) ?_); intro v' w' ho hb; rw [Nat.zero_add, List.nil_append] at ho; have HP := Lib.hid (twin_of_own hb ho); clear ho hb)
  go_ret
  exact HP.out

/-- .. of a list that is not empty. -/
def TwinGot (l : List Int) (n : Nat) (w : World) (e : Ending) (w' : World) : Prop :=
  Grew w w' ∧ ∃ g c, e = .returned (.slice (some ⟨g, 0, none⟩) n c) ∧ w.heap.size ≤ g ∧ RowI w' g n (fun k => l.getD k 0)
theorem twinInts_got (A : Option Addr) (n c : Nat) (zs : List Int) (w : World) (hz : Ints w A n zs) (hA : A = none → c = 0) (hn : n ≤ 1000000) (h0 : 0 < n) :
    Calls Try.prog 10 #[.slice A n c] w (TwinGot zs n w) :=
  (twinInts_any A n c zs w hz hA hn).mono fun e w' ⟨hg, A2, c2, he, h1, _, h3⟩ => by
    cases A2 with
    | none => have := (h1 rfl).1; omega
    | some a =>
      obtain ⟨g, rfl, k2, k3⟩ := h3 a rfl
      exact ⟨hg, g, c2, he, k2, k3⟩

set_option maxHeartbeats 1000000 in
theorem spoil_any (B n c : Nat) (d : Nat → Int) (w0 w : World) (hR : RowI w B n d) (hG : Grew w0 w) (hB : w0.heap.size ≤ B) (hn : n ≤ 1000000) :
    Calls Try.prog 14 #[.slice (some ⟨B, 0, none⟩) n c] w fun e w' => e = .returned (.tuple #[]) ∧ Grew w0 w' ∧ Turn B w w' := by
  have HR := Lib.hid hR
  have HG := Lib.hid hG
  clear hR hG
  go_enter Try.func14, Try.ntmps14
  go_wp2
  go_loopw [2] (fun vi wr => ∃ (k : Nat) (d : Nat → Int), vi = .int .i64 k ∧ k ≤ n ∧ Hid (RowI wr B n d) ∧ Hid (Grew w0 wr) ∧ Hid (Turn B w wr)) (fun vi _ => n - (intOf vi).toNat)
  case atStart => exact ⟨0, d, rfl, Nat.zero_le _, HR, HG, Turn.refl _ _⟩
  case round =>
    clear HR HG
    obtain ⟨k, d, rfl, hk, HR, HG, HT⟩ := hrel
    by_cases hlt : k < n
    · have a1 := (HR.out.2 k hlt).1
      have a2 := (HR.out.2 k hlt).2
      have a3 : (k : Int) < (n : Int) := by omega
      have HR2 := Lib.hid (HR.out.set k (-77))
      have HG2 : Hid (Grew w0 (wr.setCell ⟨B, k, none⟩ (.int .i64 (-77)))) := grew_set HG.out _ hB
      have HT2 : Hid (Turn B w (wr.setCell ⟨B, k, none⟩ (.int .i64 (-77)))) := HT.out.setCell _ _
      go_wp2
      go_roundw
      case rel => exact ⟨k + 1, _, by go_num, by omega, HR2, HG2, HT2⟩
      case measure => simp only [intOf]; omega
    · go_wp2
      go_end0
      exact ⟨rfl, HG.out, HT.out⟩
end Go.Proofs.Ytkkemmfghjgmeaa.NumK

namespace Go.Proofs.Ytkkemmfghjgmeaa.NumK
open Go.RowKit

theorem spoil_none (w : World) : Calls Try.prog 14 #[.slice none 0 0] w fun e w' => e = .returned (.tuple #[]) ∧ w = w' := by
  go_enter Try.func14, Try.ntmps14
  go_wp2
  go_loopw [2] (fun vi wr => vi = .int .i64 0 ∧ w = wr) (fun _ _ => 0)
  case atStart => exact ⟨rfl, rfl⟩
  case round =>
    obtain ⟨rfl, rfl⟩ := hrel
    go_wp2
    go_end0
    exact ⟨rfl, rfl⟩
end Go.Proofs.Ytkkemmfghjgmeaa.NumK

namespace Go.Proofs.Ytkkemmfghjgmeaa.NumK
open Go.RowKit

/-- A row that is none, or is new since w0. -/
def Fresh (w0 w : World) (A : Option Addr) (n c : Nat) : Prop := (A = none ∧ n = 0 ∧ c = 0) ∨ ∃ B d, A = some ⟨B, 0, none⟩ ∧ w0.heap.size ≤ B ∧ RowI w B n d
theorem Fresh.keep {w0 w w' : World} {A : Option Addr} {n c : Nat} (h : Fresh w0 w A n c) (g : Grew w w') : Fresh w0 w' A n c := by
  rcases h with h | ⟨B, d, h1, h2, h3⟩
  · exact Or.inl h
  · exact Or.inr ⟨B, d, h1, h2, h3.keep g⟩
theorem spoil_fresh (A : Option Addr) (n c : Nat) (w0 w : World) (h : Fresh w0 w A n c) (hG : Grew w0 w) (hn : n ≤ 1000000) :
    Calls Try.prog 14 #[.slice A n c] w fun e w' => e = .returned (.tuple #[]) ∧ Grew w0 w' := by
  rcases h with ⟨rfl, rfl, rfl⟩ | ⟨B, d, rfl, h2, h3⟩
  · exact (spoil_none w).mono fun e w' ⟨he, hw⟩ => ⟨he, hw ▸ hG⟩
  · exact (spoil_any B n c d w0 w h3 hG h2 hn).mono fun e w' ⟨he, hg, _⟩ => ⟨he, hg⟩

theorem split_fresh {T : Int} {zs : List Int} {w w' : World} {A : Option Addr} {n c : Nat} {ps : List Int} (h1 : spE T zs = 0 → ∃ B, A = some ⟨B, 0, none⟩ ∧ w.heap.size ≤ B ∧ n = zs.length ∧ RowI w' B n (fun k => ps.getD k 0)) (h2 : spE T zs ≠ 0 → A = none ∧ n = 0 ∧ c = 0) : Fresh w w' A n c := by
  by_cases g : spE T zs = 0
  · obtain ⟨B, e1, e2, _, e4⟩ := h1 g
    exact Or.inr ⟨B, _, e1, e2, e4⟩
  · exact Or.inl (h2 g)
theorem split_pl {T : Int} {zs ps : List Int} (hV : SplitVals T zs ps) (h : SplitOK T zs) : ∃ s t, Pl (rs T zs) zs.length s t := by
  have hE : spE T zs = 0 := by
    by_cases g : zs.sum = 0
    · exact spE_zero h.1 (Or.inr (h.2 g))
    · exact spE_zero h.1 (Or.inl g)
  obtain ⟨_, s, t, P, _⟩ := hV.2 hE
  exact ⟨s, t, P⟩

theorem greedy_form (T : Int) (A : Option Addr) (n c : Nat) (zs : List Int) (w : World) (hz : Ints w A n zs) (hn : n ≤ 9223372036854775807) :
    Calls Try.prog 15 #[.int .i64 T, .slice A n c] w fun e w' => ∃ A2 n2 c2, e = .returned (.tuple #[.slice A2 n2 c2, .int .i64 (gV T zs), .int .i64 (chkE T zs)]) ∧ Ints w' A2 n2 (gL T zs) ∧ n2 ≤ 1024 ∧ Grew w w' ∧ Fresh w w' A2 n2 c2 :=
  (greedy_any T A n c zs w hz hn).mono fun e w' ⟨hg, h⟩ => by
    have hl := hz.1
    rcases h with ⟨h1, rfl⟩ | ⟨h1, B, hB, rfl, hR⟩
    · have hV : gV T zs = 0 := by unfold gV; rw [if_neg h1]
      have hL : gL T zs = [] := by unfold gL; rw [if_neg h1]
      exact ⟨none, 0, 0, by rw [hV], by rw [hL]; exact ints0 _ _, by omega, hg, Or.inl ⟨rfl, rfl, rfl⟩⟩
    · have hV : gV T zs = gr T (capAt zs) n := by unfold gV; rw [if_pos h1, hl]
      have hL : gL T zs = (List.range n).map (gp T (capAt zs)) := by unfold gL; rw [if_pos h1, hl]
      have hn2 : n ≤ 1024 := by have := (chk_ok h1).2.2.2.2; omega
      exact ⟨some ⟨B, 0, none⟩, n, n, by rw [hV, h1], by rw [hL]; exact hR.ints, hn2, hg, Or.inr ⟨B, _, rfl, hB, hR⟩⟩

set_option maxRecDepth 100000 in
set_option maxHeartbeats 2000000 in
theorem shareExact_walk (T : Int) (A : Option Addr) (n c : Nat) (zs : List Int) (w : World) (hz : Ints w A n zs) (hA : A = none → c = 0) (hn : n ≤ 9223372036854775807) :
    Calls Try.prog 3 #[.int .i64 T, .slice A n c] w fun e w' => e = .returned (.bool true) ∧ Grew w w' := by
  have HZ := Lib.hid hz
  by_cases hb : n ≤ 2000
  · have CT := twinInts_any A n c zs w hz hA (by omega)
    have CW := fun w => wakes03_any w
    have hb2 : (n : Int) ≤ 2000 := by omega
    clear hz hA
    go_enter Try.func3, Try.ntmps3
    go_upto_region 4 with (go_at_call 10; ((with_reducible refine CT.mono ?_); rintro e w1 ⟨hg1, A1, c1, rfl, _, hI1, _⟩; have HG1 := Lib.hid hg1; have HI1 := Lib.hid hI1; have C1 := split_got T A1 n c1 zs w1 hI1 (by omega); clear hg1 hI1))
    clear CT
    go_upto_region 5 with (go_at_call 11; ((with_reducible refine C1.mono ?_); rintro e w2 ⟨A2, n2, c2, ps, rfl, hI2, hV2, hn2, hg2, hB2, hN2⟩; have HG2 := Lib.hid hg2; have HI2 := Lib.hid hI2; have HV2 := Lib.hid hV2; have HN2 := Lib.hid hn2; have HF2 := Lib.hid (split_fresh hB2 hN2); clear hI2 hV2 hn2 hg2 hB2 hN2))
    have C2 := refSplit_any T A n c zs w2 (HZ.out.keep (grew_trans HG1.out HG2.out)) (by omega) (split_pl HV2.out)
    clear C1
    go_upto_region 6 with (go_at_call 12; ((with_reducible refine C2.mono ?_); rintro e w3 ⟨A3, n3, c3, qs', rfl, hI3, hV3, hn3, hg3⟩; have HG3 := Lib.hid hg3; have HV3 := Lib.hid hV3; have HN3 := Lib.hid hn3; have C3 := keepInts_any A2 A3 n2 n3 c2 c3 ps qs' w3 (HI2.out.keep hg3) hI3 (by have := HN2.out; omega) (by omega); clear hI3 hV3 hn3 hg3))
    clear C2
    rw [decide_eq_true (split_same rfl rfl HV2.out HV3.out (fun _ _ _ _ => Iff.rfl) (fun _ _ _ => rfl))] at C3
    generalize spE T zs = E at *
    go_upto_region 7 with (go_at_call 13; ((with_reducible refine C3.mono ?_); rintro e w4 ⟨rfl, hg4⟩; have HG4 := Lib.hid hg4; clear hg4))
    have C4 := spoil_fresh A2 n2 c2 w1 w4 (HF2.out.keep (grew_trans HG3.out HG4.out)) (grew_trans HG2.out (grew_trans HG3.out HG4.out)) (by have := HN2.out; omega)
    clear C3
    go_upto_region 8 with (go_at_call 14; ((with_reducible refine C4.mono ?_); rintro e w5 ⟨rfl, hg5⟩; have HG5 := Lib.hid hg5; clear hg5))
    have C5 := greedy_form T A1 n c1 zs w5 (HI1.out.keep HG5.out) (by omega)
    clear C4
    go_upto_region 9 with (go_at_call 15; ((with_reducible refine C5.mono ?_); rintro e w6 ⟨A6, n6, c6, rfl, hI6, hn6, hg6, hF6⟩; have HG6 := Lib.hid hg6; have HI6 := Lib.hid hI6; have HN6 := Lib.hid hn6; have HF6 := Lib.hid hF6; clear hI6 hn6 hg6 hF6))
    have C6 := refGreedy_any T A n c zs w6 (HZ.out.keep (grew_trans HG1.out (grew_trans HG5.out HG6.out))) (by omega)
    clear C5
    go_upto_region 10 with (go_at_call 16; ((with_reducible refine C6.mono ?_); rintro e w7 ⟨A7, n7, c7, rfl, hI7, hn7, hg7⟩; have HG7 := Lib.hid hg7; have C7 := keepInts_any A6 A7 n6 n7 c6 c7 _ _ w7 (HI6.out.keep hg7) hI7 (by have := HN6.out; omega) (by omega); clear hI7 hn7 hg7))
    clear C6
    try rw [decide_eq_true (rfl : gL T zs = gL T zs)] at C7
    generalize gV T zs = gv at *
    generalize chkE T zs = ce at *
    go_upto_region 11 with (go_at_call 13; ((with_reducible refine C7.mono ?_); rintro e w8 ⟨rfl, hg8⟩; have HG8 := Lib.hid hg8; clear hg8))
    have C8 := spoil_fresh A6 n6 c6 w5 w8 (HF6.out.keep (grew_trans HG7.out HG8.out)) (grew_trans HG6.out (grew_trans HG7.out HG8.out)) (by have := HN6.out; omega)
    clear C7
    go_upto_region 12 with (go_at_call 14; ((with_reducible refine C8.mono ?_); rintro e w9 ⟨rfl, hg9⟩; have HG9 := Lib.hid hg9; clear hg9))
    have C9 := keepInts_any A1 A n n c1 c zs zs w9 (HI1.out.keep (grew_trans HG5.out HG9.out)) (HZ.out.keep (grew_trans HG1.out (grew_trans HG5.out HG9.out))) (by omega) (by omega)
    rw [decide_eq_true (rfl : zs = zs)] at C9
    clear C8
    go_wp2_with (first
      | (go_at_call 13; ((with_reducible refine C9.mono ?_); rintro e w10 ⟨rfl, hg10⟩; have HG10 := Lib.hid hg10; clear hg10))
      | (go_at_call 17; ((with_reducible refine (CW _).mono ?_); rintro e w11 ⟨rfl, hg11⟩; have HG11 := Lib.hid hg11; clear hg11)))
    go_ret
    exact ⟨rfl, grew_trans HG1.out (grew_trans HG5.out (grew_trans HG9.out (grew_trans HG10.out HG11.out)))⟩
  · have hb2 : (2000 : Int) < n := by omega
    have d : decide ((n : Int) > 2000) = true := decide_eq_true hb2
    clear hz hA
    go_enter Try.func3, Try.ntmps3
    go_wp2
    go_ret
    exact ⟨rfl, Below.refl _ _⟩
end Go.Proofs.Ytkkemmfghjgmeaa.NumK

namespace Go.Proofs.Ytkkemmfghjgmeaa.shareExact
open Go.ChangeShapes Go.WideShapes Go.ChangeAt Go.RowKit
set_option linter.unusedVariables false

theorem own : ownKnob Try.prog.godebug = none := by kernel_rfl
theorem laidOut : laidOutB Try.prog = true := by kernel_rfl

def IsRow (k : IntKind) (w : World) (a : Option Addr) (len cap : Nat) (zs : List Int) : Prop :=
  (a = none ∧ len = 0 ∧ cap = 0 ∧ zs = []) ∨
  ∃ x, a = some x ∧ len ≤ cap ∧ cap ≤ maxLen ∧ zs.length = cap ∧ (∀ i, i < zs.length → w.cell? (x.add i) = some (.int k (zs.getD i 0))) ∧ ∀ n ∈ zs, (Lit.int k n).wf = true

set_option maxRecDepth 100000 in
theorem lifted (os : Os) (started : os.Started) (H : Type) (enc : TypeId × Value → H) :
    ReturnsInHanded {} Try.checked os 3 .any (Rows.shareExactSpec.pre6 enc Try.prog Try.f3 Rows.shareExactRow.domain false) (Rows.shareExactSpec.post enc Try.prog Try.f3 false true false false) := by
  refine returnsInHanded_of_change (C := Try.checked) own started (by kernel_rfl) Try.func3
    (ChangeSpec.witness6 (enc := enc) (C := Try.checked) false ⟨#[], #[.int .i64 0, .slice none 0 0], []⟩ 8 (by kernel_rfl) (by kernel_rfl) (by kernel_rfl) (by kernel_rfl)) ?_
  intro W base args ds gs before hval0 hW hcnd _
  have hval : ∀ (j : Nat) t v, Try.f3.params[j]? = some t → args[j]? = some v → Value.okWide Try.prog W .any base t v := hval0
  have hW' := hW
  obtain ⟨p, q, hA0, hV, rfl, hfz, hnd⟩ := hW
  have hA : DataW.TrodAll enc Try.prog W 0 (fun _ => true) true Try.f3.params.toList args.toList ds p := hA0
  rw [Try.params3] at hA hval
  obtain ⟨v0, vs0, d0, ds0, p0, q0, hargs, rfl, rfl, h0, r0⟩ := trodAll_cons hA
  obtain ⟨v1, vs1, d1, ds1, p1, q1, rfl, rfl, rfl, h1, r1⟩ := trodAll_cons r0
  obtain ⟨rfl, rfl, rfl⟩ := trodAll_nil r1
  obtain rfl : args = #[v0, v1] := by cases args; simp_all
  obtain ⟨rfl, rfl⟩ := trodVars_none hV
  obtain ⟨a0, rfl, rfl, rfl, w0⟩ := open_int Try.underlying3 (hval 0 3 v0 rfl rfl) h0
  have k1 := h1
  have lt1 : ∀ x ∈ p1, x.block < W.heap.size := by obtain ⟨m, hm⟩ := k1; exact DataW.trod_lt m _ _ _ hm
  obtain ⟨a1, len1, cap1, rfl⟩ := okWide_slice Try.underlying22 (hval 1 22 v1 rfl rfl)
  obtain ⟨z1, w1⟩ : ∃ zs, IsRow .i64 W a1 len1 cap1 zs := by
    obtain ⟨fuel, hf⟩ := h1
    rcases open_ints Try.underlying22 Try.underlying3 (by kernel_rfl) hf with ⟨hcs, _⟩ | ⟨x, l, c, zs, hcs, _, hl, hm, hz, _, hcell, hwz⟩
    · simp [Value.cells] at hcs
      obtain ⟨rfl, rfl, rfl⟩ := hcs
      exact ⟨[], .inl ⟨rfl, rfl, rfl, rfl⟩⟩
    · simp [Value.cells] at hcs
      obtain ⟨rfl, rfl, rfl⟩ := hcs
      exact ⟨zs, .inr ⟨_, rfl, hl, hm, by simpa using hz, hcell, hwz⟩⟩
  have y1 : (len1 ≤ cap1 ∧ cap1 ≤ 9223372036854775807) := by
    rcases w1 with ⟨_, rfl, rfl, _⟩ | ⟨_, _, hl, hm, _⟩
    · omega
    · unfold maxLen at hm; omega
  obtain ⟨l1, i1, n1, m1, b1⟩ := NumK.row_intsB w1
  clear hA0 hval0
  refine (NumK.shareExact_walk a0 a1 len1 cap1 l1 W i1 n1 m1).mono fun e W' ⟨he, bel⟩ => ?_
  subst he
  exact ⟨_, rfl, _, _, _, [], _, [], hW', trodAll_mk1 (shut_bool Try.underlying4 _), (trodAll_cons_mk (shut_int Try.underlying3 w0) (trodAll_cons_mk (Below.trod laidOut (by kernel_rfl) (of_decide_eq_true (by kernel_rfl)) k1 bel lt1) trodAll_mk0)), rfl, bel.frame _, fun h => by cases h⟩

theorem over : Rows.shareExactRow.holds Try.pinned (OpenSpec.ofChange Rows.shareExactSpec) :=
  OpenClaim.holds_of_wide 3 Try.f3 rfl rfl rfl rfl rfl rfl rfl ⟨rfl, rfl, rfl, rfl, rfl⟩ rfl rfl rfl rfl rfl (by kernel_rfl) Try.func3 (by kernel_rfl)
    (of_decide_eq_true (by kernel_rfl)) (by unfold Func.isWrapper; first | (rw [if_pos (by decide +kernel)]; kernel_rfl) | (rw [if_neg (by decide +kernel)]; exact ⟨rfl, rfl⟩))
    (fun os started H enc _ => lifted os started H enc)

/-! ### the statement -/
theorem proved : Rows.ShareExactSaid := over
end Go.Proofs.Ytkkemmfghjgmeaa.shareExact
