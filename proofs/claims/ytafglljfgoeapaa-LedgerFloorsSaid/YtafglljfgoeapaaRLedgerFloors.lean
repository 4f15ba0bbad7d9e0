/-
  Behind the first 40 of whatever postings: what is moved from an account to the bank of its currency is refused with the floor error where the account is of the fund or the skin and has less, and is posted otherwise, the account then having that much less (P10.2); more than 200 postings, or legs of one, a last number of 2^39 or more, moves of less than 1 or more than 2^50, accounts that are none or the bank, and balances beyond 2^60, the statement lets by.
-/
import Derived.Test.YtafglljfgoeapaaRS
import Derived.Test.YtafglljfgoeapaaRows
import Derived.WalkKit
import Derived.ProofKit
import Derived.OpenShut
import Derived.ShutString
import Derived.ChangeOld
import Derived.Below
import Derived.Carry
namespace Go.Proofs.Ytafglljfgoeapaa.NumK
open Go.RowKit
set_option linter.unusedVariables false

set_option maxRecDepth 100000 in
set_option maxHeartbeats 8000000 in
theorem ledgerFloors_walk (A : Option Addr) (n c : Nat) (l : List Ld) (k m r x : Int) (w : World) (h : Posts w A n l) (hxr : -9223372036854775808 ≤ x ∧ x ≤ 9223372036854775807) :
    Calls Try.prog 9 #[.slice A n c, acV k m r, .int .i64 x] w fun e w' => e = .returned (.bool true) ∧ Grew w w' := by
  have HA := Lib.hid h
  have WK := fun w => wakes10_any w
  unfold acV
  by_cases hf : Few n l
  · have CH := fun w' (g : Grew w w') => heavy_few (c := c) (HA.out.keep g) hf
    have CG := fun w' (g : Grew w w') => grown_any A n c l w' (HA.out.keep g) hf
    clear h hf
    by_cases hx1 : x < 1
    · clear CG
      go_enter Try.func9, Try.ntmps9
      go_wp2_with (go_at_call 22; ((with_reducible refine (CH _ (grew_alloc _ _ _)).mono ?_); rintro e w1 ⟨rfl, rfl⟩; clear CH))
      go_ret
      exact ⟨rfl, grew_alloc _ _ _⟩
    by_cases hx2 : 1125899906842624 < x
    · clear CG
      go_enter Try.func9, Try.ntmps9
      go_wp2_with (go_at_call 22; ((with_reducible refine (CH _ (grew_alloc _ _ _)).mono ?_); rintro e w1 ⟨rfl, rfl⟩; clear CH))
      go_ret
      exact ⟨rfl, grew_alloc _ _ _⟩
    go_enter Try.func9, Try.ntmps9
    go_upto_region 6 with (first
      | (go_at_call 22; ((with_reducible refine (CH _ (grew_alloc _ _ _)).mono ?_); rintro e w1 ⟨rfl, rfl⟩; clear CH))
      | (go_at_call 23; ((with_reducible refine (CG _ (grew_alloc _ _ _)).mono ?_); rintro e w1 ⟨last, bl, A1, c1, q, rfl, hl, hg⟩; have HL := Lib.hid hl; have HG1 := Lib.hid hg; have b0 : w1.cell? ⟨w.heap.size, 0, none⟩ = some (.int .i64 k) := own_cell hg 0; have b1 : w1.cell? ⟨w.heap.size, 1, none⟩ = some (.int .i64 m) := own_cell hg 1; have b2 : w1.cell? ⟨w.heap.size, 2, none⟩ = some (.int .i64 r) := own_cell hg 2; have hz0 : w.heap.size < w1.heap.size := own_lt hg; unfold ldV; clear hl hg CG))
      | (go_at_call 13; ((with_reducible refine (led_of HL.out (grew_alloc _ _ _) k m r).mono ?_); rintro e w2 ⟨rfl, hg⟩; have HG2 := Lib.hid hg; have b0' : w2.cell? ⟨w.heap.size, 0, none⟩ = some (.int .i64 k) := (grew_cell (own_back hg) (p := ⟨w.heap.size, 0, none⟩) hz0).trans b0; have b1' : w2.cell? ⟨w.heap.size, 1, none⟩ = some (.int .i64 m) := (grew_cell (own_back hg) (p := ⟨w.heap.size, 1, none⟩) hz0).trans b1; have b2' : w2.cell? ⟨w.heap.size, 2, none⟩ = some (.int .i64 r) := (grew_cell (own_back hg) (p := ⟨w.heap.size, 2, none⟩) hz0).trans b2; have hz0' : w.heap.size < w2.heap.size := Nat.lt_of_lt_of_le hz0 (own_back hg).size; clear hg b0 b1 b2 hz0)))
    have HG21 : Hid (Grew w1 w2) := own_back HG2.out
    have HGW : Hid (Grew w (w2.alloc (.cells #[.int .i64 1, .int .i64 0, .int .i64 r] 27))) := grew_trans (own_back HG1.out) (grew_trans HG21.out (grew_alloc _ _ _))
    have HC : Hid (∀ w', Grew (w2.alloc (.cells #[.int .i64 1, .int .i64 0, .int .i64 r] 27)) w' → (w'.cell? ⟨w.heap.size, 0, none⟩ = some (.int .i64 k) ∧ w'.cell? ⟨w.heap.size, 1, none⟩ = some (.int .i64 m) ∧ w'.cell? ⟨w.heap.size, 2, none⟩ = some (.int .i64 r)) ∧ (w'.cell? ⟨w1.heap.size, 0, none⟩ = some (.int .i64 last) ∧ w'.cell? ⟨w1.heap.size, 1, none⟩ = some (.slice A1 bl.length c1)) ∧ (w'.cell? ⟨w2.heap.size, 0, none⟩ = some (.int .i64 1) ∧ w'.cell? ⟨w2.heap.size, 1, none⟩ = some (.int .i64 0) ∧ w'.cell? ⟨w2.heap.size, 2, none⟩ = some (.int .i64 r)) ∧ (w.heap.size < w'.heap.size ∧ w1.heap.size < w'.heap.size ∧ w2.heap.size < w'.heap.size)) := fun w' g =>
      ⟨⟨own_cell (grew_trans HG1.out (grew_trans HG21.out (own_back g))) 0, own_cell (grew_trans HG1.out (grew_trans HG21.out (own_back g))) 1, own_cell (grew_trans HG1.out (grew_trans HG21.out (own_back g))) 2⟩, ⟨own_cell (grew_trans HG2.out (own_back g)) 0, own_cell (grew_trans HG2.out (own_back g)) 1⟩, ⟨own_cell g 0, own_cell g 1, own_cell g 2⟩, ⟨own_lt (grew_trans HG1.out (grew_trans HG21.out (own_back g))), own_lt (grew_trans HG2.out (own_back g)), own_lt g⟩⟩
    have HLk : Hid (∀ w', Grew (w2.alloc (.cells #[.int .i64 1, .int .i64 0, .int .i64 r] 27)) w' → Led w' 0 last bl A1 c1) := fun w' g => (HL.out.keep (grew_trans HG21.out (own_back g))).mono (Nat.zero_le _)
    generalize w2.alloc (.cells #[.int .i64 1, .int .i64 0, .int .i64 r] 27) = wq at *
    clear b0' b1' b2' hz0'
    obtain ⟨⟨b0, b1, b2⟩, ⟨s0, s1⟩, ⟨a0, a1, a2⟩, hz0, hz1, hz2⟩ := HC.out wq (grew_refl _)
    have hl0 : 0 ≤ last := (ledger_parts HL.out.ok).1
    have CR := fun w => r8right_any k m r w
    have COB := fun w' (g : Grew wq w') => led_of (HLk.out wq (grew_refl _)) g 1 0 r
    have FM := Lib.hid (fun h1 h2 h3 h4 h5 h6 => floors_math HL.out.ok h1 (k, m, r) x h2 h3 h4 h5 h6)
    unfold acV at CR
    unfold bankA at FM
    generalize hhs : sumA bl (k, m, r) = hs at *
    generalize sumA bl (1, 0, r) = hb at *
    generalize hrr : rightA k m r = rr at *
    have HRR := Lib.hid hrr
    clear hhs hrr
    by_cases h39 : 549755813888 ≤ last
    · go_wp2_with (first
        | (go_at_call 21; ((with_reducible refine (WK _).mono ?_); rintro e w9 ⟨rfl, hg⟩; have HG9 := Lib.hid (grew_trans HGW.out hg); clear hg)))
      go_ret
      exact ⟨rfl, HG9.out⟩
    cases rr
    · go_wp2_with (first
        | (go_at_call 27; ((with_reducible refine (CR _).mono ?_); rintro e w3 ⟨rfl, hg⟩; have G3 := Lib.hid hg; obtain ⟨⟨b0, b1, b2⟩, ⟨s0, s1⟩, ⟨a0, a1, a2⟩, hz0, hz1, hz2⟩ := HC.out w3 hg; clear hg CR))
        | (go_at_call 21; ((with_reducible refine (WK _).mono ?_); rintro e w9 ⟨rfl, hg⟩; have HG9 := Lib.hid (grew_trans HGW.out (grew_trans G3.out hg)); clear hg)))
      go_ret
      exact ⟨rfl, HG9.out⟩
    by_cases hk1 : k = 1
    · have d1 : (k == 1) = true := by simpa using hk1
      clear hk1
      go_wp2_with (first
        | (go_at_call 27; ((with_reducible refine (CR _).mono ?_); rintro e w3 ⟨rfl, hg⟩; have G3 := Lib.hid hg; obtain ⟨⟨b0, b1, b2⟩, ⟨s0, s1⟩, ⟨a0, a1, a2⟩, hz0, hz1, hz2⟩ := HC.out w3 hg; clear hg CR))
        | (go_at_call 21; ((with_reducible refine (WK _).mono ?_); rintro e w9 ⟨rfl, hg⟩; have HG9 := Lib.hid (grew_trans HGW.out (grew_trans G3.out hg)); clear hg)))
      go_ret
      exact ⟨rfl, HG9.out⟩
    have d1 : (k == 1) = false := by simpa using hk1
    by_cases hs1 : 1152921504606846976 < hs
    · go_wp2_with (first
        | (go_at_call 27; ((with_reducible refine (CR _).mono ?_); rintro e w3 ⟨rfl, hg⟩; have G3 := Lib.hid hg; obtain ⟨⟨b0, b1, b2⟩, ⟨s0, s1⟩, ⟨a0, a1, a2⟩, hz0, hz1, hz2⟩ := HC.out w3 hg; clear hg CR))
        | (go_at_call 21; ((with_reducible refine (WK _).mono ?_); rintro e w9 ⟨rfl, hg⟩; have HG9 := Lib.hid (grew_trans HGW.out (grew_trans G3.out hg)); clear hg)))
      go_ret
      exact ⟨rfl, HG9.out⟩
    by_cases hs2 : hs < -1152921504606846976
    · go_wp2_with (first
        | (go_at_call 27; ((with_reducible refine (CR _).mono ?_); rintro e w3 ⟨rfl, hg⟩; have G3 := Lib.hid hg; obtain ⟨⟨b0, b1, b2⟩, ⟨s0, s1⟩, ⟨a0, a1, a2⟩, hz0, hz1, hz2⟩ := HC.out w3 hg; clear hg CR))
        | (go_at_call 21; ((with_reducible refine (WK _).mono ?_); rintro e w9 ⟨rfl, hg⟩; have HG9 := Lib.hid (grew_trans HGW.out (grew_trans G3.out hg)); clear hg)))
      go_ret
      exact ⟨rfl, HG9.out⟩
    by_cases hb1 : 1152921504606846976 < hb
    · go_wp2_with (first
        | (go_at_call 27; ((with_reducible refine (CR _).mono ?_); rintro e w3 ⟨rfl, hg⟩; have G3 := Lib.hid hg; obtain ⟨⟨b0, b1, b2⟩, ⟨s0, s1⟩, ⟨a0, a1, a2⟩, hz0, hz1, hz2⟩ := HC.out w3 hg; clear hg CR))
        | (go_at_call 13; ((with_reducible refine (COB _ G3.out).mono ?_); rintro e w4 ⟨rfl, hg⟩; have G4 := Lib.hid (grew_trans G3.out hg); obtain ⟨⟨b0, b1, b2⟩, ⟨s0, s1⟩, ⟨a0, a1, a2⟩, hz0, hz1, hz2⟩ := HC.out w4 G4.out; clear hg))
        | (go_at_call 21; ((with_reducible refine (WK _).mono ?_); rintro e w9 ⟨rfl, hg⟩; have HG9 := Lib.hid (grew_trans HGW.out (grew_trans G4.out hg)); clear hg)))
      go_ret
      exact ⟨rfl, HG9.out⟩
    by_cases hb2 : hb < -1152921504606846976
    · go_wp2_with (first
        | (go_at_call 27; ((with_reducible refine (CR _).mono ?_); rintro e w3 ⟨rfl, hg⟩; have G3 := Lib.hid hg; obtain ⟨⟨b0, b1, b2⟩, ⟨s0, s1⟩, ⟨a0, a1, a2⟩, hz0, hz1, hz2⟩ := HC.out w3 hg; clear hg CR))
        | (go_at_call 13; ((with_reducible refine (COB _ G3.out).mono ?_); rintro e w4 ⟨rfl, hg⟩; have G4 := Lib.hid (grew_trans G3.out hg); obtain ⟨⟨b0, b1, b2⟩, ⟨s0, s1⟩, ⟨a0, a1, a2⟩, hz0, hz1, hz2⟩ := HC.out w4 G4.out; clear hg))
        | (go_at_call 13; ((with_reducible refine (COB _ G4.out).mono ?_); rintro e w5 ⟨rfl, hg⟩; have G5 := Lib.hid (grew_trans G4.out hg); obtain ⟨⟨b0, b1, b2⟩, ⟨s0, s1⟩, ⟨a0, a1, a2⟩, hz0, hz1, hz2⟩ := HC.out w5 G5.out; clear hg))
        | (go_at_call 21; ((with_reducible refine (WK _).mono ?_); rintro e w9 ⟨rfl, hg⟩; have HG9 := Lib.hid (grew_trans HGW.out (grew_trans G5.out hg)); clear hg)))
      go_ret
      exact ⟨rfl, HG9.out⟩
    go_upto_region 8 with (first
      | (go_at_call 27; ((with_reducible refine (CR _).mono ?_); rintro e w3 ⟨rfl, hg⟩; have G3 := Lib.hid hg; obtain ⟨⟨b0, b1, b2⟩, ⟨s0, s1⟩, ⟨a0, a1, a2⟩, hz0, hz1, hz2⟩ := HC.out w3 hg; clear hg CR))
      | (go_at_call 13; ((with_reducible refine (COB _ G3.out).mono ?_); rintro e w4 ⟨rfl, hg⟩; have G4 := Lib.hid (grew_trans G3.out hg); obtain ⟨⟨b0, b1, b2⟩, ⟨s0, s1⟩, ⟨a0, a1, a2⟩, hz0, hz1, hz2⟩ := HC.out w4 G4.out; clear hg))
      | (go_at_call 13; ((with_reducible refine (COB _ G4.out).mono ?_); rintro e wt ⟨rfl, hg⟩; have G5 := Lib.hid (grew_trans G4.out hg); obtain ⟨⟨b0, b1, b2⟩, ⟨s0, s1⟩, ⟨a0, a1, a2⟩, hz0, hz1, hz2⟩ := HC.out wt G5.out; clear hg)))
    clear b0 b1 b2 s0 s1 a0 a1 a2 hz0 hz1 hz2 COB
    have HS0 := Lib.hid (fun w' (g : Grew wt w') => grew_trans G5.out g)
    have i1 : IntKind.i64.wrap (last + 1) = last + 1 := by rw [IntKind.wrap_i64]; omega
    have HC5 := Lib.hid (fun w' (g : Grew wt w') => HC.out w' (HS0.out w' g))
    have HLk5 := Lib.hid (fun w' (g : Grew wt w') => HLk.out w' (HS0.out w' g))
    have HGW5 := Lib.hid (grew_trans HGW.out G5.out)
    clear HC HLk HGW HS0 G3 G4 G5
    have HC := HC5
    have HLk := HLk5
    have HGW := HGW5
    clear HC5 HLk5 HGW5
    have hfm := FM.out (by omega) (by first | exact HRR.out | trivial) hk1 (by omega) (by omega) (by omega)
    have hfl := Lib.hid hfm
    clear hfm FM
    have CP := fun w' (g : Grew wt w') B' (hr : RowE enLg w' B' 2 (moveL (k, m, r) (1, 0, r) x)) => led_post (HLk.out wt (grew_refl _)) g (last + 1) B' 2 2 _ hr (rowE_ne hr (by omega)) (by omega)
    have CM := fun w => refMove_any k m r 1 0 r x w
    unfold acV at CM
    have HS : Hid (∀ w', Grew wt w' → w'.cell? ⟨w1.heap.size, 0, none⟩ = some (.int .i64 last) ∧ w'.cell? ⟨w1.heap.size, 1, none⟩ = some (.slice A1 bl.length c1) ∧ w'.cell? ⟨w.heap.size, 0, none⟩ = some (.int .i64 k) ∧ w'.cell? ⟨w.heap.size, 1, none⟩ = some (.int .i64 m) ∧ w'.cell? ⟨w.heap.size, 2, none⟩ = some (.int .i64 r) ∧ w'.cell? ⟨w2.heap.size, 0, none⟩ = some (.int .i64 1) ∧ w'.cell? ⟨w2.heap.size, 1, none⟩ = some (.int .i64 0) ∧ w'.cell? ⟨w2.heap.size, 2, none⟩ = some (.int .i64 r)) := fun w' g =>
      ⟨(HC.out w' g).2.1.1, (HC.out w' g).2.1.2, (HC.out w' g).1.1, (HC.out w' g).1.2.1, (HC.out w' g).1.2.2, (HC.out w' g).2.2.1.1, (HC.out w' g).2.2.1.2.1, (HC.out w' g).2.2.1.2.2⟩
    generalize hmv : moveL (k, m, r) (1, 0, r) x = mv at *
    clear hmv
    by_cases hlow : (k = 3 ∨ k = 4) ∧ hs < x
    · have hE := hfl.out.1 hlow
      have CP2 := fun w' g B' hr => (CP w' g B' hr).mono fun e w'' h => postR_no (by rw [hE]; decide) h
      rw [hE] at CP2
      unfold ldV at CP2
      clear CP hE hfl
      refine wp_region_held_drew (S := (fun w' => w'.cell? ⟨w1.heap.size, 0, none⟩ = some (.int .i64 last) ∧ w'.cell? ⟨w1.heap.size, 1, none⟩ = some (.slice A1 bl.length c1) ∧ w'.cell? ⟨w.heap.size, 0, none⟩ = some (.int .i64 k) ∧ w'.cell? ⟨w.heap.size, 1, none⟩ = some (.int .i64 m) ∧ w'.cell? ⟨w.heap.size, 2, none⟩ = some (.int .i64 r) ∧ w'.cell? ⟨w2.heap.size, 0, none⟩ = some (.int .i64 1) ∧ w'.cell? ⟨w2.heap.size, 1, none⟩ = some (.int .i64 0) ∧ w'.cell? ⟨w2.heap.size, 2, none⟩ = some (.int .i64 r))) (by kernel_rfl) (HS.out _ (grew_drew (grew_refl _))) (fun hHeld => ?_)
      (refine wpAnyH_take (i := 0) (oi := { dst := some 70, op := Op.load 24 (Operand.tmp 7), type := 24, pos := "more.go:39", after := #[], guard := none }) (v := ?_) rfl (by kernel_rfl) (by kernel_rfl) (by kernel_rfl) (fun _ _ _ h => h) (Or.inl ⟨by rfl, ?_⟩) (by assumption) ?_; rotate_left; · (intro w hSw; (try dsimp only at hSw); go_simp; (first | done | with_reducible rfl)))
      try simp only [Act.put, List.setIfInBounds_toArray, List.set_cons_zero, List.set_cons_succ]
      (refine wpAnyH_take (i := 1) (oi := { dst := some 71, op := Op.fieldAddr 24 (Operand.tmp 7) 0, type := 0, pos := "more.go:39", after := #[], guard := none }) (v := ?_) rfl (by kernel_rfl) (by kernel_rfl) (by kernel_rfl) (fun _ _ _ h => h) (Or.inl ⟨by rfl, ?_⟩) (by assumption) ?_; rotate_left; · (intro w hSw; (try dsimp only at hSw); go_simp; (first | done | with_reducible rfl)))
      try simp only [Act.put, List.setIfInBounds_toArray, List.set_cons_zero, List.set_cons_succ]
      (refine wpAnyH_take (i := 2) (oi := { dst := some 72, op := Op.load 3 (Operand.tmp 71), type := 3, pos := "more.go:39", after := #[{ on := 1, ground := Ground.data }], guard := none }) (v := ?_) rfl (by kernel_rfl) (by kernel_rfl) (by kernel_rfl) (fun _ _ _ h => h) (Or.inl ⟨by rfl, ?_⟩) (by assumption) ?_; rotate_left; · (intro w hSw; (try dsimp only at hSw); go_simp; (first | done | with_reducible rfl)))
      try simp only [Act.put, List.setIfInBounds_toArray, List.set_cons_zero, List.set_cons_succ]
      (refine wpAnyH_take (i := 3) (oi := { dst := some 73, op := Op.binOp BinOp.add 3 (Operand.tmp 72) (Operand.const (Value.int IntKind.i64 1)) 3, type := 3, pos := "more.go:39", after := #[{ on := 2, ground := Ground.data }], guard := none }) (v := ?_) rfl (by kernel_rfl) (by kernel_rfl) (by kernel_rfl) (fun _ _ _ h => h) (Or.inl ⟨by rfl, ?_⟩) (by assumption) ?_; rotate_left; · (intro w hSw; (try dsimp only at hSw); go_simp; (first | done | with_reducible rfl)))
      try simp only [Act.put, List.setIfInBounds_toArray, List.set_cons_zero, List.set_cons_succ]
      (refine wpAnyH_take (i := 4) (oi := { dst := some 74, op := Op.load 27 (Operand.tmp 4), type := 27, pos := "more.go:39", after := #[], guard := none }) (v := ?_) rfl (by kernel_rfl) (by kernel_rfl) (by kernel_rfl) (fun _ _ _ h => h) (Or.inl ⟨by rfl, ?_⟩) (by assumption) ?_; rotate_left; · (intro w hSw; (try dsimp only at hSw); go_simp; (first | done | with_reducible rfl)))
      try simp only [Act.put, List.setIfInBounds_toArray, List.set_cons_zero, List.set_cons_succ]
      (refine wpAnyH_take (i := 5) (oi := { dst := some 75, op := Op.load 27 (Operand.tmp 10), type := 27, pos := "more.go:39", after := #[], guard := none }) (v := ?_) rfl (by kernel_rfl) (by kernel_rfl) (by kernel_rfl) (fun _ _ _ h => h) (Or.inl ⟨by rfl, ?_⟩) (by assumption) ?_; rotate_left; · (intro w hSw; (try dsimp only at hSw); go_simp; (first | done | with_reducible rfl)))
      try simp only [Act.put, List.setIfInBounds_toArray, List.set_cons_zero, List.set_cons_succ]
      (refine wpAnyH_take (i := 6) (oi := { dst := some 76, op := Op.move (Operand.tmp 2), type := 3, pos := "more.go:39", after := #[], guard := none }) (v := ?_) rfl (by kernel_rfl) (by kernel_rfl) (by kernel_rfl) (fun _ _ _ h => h) (Or.inl ⟨by rfl, ?_⟩) (by assumption) ?_; rotate_left; · (intro w hSw; (try dsimp only at hSw); go_simp; (first | done | with_reducible rfl)))
      try simp only [Act.put, List.setIfInBounds_toArray, List.set_cons_zero, List.set_cons_succ]
      refine wpAnyH_ready (rs := [7, 12]) (by kernel_rfl) (by simp) ?_
      refine (AllReadyH.cons (o := { dst := some 77, op := Op.call { callee := Callee.value (Operand.func 28), args := #[Operand.tmp 74, Operand.tmp 75, Operand.tmp 76], argTypes := #[27, 27, 3] }, type := 25, pos := "more.go:39", after := #[{ on := 4, ground := Ground.data }, { on := 5, ground := Ground.data }, { on := 6, ground := Ground.data }], guard := none }) rfl (fun K hK => ?_) (AllReadyH.cons (o := { dst := some 11, op := Op.alloc 24, type := 0, pos := "more.go:39", after := #[], guard := none }) rfl (fun K hK => ?_) AllReadyH.nil))
      · go_simp
        (go_at_call 28; (first | (with_reducible refine (CM _).mono ?_)); rintro e v1 ⟨B5, rfl, hr5, hg5⟩)
        have HS1 : Hid (Grew wt v1) := (by first | exact hg5 | exact grew_trans (grew_drew (grew_refl _)) hg5 | exact grew_trans (grew_drew (grew_alloc _ _ _)) hg5 | exact grew_trans (grew_alloc _ _ _) hg5)
        have HGv1 : Hid (Grew wt v1) := HS1
        (try have HW0 : Hid (Own2 v1 wt.heap.size (.int .i64 0) (.slice none 0 0)) := (Own2.new wt (.int .i64 0) (.slice none 0 0) 24 _ rfl).keep (by first | exact hg5 | exact grew_trans (grew_drew (grew_refl _)) hg5))
        (try obtain ⟨t0, t1, t2, t3, t4⟩ := HW0.out)
        (try have HL0 : Hid (wt.heap.size < v1.heap.size) := HW0.out.lt)
        refine hK.out _ _ ?_ (fun hHeld => ?_)
        · first
          | exact HS.out _ HGv1.out
        clear hK K
        try simp only [Act.put, List.setIfInBounds_toArray, List.set_cons_zero, List.set_cons_succ]
        refine wpAnyH_ready (rs := [8, 12]) (by kernel_rfl) (by simp) ?_
        refine (AllReadyH.cons (o := { dst := some 78, op := Op.call { callee := Callee.value (Operand.func 15), args := #[Operand.tmp 70, Operand.tmp 73, Operand.tmp 77], argTypes := #[24, 3, 25] }, type := 34, pos := "more.go:39", after := #[{ on := 0, ground := Ground.data }, { on := 3, ground := Ground.data }, { on := 7, ground := Ground.data }, { on := 7, ground := Ground.chain }], guard := none }) rfl (fun K hK => ?_) (AllReadyH.cons (o := { dst := some 11, op := Op.alloc 24, type := 0, pos := "more.go:39", after := #[], guard := none }) rfl (fun K hK => ?_) AllReadyH.nil))
        · go_simp
          (go_at_call 15; (first | (with_reducible refine (CP2 _ (grew_trans HGv1.out (grew_refl _)) _ (hr5.keep (grew_refl _))).mono ?_) | (with_reducible refine (CP2 _ (grew_trans HGv1.out (grew_drew (grew_refl _))) _ (hr5.keep (grew_drew (grew_refl _)))).mono ?_) | (with_reducible refine (CP2 _ (grew_trans HGv1.out (grew_drew (grew_alloc _ _ _))) _ (hr5.keep (grew_drew (grew_alloc _ _ _)))).mono ?_) | (with_reducible refine (CP2 _ (grew_trans HGv1.out (grew_alloc _ _ _)) _ (hr5.keep (grew_alloc _ _ _))).mono ?_)); rintro e v2 ⟨A6, c6, rfl, hn6, hg6⟩)
          have HS2 : Hid (Grew v1 v2) := (by first | exact hg6 | exact grew_trans (grew_drew (grew_refl _)) hg6 | exact grew_trans (grew_drew (grew_alloc _ _ _)) hg6 | exact grew_trans (grew_alloc _ _ _) hg6)
          have HGv2 : Hid (Grew wt v2) := grew_trans HGv1.out HS2.out
          (try have HW0 := Lib.hid (HW0.out.keep HS2.out))
          (try have HW1 : Hid (Own2 v2 v1.heap.size (.int .i64 0) (.slice none 0 0)) := (Own2.new v1 (.int .i64 0) (.slice none 0 0) 24 _ rfl).keep (by first | exact hg6 | exact grew_trans (grew_drew (grew_refl _)) hg6))
          (try obtain ⟨t0, t1, t2, t3, t4⟩ := HW0.out)
          (try obtain ⟨t0, t1, t2, t3, t4⟩ := HW1.out)
          refine hK.out _ _ ?_ (fun hHeld => ?_)
          · first
            | exact HS.out _ HGv2.out
          clear hK K
          try simp only [Act.put, List.setIfInBounds_toArray, List.set_cons_zero, List.set_cons_succ]
          (refine wpAnyH_take (i := 9) (oi := { dst := some 69, op := Op.move (Operand.tmp 78), type := 34, pos := "more.go:39", after := #[{ on := 8, ground := Ground.data }], guard := none }) (v := ?_) rfl (by kernel_rfl) (by kernel_rfl) (by kernel_rfl) (fun _ _ _ h => h) (Or.inl ⟨by rfl, ?_⟩) (by assumption) ?_; rotate_left; · (intro w hSw; (try dsimp only at hSw); go_simp; (first | done | with_reducible rfl)))
          try simp only [Act.put, List.setIfInBounds_toArray, List.set_cons_zero, List.set_cons_succ]
          (refine wpAnyH_take (i := 10) (oi := { dst := some 79, op := Op.extract (Operand.tmp 69) 0, type := 24, pos := "more.go:39", after := #[{ on := 9, ground := Ground.data }], guard := none }) (v := ?_) rfl (by kernel_rfl) (by kernel_rfl) (by kernel_rfl) (fun _ _ _ h => h) (Or.inl ⟨by rfl, ?_⟩) (by assumption) ?_; rotate_left; · (intro w hSw; (try dsimp only at hSw); go_simp; (first | done | with_reducible rfl)))
          try simp only [Act.put, List.setIfInBounds_toArray, List.set_cons_zero, List.set_cons_succ]
          (refine wpAnyH_take (i := 11) (oi := { dst := some 80, op := Op.extract (Operand.tmp 69) 1, type := 31, pos := "more.go:39", after := #[{ on := 9, ground := Ground.data }, { on := 13, ground := Ground.gcOnly Departure.lateStores }], guard := none }) (v := ?_) rfl (by kernel_rfl) (by kernel_rfl) (by kernel_rfl) (fun _ _ _ h => h) (Or.inl ⟨by rfl, ?_⟩) (by assumption) ?_; rotate_left; · (intro w hSw; (try dsimp only at hSw); go_simp; (first | done | with_reducible rfl)))
          try simp only [Act.put, List.setIfInBounds_toArray, List.set_cons_zero, List.set_cons_succ]
          refine wpAnyH_ready (rs := [12]) (by kernel_rfl) (by simp) ?_
          refine (AllReadyH.cons (o := { dst := some 11, op := Op.alloc 24, type := 0, pos := "more.go:39", after := #[], guard := none }) rfl (fun K hK => ?_) AllReadyH.nil)
          go_simp
          refine hK.out _ _ ?_ (fun hHeld => ?_)
          · first
            | exact HS.out _ (grew_trans HGv2.out (grew_refl _))
            | exact HS.out _ (grew_trans HGv2.out (grew_drew (grew_refl _)))
            | exact HS.out _ (grew_trans HGv2.out (grew_drew (grew_alloc _ _ _)))
            | exact HS.out _ (grew_trans HGv2.out (grew_alloc _ _ _))
            | exact HS.out _ (grew_trans HGv1.out (grew_refl _))
            | exact HS.out _ (grew_trans HGv1.out (grew_drew (grew_refl _)))
            | exact HS.out _ (grew_trans HGv1.out (grew_drew (grew_alloc _ _ _)))
            | exact HS.out _ (grew_trans HGv1.out (grew_alloc _ _ _))
            | exact HS.out _ (grew_refl _)
            | exact HS.out _ (grew_drew (grew_refl _))
            | exact HS.out _ (grew_drew (grew_alloc _ _ _))
            | exact HS.out _ (grew_alloc _ _ _)
            | (trace_state; fail)
          clear hK K
          try simp only [Act.put, List.setIfInBounds_toArray, List.set_cons_zero, List.set_cons_succ]
          refine wpAnyH_ready (rs := [13]) (by kernel_rfl) (by simp) ?_
          refine (AllReadyH.cons (o := { dst := none, op := Op.store 24 (Operand.tmp 11) (Operand.tmp 79), type := 0, pos := "more.go:39", after := #[{ on := 12, ground := Ground.data }, { on := 10, ground := Ground.data }, { on := 8, ground := Ground.chain }, { on := 0, ground := Ground.phase }, { on := 1, ground := Ground.phase }, { on := 2, ground := Ground.phase }, { on := 3, ground := Ground.phase }, { on := 4, ground := Ground.phase }, { on := 5, ground := Ground.phase }, { on := 6, ground := Ground.phase }, { on := 7, ground := Ground.phase }, { on := 8, ground := Ground.phase }, { on := 9, ground := Ground.phase }, { on := 10, ground := Ground.phase }, { on := 11, ground := Ground.textOnly Departure.lateStores }, { on := 12, ground := Ground.phase }], guard := none }) rfl (fun K hK => ?_) AllReadyH.nil)
          go_simp
          refine hK.out _ _ ?_ (fun hHeld => ?_)
          · first
            | exact HS.out _ (grew_set (grew_set HGv2.out _ (Nat.le_refl _)) _ (Nat.le_refl _))
            | exact HS.out _ (grew_drew (grew_set (grew_set HGv2.out _ (Nat.le_refl _)) _ (Nat.le_refl _)))
            | exact HS.out _ (grew_set (grew_set HGv2.out _ HGv1.out.size) _ HGv1.out.size)
            | exact HS.out _ (grew_drew (grew_set (grew_set HGv2.out _ HGv1.out.size) _ HGv1.out.size))
            | exact HS.out _ (grew_trans HGv2.out (grew_refl _))
            | exact HS.out _ (grew_trans HGv2.out (grew_drew (grew_refl _)))
            | exact HS.out _ (grew_trans HGv2.out (grew_drew (grew_alloc _ _ _)))
            | exact HS.out _ (grew_trans HGv2.out (grew_alloc _ _ _))
            | (trace_state; fail)
          clear hK K
          try simp only [Act.put, List.setIfInBounds_toArray, List.set_cons_zero, List.set_cons_succ]
          (refine wpAnyH_take (i := 14) (oi := { dst := some 12, op := Op.assign (Operand.tmp 80), type := 31, pos := "more.go:39", after := #[{ on := 11, ground := Ground.data }, { on := 13, ground := Ground.chain }, { on := 0, ground := Ground.phase }, { on := 1, ground := Ground.phase }, { on := 2, ground := Ground.phase }, { on := 3, ground := Ground.phase }, { on := 4, ground := Ground.phase }, { on := 5, ground := Ground.phase }, { on := 6, ground := Ground.phase }, { on := 7, ground := Ground.phase }, { on := 8, ground := Ground.phase }, { on := 9, ground := Ground.phase }, { on := 10, ground := Ground.phase }, { on := 11, ground := Ground.phase }, { on := 12, ground := Ground.phase }, { on := 13, ground := Ground.phase }], guard := none }) (v := ?_) rfl (by kernel_rfl) (by kernel_rfl) (by kernel_rfl) (fun _ _ _ h => h) (Or.inl ⟨by rfl, ?_⟩) (by assumption) ?_; rotate_left; · (intro w hSw; (try dsimp only at hSw); go_simp; (first | done | with_reducible rfl)))
          try simp only [Act.put, List.setIfInBounds_toArray, List.set_cons_zero, List.set_cons_succ]
          refine wpAnyH_done (by kernel_rfl) ?_ _
          clear hHeld
          first
            | (have hX : Own2 ((v2.setCell ⟨wt.heap.size, 0, none⟩ (.int .i64 0)).setCell ⟨wt.heap.size, 1, none⟩ (.slice A6 0 c6)) wt.heap.size (.int .i64 0) (.slice A6 0 c6) ∧ (∀ u : Value, True) ∧ True ∧ Grew wt ((v2.setCell ⟨wt.heap.size, 0, none⟩ (.int .i64 0)).setCell ⟨wt.heap.size, 1, none⟩ (.slice A6 0 c6)) ∧ wt.heap.size ≤ wt.heap.size := ⟨HW0.out.set _ _, fun u => trivial, trivial, grew_set (grew_set HGv2.out _ (Nat.le_refl _)) _ (Nat.le_refl _), (Nat.le_refl _)⟩; (try clear t0 t1 t2 t3 t4); generalize ((v2.setCell ⟨wt.heap.size, 0, none⟩ (.int .i64 0)).setCell ⟨wt.heap.size, 1, none⟩ (.slice A6 0 c6)) = wF at *; generalize hTF : wt.heap.size = TF at *)
            | (have hX : Own2 ((v2.setCell ⟨v1.heap.size, 0, none⟩ (.int .i64 0)).setCell ⟨v1.heap.size, 1, none⟩ (.slice A6 0 c6)) v1.heap.size (.int .i64 0) (.slice A6 0 c6) ∧ (∀ u : Value, True) ∧ True ∧ Grew wt ((v2.setCell ⟨v1.heap.size, 0, none⟩ (.int .i64 0)).setCell ⟨v1.heap.size, 1, none⟩ (.slice A6 0 c6)) ∧ wt.heap.size ≤ v1.heap.size := ⟨HW1.out.set _ _, fun u => trivial, trivial, grew_set (grew_set HGv2.out _ HGv1.out.size) _ HGv1.out.size, HGv1.out.size⟩; (try clear t0 t1 t2 t3 t4); generalize ((v2.setCell ⟨v1.heap.size, 0, none⟩ (.int .i64 0)).setCell ⟨v1.heap.size, 1, none⟩ (.slice A6 0 c6)) = wF at *; generalize hTF : v1.heap.size = TF at *)
            | (have hX : Own2 (v2.alloc (.cells #[.int .i64 0, (.slice A6 0 c6)] 24)) v2.heap.size (.int .i64 0) (.slice A6 0 c6) ∧ (∀ u : Value, True) ∧ True ∧ Grew wt (v2.alloc (.cells #[.int .i64 0, (.slice A6 0 c6)] 24)) ∧ wt.heap.size ≤ v2.heap.size := ⟨Own2.new _ _ _ _ _ rfl, fun u => trivial, trivial, grew_trans HGv2.out (grew_alloc _ _ _), HGv2.out.size⟩; (try clear t0 t1 t2 t3 t4); generalize (v2.alloc (.cells #[.int .i64 0, (.slice A6 0 c6)] 24)) = wF at *; generalize hTF : v2.heap.size = TF at *)
          have HX := Lib.hid hX
          obtain ⟨⟨u0, u1, uf0, uf1, ul⟩, -, -, hgX, hTX⟩ := hX
          obtain ⟨⟨b0, b1, b2⟩, -, -, hz0, -, -⟩ := HC.out wF hgX
          clear hr5 hgX hTX u0 u1 uf0 uf1 ul
          obtain ⟨hk34, hlt⟩ := hlow
          rcases hk34 with hk3 | hk4
          · have d3 : (k == 3) = true := by simpa using hk3
            clear hk3
            go_wp2_with (go_at_call 21; ((with_reducible refine (WK _).mono ?_); rintro e w9 ⟨rfl, hg⟩; have HG9 := Lib.hid (grew_trans (grew_trans HGW.out HX.out.2.2.2.1) hg); clear hg))
            go_ret
            exact ⟨rfl, HG9.out⟩
          · have d3 : (k == 3) = false := by rw [hk4]; decide
            have d4 : (k == 4) = true := by simpa using hk4
            clear hk4
            go_wp2_with (go_at_call 21; ((with_reducible refine (WK _).mono ?_); rintro e w9 ⟨rfl, hg⟩; have HG9 := Lib.hid (grew_trans (grew_trans HGW.out HX.out.2.2.2.1) hg); clear hg))
            go_ret
            exact ⟨rfl, HG9.out⟩
        · go_simp
          refine hK.out _ _ ?_ (fun hHeld => ?_)
          · first
            | exact HS.out _ (grew_trans HGv2.out (grew_refl _))
            | exact HS.out _ (grew_trans HGv2.out (grew_drew (grew_refl _)))
            | exact HS.out _ (grew_trans HGv2.out (grew_drew (grew_alloc _ _ _)))
            | exact HS.out _ (grew_trans HGv2.out (grew_alloc _ _ _))
            | exact HS.out _ (grew_trans HGv1.out (grew_refl _))
            | exact HS.out _ (grew_trans HGv1.out (grew_drew (grew_refl _)))
            | exact HS.out _ (grew_trans HGv1.out (grew_drew (grew_alloc _ _ _)))
            | exact HS.out _ (grew_trans HGv1.out (grew_alloc _ _ _))
            | exact HS.out _ (grew_refl _)
            | exact HS.out _ (grew_drew (grew_refl _))
            | exact HS.out _ (grew_drew (grew_alloc _ _ _))
            | exact HS.out _ (grew_alloc _ _ _)
            | (trace_state; fail)
          clear hK K
          try simp only [Act.put, List.setIfInBounds_toArray, List.set_cons_zero, List.set_cons_succ]
          refine wpAnyH_ready (rs := [8]) (by kernel_rfl) (by simp) ?_
          refine (AllReadyH.cons (o := { dst := some 78, op := Op.call { callee := Callee.value (Operand.func 15), args := #[Operand.tmp 70, Operand.tmp 73, Operand.tmp 77], argTypes := #[24, 3, 25] }, type := 34, pos := "more.go:39", after := #[{ on := 0, ground := Ground.data }, { on := 3, ground := Ground.data }, { on := 7, ground := Ground.data }, { on := 7, ground := Ground.chain }], guard := none }) rfl (fun K hK => ?_) AllReadyH.nil)
          go_simp
          (go_at_call 15; (first | (with_reducible refine (CP2 _ (grew_trans HGv1.out (grew_refl _)) _ (hr5.keep (grew_refl _))).mono ?_) | (with_reducible refine (CP2 _ (grew_trans HGv1.out (grew_drew (grew_refl _))) _ (hr5.keep (grew_drew (grew_refl _)))).mono ?_) | (with_reducible refine (CP2 _ (grew_trans HGv1.out (grew_drew (grew_alloc _ _ _))) _ (hr5.keep (grew_drew (grew_alloc _ _ _)))).mono ?_) | (with_reducible refine (CP2 _ (grew_trans HGv1.out (grew_alloc _ _ _)) _ (hr5.keep (grew_alloc _ _ _))).mono ?_)); rintro e v2 ⟨A6, c6, rfl, hn6, hg6⟩)
          have HS2 : Hid (Grew v1 v2) := (by first | exact hg6 | exact grew_trans (grew_drew (grew_refl _)) hg6 | exact grew_trans (grew_drew (grew_alloc _ _ _)) hg6 | exact grew_trans (grew_alloc _ _ _) hg6)
          have HGv2 : Hid (Grew wt v2) := grew_trans HGv1.out HS2.out
          (try have HW0 := Lib.hid (HW0.out.keep HS2.out))
          (try have HW1 : Hid (Own2 v2 v1.heap.size (.int .i64 0) (.slice none 0 0)) := (Own2.new v1 (.int .i64 0) (.slice none 0 0) 24 _ rfl).keep (by first | exact hg6 | exact grew_trans (grew_drew (grew_refl _)) hg6))
          (try obtain ⟨t0, t1, t2, t3, t4⟩ := HW0.out)
          (try obtain ⟨t0, t1, t2, t3, t4⟩ := HW1.out)
          refine hK.out _ _ ?_ (fun hHeld => ?_)
          · first
            | exact HS.out _ HGv2.out
          clear hK K
          try simp only [Act.put, List.setIfInBounds_toArray, List.set_cons_zero, List.set_cons_succ]
          (refine wpAnyH_take (i := 9) (oi := { dst := some 69, op := Op.move (Operand.tmp 78), type := 34, pos := "more.go:39", after := #[{ on := 8, ground := Ground.data }], guard := none }) (v := ?_) rfl (by kernel_rfl) (by kernel_rfl) (by kernel_rfl) (fun _ _ _ h => h) (Or.inl ⟨by rfl, ?_⟩) (by assumption) ?_; rotate_left; · (intro w hSw; (try dsimp only at hSw); go_simp; (first | done | with_reducible rfl)))
          try simp only [Act.put, List.setIfInBounds_toArray, List.set_cons_zero, List.set_cons_succ]
          (refine wpAnyH_take (i := 10) (oi := { dst := some 79, op := Op.extract (Operand.tmp 69) 0, type := 24, pos := "more.go:39", after := #[{ on := 9, ground := Ground.data }], guard := none }) (v := ?_) rfl (by kernel_rfl) (by kernel_rfl) (by kernel_rfl) (fun _ _ _ h => h) (Or.inl ⟨by rfl, ?_⟩) (by assumption) ?_; rotate_left; · (intro w hSw; (try dsimp only at hSw); go_simp; (first | done | with_reducible rfl)))
          try simp only [Act.put, List.setIfInBounds_toArray, List.set_cons_zero, List.set_cons_succ]
          (refine wpAnyH_take (i := 11) (oi := { dst := some 80, op := Op.extract (Operand.tmp 69) 1, type := 31, pos := "more.go:39", after := #[{ on := 9, ground := Ground.data }, { on := 13, ground := Ground.gcOnly Departure.lateStores }], guard := none }) (v := ?_) rfl (by kernel_rfl) (by kernel_rfl) (by kernel_rfl) (fun _ _ _ h => h) (Or.inl ⟨by rfl, ?_⟩) (by assumption) ?_; rotate_left; · (intro w hSw; (try dsimp only at hSw); go_simp; (first | done | with_reducible rfl)))
          try simp only [Act.put, List.setIfInBounds_toArray, List.set_cons_zero, List.set_cons_succ]
          refine wpAnyH_ready (rs := [13]) (by kernel_rfl) (by simp) ?_
          refine (AllReadyH.cons (o := { dst := none, op := Op.store 24 (Operand.tmp 11) (Operand.tmp 79), type := 0, pos := "more.go:39", after := #[{ on := 12, ground := Ground.data }, { on := 10, ground := Ground.data }, { on := 8, ground := Ground.chain }, { on := 0, ground := Ground.phase }, { on := 1, ground := Ground.phase }, { on := 2, ground := Ground.phase }, { on := 3, ground := Ground.phase }, { on := 4, ground := Ground.phase }, { on := 5, ground := Ground.phase }, { on := 6, ground := Ground.phase }, { on := 7, ground := Ground.phase }, { on := 8, ground := Ground.phase }, { on := 9, ground := Ground.phase }, { on := 10, ground := Ground.phase }, { on := 11, ground := Ground.textOnly Departure.lateStores }, { on := 12, ground := Ground.phase }], guard := none }) rfl (fun K hK => ?_) AllReadyH.nil)
          go_simp
          refine hK.out _ _ ?_ (fun hHeld => ?_)
          · first
            | exact HS.out _ (grew_set (grew_set HGv2.out _ (Nat.le_refl _)) _ (Nat.le_refl _))
            | exact HS.out _ (grew_drew (grew_set (grew_set HGv2.out _ (Nat.le_refl _)) _ (Nat.le_refl _)))
            | exact HS.out _ (grew_set (grew_set HGv2.out _ HGv1.out.size) _ HGv1.out.size)
            | exact HS.out _ (grew_drew (grew_set (grew_set HGv2.out _ HGv1.out.size) _ HGv1.out.size))
            | exact HS.out _ (grew_trans HGv2.out (grew_refl _))
            | exact HS.out _ (grew_trans HGv2.out (grew_drew (grew_refl _)))
            | exact HS.out _ (grew_trans HGv2.out (grew_drew (grew_alloc _ _ _)))
            | exact HS.out _ (grew_trans HGv2.out (grew_alloc _ _ _))
            | (trace_state; fail)
          clear hK K
          try simp only [Act.put, List.setIfInBounds_toArray, List.set_cons_zero, List.set_cons_succ]
          (refine wpAnyH_take (i := 14) (oi := { dst := some 12, op := Op.assign (Operand.tmp 80), type := 31, pos := "more.go:39", after := #[{ on := 11, ground := Ground.data }, { on := 13, ground := Ground.chain }, { on := 0, ground := Ground.phase }, { on := 1, ground := Ground.phase }, { on := 2, ground := Ground.phase }, { on := 3, ground := Ground.phase }, { on := 4, ground := Ground.phase }, { on := 5, ground := Ground.phase }, { on := 6, ground := Ground.phase }, { on := 7, ground := Ground.phase }, { on := 8, ground := Ground.phase }, { on := 9, ground := Ground.phase }, { on := 10, ground := Ground.phase }, { on := 11, ground := Ground.phase }, { on := 12, ground := Ground.phase }, { on := 13, ground := Ground.phase }], guard := none }) (v := ?_) rfl (by kernel_rfl) (by kernel_rfl) (by kernel_rfl) (fun _ _ _ h => h) (Or.inl ⟨by rfl, ?_⟩) (by assumption) ?_; rotate_left; · (intro w hSw; (try dsimp only at hSw); go_simp; (first | done | with_reducible rfl)))
          try simp only [Act.put, List.setIfInBounds_toArray, List.set_cons_zero, List.set_cons_succ]
          refine wpAnyH_done (by kernel_rfl) ?_ _
          clear hHeld
          first
            | (have hX : Own2 ((v2.setCell ⟨wt.heap.size, 0, none⟩ (.int .i64 0)).setCell ⟨wt.heap.size, 1, none⟩ (.slice A6 0 c6)) wt.heap.size (.int .i64 0) (.slice A6 0 c6) ∧ (∀ u : Value, True) ∧ True ∧ Grew wt ((v2.setCell ⟨wt.heap.size, 0, none⟩ (.int .i64 0)).setCell ⟨wt.heap.size, 1, none⟩ (.slice A6 0 c6)) ∧ wt.heap.size ≤ wt.heap.size := ⟨HW0.out.set _ _, fun u => trivial, trivial, grew_set (grew_set HGv2.out _ (Nat.le_refl _)) _ (Nat.le_refl _), (Nat.le_refl _)⟩; (try clear t0 t1 t2 t3 t4); generalize ((v2.setCell ⟨wt.heap.size, 0, none⟩ (.int .i64 0)).setCell ⟨wt.heap.size, 1, none⟩ (.slice A6 0 c6)) = wF at *; generalize hTF : wt.heap.size = TF at *)
            | (have hX : Own2 ((v2.setCell ⟨v1.heap.size, 0, none⟩ (.int .i64 0)).setCell ⟨v1.heap.size, 1, none⟩ (.slice A6 0 c6)) v1.heap.size (.int .i64 0) (.slice A6 0 c6) ∧ (∀ u : Value, True) ∧ True ∧ Grew wt ((v2.setCell ⟨v1.heap.size, 0, none⟩ (.int .i64 0)).setCell ⟨v1.heap.size, 1, none⟩ (.slice A6 0 c6)) ∧ wt.heap.size ≤ v1.heap.size := ⟨HW1.out.set _ _, fun u => trivial, trivial, grew_set (grew_set HGv2.out _ HGv1.out.size) _ HGv1.out.size, HGv1.out.size⟩; (try clear t0 t1 t2 t3 t4); generalize ((v2.setCell ⟨v1.heap.size, 0, none⟩ (.int .i64 0)).setCell ⟨v1.heap.size, 1, none⟩ (.slice A6 0 c6)) = wF at *; generalize hTF : v1.heap.size = TF at *)
            | (have hX : Own2 (v2.alloc (.cells #[.int .i64 0, (.slice A6 0 c6)] 24)) v2.heap.size (.int .i64 0) (.slice A6 0 c6) ∧ (∀ u : Value, True) ∧ True ∧ Grew wt (v2.alloc (.cells #[.int .i64 0, (.slice A6 0 c6)] 24)) ∧ wt.heap.size ≤ v2.heap.size := ⟨Own2.new _ _ _ _ _ rfl, fun u => trivial, trivial, grew_trans HGv2.out (grew_alloc _ _ _), HGv2.out.size⟩; (try clear t0 t1 t2 t3 t4); generalize (v2.alloc (.cells #[.int .i64 0, (.slice A6 0 c6)] 24)) = wF at *; generalize hTF : v2.heap.size = TF at *)
          have HX := Lib.hid hX
          obtain ⟨⟨u0, u1, uf0, uf1, ul⟩, -, -, hgX, hTX⟩ := hX
          obtain ⟨⟨b0, b1, b2⟩, -, -, hz0, -, -⟩ := HC.out wF hgX
          clear hr5 hgX hTX u0 u1 uf0 uf1 ul
          obtain ⟨hk34, hlt⟩ := hlow
          rcases hk34 with hk3 | hk4
          · have d3 : (k == 3) = true := by simpa using hk3
            clear hk3
            go_wp2_with (go_at_call 21; ((with_reducible refine (WK _).mono ?_); rintro e w9 ⟨rfl, hg⟩; have HG9 := Lib.hid (grew_trans (grew_trans HGW.out HX.out.2.2.2.1) hg); clear hg))
            go_ret
            exact ⟨rfl, HG9.out⟩
          · have d3 : (k == 3) = false := by rw [hk4]; decide
            have d4 : (k == 4) = true := by simpa using hk4
            clear hk4
            go_wp2_with (go_at_call 21; ((with_reducible refine (WK _).mono ?_); rintro e w9 ⟨rfl, hg⟩; have HG9 := Lib.hid (grew_trans (grew_trans HGW.out HX.out.2.2.2.1) hg); clear hg))
            go_ret
            exact ⟨rfl, HG9.out⟩
      · go_simp
        refine hK.out _ _ ?_ (fun hHeld => ?_)
        · first
          | exact HS.out _ (grew_trans HGv2.out (grew_refl _))
          | exact HS.out _ (grew_trans HGv2.out (grew_drew (grew_refl _)))
          | exact HS.out _ (grew_trans HGv2.out (grew_drew (grew_alloc _ _ _)))
          | exact HS.out _ (grew_trans HGv2.out (grew_alloc _ _ _))
          | exact HS.out _ (grew_trans HGv1.out (grew_refl _))
          | exact HS.out _ (grew_trans HGv1.out (grew_drew (grew_refl _)))
          | exact HS.out _ (grew_trans HGv1.out (grew_drew (grew_alloc _ _ _)))
          | exact HS.out _ (grew_trans HGv1.out (grew_alloc _ _ _))
          | exact HS.out _ (grew_refl _)
          | exact HS.out _ (grew_drew (grew_refl _))
          | exact HS.out _ (grew_drew (grew_alloc _ _ _))
          | exact HS.out _ (grew_alloc _ _ _)
          | (trace_state; fail)
        clear hK K
        try simp only [Act.put, List.setIfInBounds_toArray, List.set_cons_zero, List.set_cons_succ]
        refine wpAnyH_ready (rs := [7]) (by kernel_rfl) (by simp) ?_
        refine (AllReadyH.cons (o := { dst := some 77, op := Op.call { callee := Callee.value (Operand.func 28), args := #[Operand.tmp 74, Operand.tmp 75, Operand.tmp 76], argTypes := #[27, 27, 3] }, type := 25, pos := "more.go:39", after := #[{ on := 4, ground := Ground.data }, { on := 5, ground := Ground.data }, { on := 6, ground := Ground.data }], guard := none }) rfl (fun K hK => ?_) AllReadyH.nil)
        go_simp
        (go_at_call 28; (first | (with_reducible refine (CM _).mono ?_)); rintro e v1 ⟨B5, rfl, hr5, hg5⟩)
        have HS1 : Hid (Grew wt v1) := (by first | exact hg5 | exact grew_trans (grew_drew (grew_refl _)) hg5 | exact grew_trans (grew_drew (grew_alloc _ _ _)) hg5 | exact grew_trans (grew_alloc _ _ _) hg5)
        have HGv1 : Hid (Grew wt v1) := HS1
        (try have HW0 : Hid (Own2 v1 wt.heap.size (.int .i64 0) (.slice none 0 0)) := (Own2.new wt (.int .i64 0) (.slice none 0 0) 24 _ rfl).keep (by first | exact hg5 | exact grew_trans (grew_drew (grew_refl _)) hg5))
        (try obtain ⟨t0, t1, t2, t3, t4⟩ := HW0.out)
        (try have HL0 : Hid (wt.heap.size < v1.heap.size) := HW0.out.lt)
        refine hK.out _ _ ?_ (fun hHeld => ?_)
        · first
          | exact HS.out _ HGv1.out
        clear hK K
        try simp only [Act.put, List.setIfInBounds_toArray, List.set_cons_zero, List.set_cons_succ]
        refine wpAnyH_ready (rs := [8]) (by kernel_rfl) (by simp) ?_
        refine (AllReadyH.cons (o := { dst := some 78, op := Op.call { callee := Callee.value (Operand.func 15), args := #[Operand.tmp 70, Operand.tmp 73, Operand.tmp 77], argTypes := #[24, 3, 25] }, type := 34, pos := "more.go:39", after := #[{ on := 0, ground := Ground.data }, { on := 3, ground := Ground.data }, { on := 7, ground := Ground.data }, { on := 7, ground := Ground.chain }], guard := none }) rfl (fun K hK => ?_) AllReadyH.nil)
        go_simp
        (go_at_call 15; (first | (with_reducible refine (CP2 _ (grew_trans HGv1.out (grew_refl _)) _ (hr5.keep (grew_refl _))).mono ?_) | (with_reducible refine (CP2 _ (grew_trans HGv1.out (grew_drew (grew_refl _))) _ (hr5.keep (grew_drew (grew_refl _)))).mono ?_) | (with_reducible refine (CP2 _ (grew_trans HGv1.out (grew_drew (grew_alloc _ _ _))) _ (hr5.keep (grew_drew (grew_alloc _ _ _)))).mono ?_) | (with_reducible refine (CP2 _ (grew_trans HGv1.out (grew_alloc _ _ _)) _ (hr5.keep (grew_alloc _ _ _))).mono ?_)); rintro e v2 ⟨A6, c6, rfl, hn6, hg6⟩)
        have HS2 : Hid (Grew v1 v2) := (by first | exact hg6 | exact grew_trans (grew_drew (grew_refl _)) hg6 | exact grew_trans (grew_drew (grew_alloc _ _ _)) hg6 | exact grew_trans (grew_alloc _ _ _) hg6)
        have HGv2 : Hid (Grew wt v2) := grew_trans HGv1.out HS2.out
        (try have HW0 := Lib.hid (HW0.out.keep HS2.out))
        (try have HW1 : Hid (Own2 v2 v1.heap.size (.int .i64 0) (.slice none 0 0)) := (Own2.new v1 (.int .i64 0) (.slice none 0 0) 24 _ rfl).keep (by first | exact hg6 | exact grew_trans (grew_drew (grew_refl _)) hg6))
        (try obtain ⟨t0, t1, t2, t3, t4⟩ := HW0.out)
        (try obtain ⟨t0, t1, t2, t3, t4⟩ := HW1.out)
        refine hK.out _ _ ?_ (fun hHeld => ?_)
        · first
          | exact HS.out _ HGv2.out
        clear hK K
        try simp only [Act.put, List.setIfInBounds_toArray, List.set_cons_zero, List.set_cons_succ]
        (refine wpAnyH_take (i := 9) (oi := { dst := some 69, op := Op.move (Operand.tmp 78), type := 34, pos := "more.go:39", after := #[{ on := 8, ground := Ground.data }], guard := none }) (v := ?_) rfl (by kernel_rfl) (by kernel_rfl) (by kernel_rfl) (fun _ _ _ h => h) (Or.inl ⟨by rfl, ?_⟩) (by assumption) ?_; rotate_left; · (intro w hSw; (try dsimp only at hSw); go_simp; (first | done | with_reducible rfl)))
        try simp only [Act.put, List.setIfInBounds_toArray, List.set_cons_zero, List.set_cons_succ]
        (refine wpAnyH_take (i := 10) (oi := { dst := some 79, op := Op.extract (Operand.tmp 69) 0, type := 24, pos := "more.go:39", after := #[{ on := 9, ground := Ground.data }], guard := none }) (v := ?_) rfl (by kernel_rfl) (by kernel_rfl) (by kernel_rfl) (fun _ _ _ h => h) (Or.inl ⟨by rfl, ?_⟩) (by assumption) ?_; rotate_left; · (intro w hSw; (try dsimp only at hSw); go_simp; (first | done | with_reducible rfl)))
        try simp only [Act.put, List.setIfInBounds_toArray, List.set_cons_zero, List.set_cons_succ]
        (refine wpAnyH_take (i := 11) (oi := { dst := some 80, op := Op.extract (Operand.tmp 69) 1, type := 31, pos := "more.go:39", after := #[{ on := 9, ground := Ground.data }, { on := 13, ground := Ground.gcOnly Departure.lateStores }], guard := none }) (v := ?_) rfl (by kernel_rfl) (by kernel_rfl) (by kernel_rfl) (fun _ _ _ h => h) (Or.inl ⟨by rfl, ?_⟩) (by assumption) ?_; rotate_left; · (intro w hSw; (try dsimp only at hSw); go_simp; (first | done | with_reducible rfl)))
        try simp only [Act.put, List.setIfInBounds_toArray, List.set_cons_zero, List.set_cons_succ]
        refine wpAnyH_ready (rs := [13]) (by kernel_rfl) (by simp) ?_
        refine (AllReadyH.cons (o := { dst := none, op := Op.store 24 (Operand.tmp 11) (Operand.tmp 79), type := 0, pos := "more.go:39", after := #[{ on := 12, ground := Ground.data }, { on := 10, ground := Ground.data }, { on := 8, ground := Ground.chain }, { on := 0, ground := Ground.phase }, { on := 1, ground := Ground.phase }, { on := 2, ground := Ground.phase }, { on := 3, ground := Ground.phase }, { on := 4, ground := Ground.phase }, { on := 5, ground := Ground.phase }, { on := 6, ground := Ground.phase }, { on := 7, ground := Ground.phase }, { on := 8, ground := Ground.phase }, { on := 9, ground := Ground.phase }, { on := 10, ground := Ground.phase }, { on := 11, ground := Ground.textOnly Departure.lateStores }, { on := 12, ground := Ground.phase }], guard := none }) rfl (fun K hK => ?_) AllReadyH.nil)
        go_simp
        refine hK.out _ _ ?_ (fun hHeld => ?_)
        · first
          | exact HS.out _ (grew_set (grew_set HGv2.out _ (Nat.le_refl _)) _ (Nat.le_refl _))
          | exact HS.out _ (grew_drew (grew_set (grew_set HGv2.out _ (Nat.le_refl _)) _ (Nat.le_refl _)))
          | exact HS.out _ (grew_set (grew_set HGv2.out _ HGv1.out.size) _ HGv1.out.size)
          | exact HS.out _ (grew_drew (grew_set (grew_set HGv2.out _ HGv1.out.size) _ HGv1.out.size))
          | exact HS.out _ (grew_trans HGv2.out (grew_refl _))
          | exact HS.out _ (grew_trans HGv2.out (grew_drew (grew_refl _)))
          | exact HS.out _ (grew_trans HGv2.out (grew_drew (grew_alloc _ _ _)))
          | exact HS.out _ (grew_trans HGv2.out (grew_alloc _ _ _))
          | (trace_state; fail)
        clear hK K
        try simp only [Act.put, List.setIfInBounds_toArray, List.set_cons_zero, List.set_cons_succ]
        (refine wpAnyH_take (i := 14) (oi := { dst := some 12, op := Op.assign (Operand.tmp 80), type := 31, pos := "more.go:39", after := #[{ on := 11, ground := Ground.data }, { on := 13, ground := Ground.chain }, { on := 0, ground := Ground.phase }, { on := 1, ground := Ground.phase }, { on := 2, ground := Ground.phase }, { on := 3, ground := Ground.phase }, { on := 4, ground := Ground.phase }, { on := 5, ground := Ground.phase }, { on := 6, ground := Ground.phase }, { on := 7, ground := Ground.phase }, { on := 8, ground := Ground.phase }, { on := 9, ground := Ground.phase }, { on := 10, ground := Ground.phase }, { on := 11, ground := Ground.phase }, { on := 12, ground := Ground.phase }, { on := 13, ground := Ground.phase }], guard := none }) (v := ?_) rfl (by kernel_rfl) (by kernel_rfl) (by kernel_rfl) (fun _ _ _ h => h) (Or.inl ⟨by rfl, ?_⟩) (by assumption) ?_; rotate_left; · (intro w hSw; (try dsimp only at hSw); go_simp; (first | done | with_reducible rfl)))
        try simp only [Act.put, List.setIfInBounds_toArray, List.set_cons_zero, List.set_cons_succ]
        refine wpAnyH_done (by kernel_rfl) ?_ _
        clear hHeld
        first
          | (have hX : Own2 ((v2.setCell ⟨wt.heap.size, 0, none⟩ (.int .i64 0)).setCell ⟨wt.heap.size, 1, none⟩ (.slice A6 0 c6)) wt.heap.size (.int .i64 0) (.slice A6 0 c6) ∧ (∀ u : Value, True) ∧ True ∧ Grew wt ((v2.setCell ⟨wt.heap.size, 0, none⟩ (.int .i64 0)).setCell ⟨wt.heap.size, 1, none⟩ (.slice A6 0 c6)) ∧ wt.heap.size ≤ wt.heap.size := ⟨HW0.out.set _ _, fun u => trivial, trivial, grew_set (grew_set HGv2.out _ (Nat.le_refl _)) _ (Nat.le_refl _), (Nat.le_refl _)⟩; (try clear t0 t1 t2 t3 t4); generalize ((v2.setCell ⟨wt.heap.size, 0, none⟩ (.int .i64 0)).setCell ⟨wt.heap.size, 1, none⟩ (.slice A6 0 c6)) = wF at *; generalize hTF : wt.heap.size = TF at *)
          | (have hX : Own2 ((v2.setCell ⟨v1.heap.size, 0, none⟩ (.int .i64 0)).setCell ⟨v1.heap.size, 1, none⟩ (.slice A6 0 c6)) v1.heap.size (.int .i64 0) (.slice A6 0 c6) ∧ (∀ u : Value, True) ∧ True ∧ Grew wt ((v2.setCell ⟨v1.heap.size, 0, none⟩ (.int .i64 0)).setCell ⟨v1.heap.size, 1, none⟩ (.slice A6 0 c6)) ∧ wt.heap.size ≤ v1.heap.size := ⟨HW1.out.set _ _, fun u => trivial, trivial, grew_set (grew_set HGv2.out _ HGv1.out.size) _ HGv1.out.size, HGv1.out.size⟩; (try clear t0 t1 t2 t3 t4); generalize ((v2.setCell ⟨v1.heap.size, 0, none⟩ (.int .i64 0)).setCell ⟨v1.heap.size, 1, none⟩ (.slice A6 0 c6)) = wF at *; generalize hTF : v1.heap.size = TF at *)
          | (have hX : Own2 (v2.alloc (.cells #[.int .i64 0, (.slice A6 0 c6)] 24)) v2.heap.size (.int .i64 0) (.slice A6 0 c6) ∧ (∀ u : Value, True) ∧ True ∧ Grew wt (v2.alloc (.cells #[.int .i64 0, (.slice A6 0 c6)] 24)) ∧ wt.heap.size ≤ v2.heap.size := ⟨Own2.new _ _ _ _ _ rfl, fun u => trivial, trivial, grew_trans HGv2.out (grew_alloc _ _ _), HGv2.out.size⟩; (try clear t0 t1 t2 t3 t4); generalize (v2.alloc (.cells #[.int .i64 0, (.slice A6 0 c6)] 24)) = wF at *; generalize hTF : v2.heap.size = TF at *)
        have HX := Lib.hid hX
        obtain ⟨⟨u0, u1, uf0, uf1, ul⟩, -, -, hgX, hTX⟩ := hX
        obtain ⟨⟨b0, b1, b2⟩, -, -, hz0, -, -⟩ := HC.out wF hgX
        clear hr5 hgX hTX u0 u1 uf0 uf1 ul
        obtain ⟨hk34, hlt⟩ := hlow
        rcases hk34 with hk3 | hk4
        · have d3 : (k == 3) = true := by simpa using hk3
          clear hk3
          go_wp2_with (go_at_call 21; ((with_reducible refine (WK _).mono ?_); rintro e w9 ⟨rfl, hg⟩; have HG9 := Lib.hid (grew_trans (grew_trans HGW.out HX.out.2.2.2.1) hg); clear hg))
          go_ret
          exact ⟨rfl, HG9.out⟩
        · have d3 : (k == 3) = false := by rw [hk4]; decide
          have d4 : (k == 4) = true := by simpa using hk4
          clear hk4
          go_wp2_with (go_at_call 21; ((with_reducible refine (WK _).mono ?_); rintro e w9 ⟨rfl, hg⟩; have HG9 := Lib.hid (grew_trans (grew_trans HGW.out HX.out.2.2.2.1) hg); clear hg))
          go_ret
          exact ⟨rfl, HG9.out⟩
    · obtain ⟨hE, hS⟩ := hfl.out.2 hlow
      have CP2 := fun w' g B' hr => (CP w' g B' hr).mono fun e w'' h => postR_yes hE h
      have HPL : Hid (rightB (postL last bl (last + 1) mv) = true) := (ledger_parts (posted hE).2.1).2.1
      have COf := fun w' A' c' (h : RowE enLg w' A' (postL last bl (last + 1) mv).length (postL last bl (last + 1) mv)) => lof_any (last + 1) A' (postL last bl (last + 1) mv).length c' (postL last bl (last + 1) mv) k m r w' h (by have := right_len HPL.out; omega)
      rw [ofL_sum (rightB_parts HPL.out).2, hS] at COf
      unfold ldV acV at COf
      unfold ldV at CP2
      clear CP hE hfl hS HPL
      generalize postL last bl (last + 1) mv = tl at *
      refine wp_region_held_drew (S := (fun w' => w'.cell? ⟨w1.heap.size, 0, none⟩ = some (.int .i64 last) ∧ w'.cell? ⟨w1.heap.size, 1, none⟩ = some (.slice A1 bl.length c1) ∧ w'.cell? ⟨w.heap.size, 0, none⟩ = some (.int .i64 k) ∧ w'.cell? ⟨w.heap.size, 1, none⟩ = some (.int .i64 m) ∧ w'.cell? ⟨w.heap.size, 2, none⟩ = some (.int .i64 r) ∧ w'.cell? ⟨w2.heap.size, 0, none⟩ = some (.int .i64 1) ∧ w'.cell? ⟨w2.heap.size, 1, none⟩ = some (.int .i64 0) ∧ w'.cell? ⟨w2.heap.size, 2, none⟩ = some (.int .i64 r))) (by kernel_rfl) (HS.out _ (grew_drew (grew_refl _))) (fun hHeld => ?_)
      (refine wpAnyH_take (i := 0) (oi := { dst := some 70, op := Op.load 24 (Operand.tmp 7), type := 24, pos := "more.go:39", after := #[], guard := none }) (v := ?_) rfl (by kernel_rfl) (by kernel_rfl) (by kernel_rfl) (fun _ _ _ h => h) (Or.inl ⟨by rfl, ?_⟩) (by assumption) ?_; rotate_left; · (intro w hSw; (try dsimp only at hSw); go_simp; (first | done | with_reducible rfl)))
      try simp only [Act.put, List.setIfInBounds_toArray, List.set_cons_zero, List.set_cons_succ]
      (refine wpAnyH_take (i := 1) (oi := { dst := some 71, op := Op.fieldAddr 24 (Operand.tmp 7) 0, type := 0, pos := "more.go:39", after := #[], guard := none }) (v := ?_) rfl (by kernel_rfl) (by kernel_rfl) (by kernel_rfl) (fun _ _ _ h => h) (Or.inl ⟨by rfl, ?_⟩) (by assumption) ?_; rotate_left; · (intro w hSw; (try dsimp only at hSw); go_simp; (first | done | with_reducible rfl)))
      try simp only [Act.put, List.setIfInBounds_toArray, List.set_cons_zero, List.set_cons_succ]
      (refine wpAnyH_take (i := 2) (oi := { dst := some 72, op := Op.load 3 (Operand.tmp 71), type := 3, pos := "more.go:39", after := #[{ on := 1, ground := Ground.data }], guard := none }) (v := ?_) rfl (by kernel_rfl) (by kernel_rfl) (by kernel_rfl) (fun _ _ _ h => h) (Or.inl ⟨by rfl, ?_⟩) (by assumption) ?_; rotate_left; · (intro w hSw; (try dsimp only at hSw); go_simp; (first | done | with_reducible rfl)))
      try simp only [Act.put, List.setIfInBounds_toArray, List.set_cons_zero, List.set_cons_succ]
      (refine wpAnyH_take (i := 3) (oi := { dst := some 73, op := Op.binOp BinOp.add 3 (Operand.tmp 72) (Operand.const (Value.int IntKind.i64 1)) 3, type := 3, pos := "more.go:39", after := #[{ on := 2, ground := Ground.data }], guard := none }) (v := ?_) rfl (by kernel_rfl) (by kernel_rfl) (by kernel_rfl) (fun _ _ _ h => h) (Or.inl ⟨by rfl, ?_⟩) (by assumption) ?_; rotate_left; · (intro w hSw; (try dsimp only at hSw); go_simp; (first | done | with_reducible rfl)))
      try simp only [Act.put, List.setIfInBounds_toArray, List.set_cons_zero, List.set_cons_succ]
      (refine wpAnyH_take (i := 4) (oi := { dst := some 74, op := Op.load 27 (Operand.tmp 4), type := 27, pos := "more.go:39", after := #[], guard := none }) (v := ?_) rfl (by kernel_rfl) (by kernel_rfl) (by kernel_rfl) (fun _ _ _ h => h) (Or.inl ⟨by rfl, ?_⟩) (by assumption) ?_; rotate_left; · (intro w hSw; (try dsimp only at hSw); go_simp; (first | done | with_reducible rfl)))
      try simp only [Act.put, List.setIfInBounds_toArray, List.set_cons_zero, List.set_cons_succ]
      (refine wpAnyH_take (i := 5) (oi := { dst := some 75, op := Op.load 27 (Operand.tmp 10), type := 27, pos := "more.go:39", after := #[], guard := none }) (v := ?_) rfl (by kernel_rfl) (by kernel_rfl) (by kernel_rfl) (fun _ _ _ h => h) (Or.inl ⟨by rfl, ?_⟩) (by assumption) ?_; rotate_left; · (intro w hSw; (try dsimp only at hSw); go_simp; (first | done | with_reducible rfl)))
      try simp only [Act.put, List.setIfInBounds_toArray, List.set_cons_zero, List.set_cons_succ]
      (refine wpAnyH_take (i := 6) (oi := { dst := some 76, op := Op.move (Operand.tmp 2), type := 3, pos := "more.go:39", after := #[], guard := none }) (v := ?_) rfl (by kernel_rfl) (by kernel_rfl) (by kernel_rfl) (fun _ _ _ h => h) (Or.inl ⟨by rfl, ?_⟩) (by assumption) ?_; rotate_left; · (intro w hSw; (try dsimp only at hSw); go_simp; (first | done | with_reducible rfl)))
      try simp only [Act.put, List.setIfInBounds_toArray, List.set_cons_zero, List.set_cons_succ]
      refine wpAnyH_ready (rs := [7, 12]) (by kernel_rfl) (by simp) ?_
      refine (AllReadyH.cons (o := { dst := some 77, op := Op.call { callee := Callee.value (Operand.func 28), args := #[Operand.tmp 74, Operand.tmp 75, Operand.tmp 76], argTypes := #[27, 27, 3] }, type := 25, pos := "more.go:39", after := #[{ on := 4, ground := Ground.data }, { on := 5, ground := Ground.data }, { on := 6, ground := Ground.data }], guard := none }) rfl (fun K hK => ?_) (AllReadyH.cons (o := { dst := some 11, op := Op.alloc 24, type := 0, pos := "more.go:39", after := #[], guard := none }) rfl (fun K hK => ?_) AllReadyH.nil))
      · go_simp
        (go_at_call 28; (first | (with_reducible refine (CM _).mono ?_)); rintro e v1 ⟨B5, rfl, hr5, hg5⟩)
        have HS1 : Hid (Grew wt v1) := (by first | exact hg5 | exact grew_trans (grew_drew (grew_refl _)) hg5 | exact grew_trans (grew_drew (grew_alloc _ _ _)) hg5 | exact grew_trans (grew_alloc _ _ _) hg5)
        have HGv1 : Hid (Grew wt v1) := HS1
        (try have HW0 : Hid (Own2 v1 wt.heap.size (.int .i64 0) (.slice none 0 0)) := (Own2.new wt (.int .i64 0) (.slice none 0 0) 24 _ rfl).keep (by first | exact hg5 | exact grew_trans (grew_drew (grew_refl _)) hg5))
        (try obtain ⟨t0, t1, t2, t3, t4⟩ := HW0.out)
        (try have HL0 : Hid (wt.heap.size < v1.heap.size) := HW0.out.lt)
        refine hK.out _ _ ?_ (fun hHeld => ?_)
        · first
          | exact HS.out _ HGv1.out
        clear hK K
        try simp only [Act.put, List.setIfInBounds_toArray, List.set_cons_zero, List.set_cons_succ]
        refine wpAnyH_ready (rs := [8, 12]) (by kernel_rfl) (by simp) ?_
        refine (AllReadyH.cons (o := { dst := some 78, op := Op.call { callee := Callee.value (Operand.func 15), args := #[Operand.tmp 70, Operand.tmp 73, Operand.tmp 77], argTypes := #[24, 3, 25] }, type := 34, pos := "more.go:39", after := #[{ on := 0, ground := Ground.data }, { on := 3, ground := Ground.data }, { on := 7, ground := Ground.data }, { on := 7, ground := Ground.chain }], guard := none }) rfl (fun K hK => ?_) (AllReadyH.cons (o := { dst := some 11, op := Op.alloc 24, type := 0, pos := "more.go:39", after := #[], guard := none }) rfl (fun K hK => ?_) AllReadyH.nil))
        · go_simp
          (go_at_call 15; (first | (with_reducible refine (CP2 _ (grew_trans HGv1.out (grew_refl _)) _ (hr5.keep (grew_refl _))).mono ?_) | (with_reducible refine (CP2 _ (grew_trans HGv1.out (grew_drew (grew_refl _))) _ (hr5.keep (grew_drew (grew_refl _)))).mono ?_) | (with_reducible refine (CP2 _ (grew_trans HGv1.out (grew_drew (grew_alloc _ _ _))) _ (hr5.keep (grew_drew (grew_alloc _ _ _)))).mono ?_) | (with_reducible refine (CP2 _ (grew_trans HGv1.out (grew_alloc _ _ _)) _ (hr5.keep (grew_alloc _ _ _))).mono ?_)); rintro e v2 ⟨A6, c6, rfl, hl6, hg6⟩)
          have HS2 : Hid (Grew v1 v2) := (by first | exact hg6 | exact grew_trans (grew_drew (grew_refl _)) hg6 | exact grew_trans (grew_drew (grew_alloc _ _ _)) hg6 | exact grew_trans (grew_alloc _ _ _) hg6)
          have HGv2 : Hid (Grew wt v2) := grew_trans HGv1.out HS2.out
          (try have HW0 := Lib.hid (HW0.out.keep HS2.out))
          (try have HW1 : Hid (Own2 v2 v1.heap.size (.int .i64 0) (.slice none 0 0)) := (Own2.new v1 (.int .i64 0) (.slice none 0 0) 24 _ rfl).keep (by first | exact hg6 | exact grew_trans (grew_drew (grew_refl _)) hg6))
          (try obtain ⟨t0, t1, t2, t3, t4⟩ := HW0.out)
          (try obtain ⟨t0, t1, t2, t3, t4⟩ := HW1.out)
          refine hK.out _ _ ?_ (fun hHeld => ?_)
          · first
            | exact HS.out _ HGv2.out
          clear hK K
          try simp only [Act.put, List.setIfInBounds_toArray, List.set_cons_zero, List.set_cons_succ]
          (refine wpAnyH_take (i := 9) (oi := { dst := some 69, op := Op.move (Operand.tmp 78), type := 34, pos := "more.go:39", after := #[{ on := 8, ground := Ground.data }], guard := none }) (v := ?_) rfl (by kernel_rfl) (by kernel_rfl) (by kernel_rfl) (fun _ _ _ h => h) (Or.inl ⟨by rfl, ?_⟩) (by assumption) ?_; rotate_left; · (intro w hSw; (try dsimp only at hSw); go_simp; (first | done | with_reducible rfl)))
          try simp only [Act.put, List.setIfInBounds_toArray, List.set_cons_zero, List.set_cons_succ]
          (refine wpAnyH_take (i := 10) (oi := { dst := some 79, op := Op.extract (Operand.tmp 69) 0, type := 24, pos := "more.go:39", after := #[{ on := 9, ground := Ground.data }], guard := none }) (v := ?_) rfl (by kernel_rfl) (by kernel_rfl) (by kernel_rfl) (fun _ _ _ h => h) (Or.inl ⟨by rfl, ?_⟩) (by assumption) ?_; rotate_left; · (intro w hSw; (try dsimp only at hSw); go_simp; (first | done | with_reducible rfl)))
          try simp only [Act.put, List.setIfInBounds_toArray, List.set_cons_zero, List.set_cons_succ]
          (refine wpAnyH_take (i := 11) (oi := { dst := some 80, op := Op.extract (Operand.tmp 69) 1, type := 31, pos := "more.go:39", after := #[{ on := 9, ground := Ground.data }, { on := 13, ground := Ground.gcOnly Departure.lateStores }], guard := none }) (v := ?_) rfl (by kernel_rfl) (by kernel_rfl) (by kernel_rfl) (fun _ _ _ h => h) (Or.inl ⟨by rfl, ?_⟩) (by assumption) ?_; rotate_left; · (intro w hSw; (try dsimp only at hSw); go_simp; (first | done | with_reducible rfl)))
          try simp only [Act.put, List.setIfInBounds_toArray, List.set_cons_zero, List.set_cons_succ]
          refine wpAnyH_ready (rs := [12]) (by kernel_rfl) (by simp) ?_
          refine (AllReadyH.cons (o := { dst := some 11, op := Op.alloc 24, type := 0, pos := "more.go:39", after := #[], guard := none }) rfl (fun K hK => ?_) AllReadyH.nil)
          go_simp
          refine hK.out _ _ ?_ (fun hHeld => ?_)
          · first
            | exact HS.out _ (grew_trans HGv2.out (grew_refl _))
            | exact HS.out _ (grew_trans HGv2.out (grew_drew (grew_refl _)))
            | exact HS.out _ (grew_trans HGv2.out (grew_drew (grew_alloc _ _ _)))
            | exact HS.out _ (grew_trans HGv2.out (grew_alloc _ _ _))
            | exact HS.out _ (grew_trans HGv1.out (grew_refl _))
            | exact HS.out _ (grew_trans HGv1.out (grew_drew (grew_refl _)))
            | exact HS.out _ (grew_trans HGv1.out (grew_drew (grew_alloc _ _ _)))
            | exact HS.out _ (grew_trans HGv1.out (grew_alloc _ _ _))
            | exact HS.out _ (grew_refl _)
            | exact HS.out _ (grew_drew (grew_refl _))
            | exact HS.out _ (grew_drew (grew_alloc _ _ _))
            | exact HS.out _ (grew_alloc _ _ _)
            | (trace_state; fail)
          clear hK K
          try simp only [Act.put, List.setIfInBounds_toArray, List.set_cons_zero, List.set_cons_succ]
          refine wpAnyH_ready (rs := [13]) (by kernel_rfl) (by simp) ?_
          refine (AllReadyH.cons (o := { dst := none, op := Op.store 24 (Operand.tmp 11) (Operand.tmp 79), type := 0, pos := "more.go:39", after := #[{ on := 12, ground := Ground.data }, { on := 10, ground := Ground.data }, { on := 8, ground := Ground.chain }, { on := 0, ground := Ground.phase }, { on := 1, ground := Ground.phase }, { on := 2, ground := Ground.phase }, { on := 3, ground := Ground.phase }, { on := 4, ground := Ground.phase }, { on := 5, ground := Ground.phase }, { on := 6, ground := Ground.phase }, { on := 7, ground := Ground.phase }, { on := 8, ground := Ground.phase }, { on := 9, ground := Ground.phase }, { on := 10, ground := Ground.phase }, { on := 11, ground := Ground.textOnly Departure.lateStores }, { on := 12, ground := Ground.phase }], guard := none }) rfl (fun K hK => ?_) AllReadyH.nil)
          go_simp
          refine hK.out _ _ ?_ (fun hHeld => ?_)
          · first
            | exact HS.out _ (grew_set (grew_set HGv2.out _ (Nat.le_refl _)) _ (Nat.le_refl _))
            | exact HS.out _ (grew_drew (grew_set (grew_set HGv2.out _ (Nat.le_refl _)) _ (Nat.le_refl _)))
            | exact HS.out _ (grew_set (grew_set HGv2.out _ HGv1.out.size) _ HGv1.out.size)
            | exact HS.out _ (grew_drew (grew_set (grew_set HGv2.out _ HGv1.out.size) _ HGv1.out.size))
            | exact HS.out _ (grew_trans HGv2.out (grew_refl _))
            | exact HS.out _ (grew_trans HGv2.out (grew_drew (grew_refl _)))
            | exact HS.out _ (grew_trans HGv2.out (grew_drew (grew_alloc _ _ _)))
            | exact HS.out _ (grew_trans HGv2.out (grew_alloc _ _ _))
            | (trace_state; fail)
          clear hK K
          try simp only [Act.put, List.setIfInBounds_toArray, List.set_cons_zero, List.set_cons_succ]
          (refine wpAnyH_take (i := 14) (oi := { dst := some 12, op := Op.assign (Operand.tmp 80), type := 31, pos := "more.go:39", after := #[{ on := 11, ground := Ground.data }, { on := 13, ground := Ground.chain }, { on := 0, ground := Ground.phase }, { on := 1, ground := Ground.phase }, { on := 2, ground := Ground.phase }, { on := 3, ground := Ground.phase }, { on := 4, ground := Ground.phase }, { on := 5, ground := Ground.phase }, { on := 6, ground := Ground.phase }, { on := 7, ground := Ground.phase }, { on := 8, ground := Ground.phase }, { on := 9, ground := Ground.phase }, { on := 10, ground := Ground.phase }, { on := 11, ground := Ground.phase }, { on := 12, ground := Ground.phase }, { on := 13, ground := Ground.phase }], guard := none }) (v := ?_) rfl (by kernel_rfl) (by kernel_rfl) (by kernel_rfl) (fun _ _ _ h => h) (Or.inl ⟨by rfl, ?_⟩) (by assumption) ?_; rotate_left; · (intro w hSw; (try dsimp only at hSw); go_simp; (first | done | with_reducible rfl)))
          try simp only [Act.put, List.setIfInBounds_toArray, List.set_cons_zero, List.set_cons_succ]
          refine wpAnyH_done (by kernel_rfl) ?_ _
          clear hHeld
          first
            | (have hX : Own2 ((v2.setCell ⟨wt.heap.size, 0, none⟩ (.int .i64 (last + 1))).setCell ⟨wt.heap.size, 1, none⟩ (.slice A6 tl.length c6)) wt.heap.size (.int .i64 (last + 1)) (.slice A6 tl.length c6) ∧ (∀ u : Value, RowE enLg (((v2.setCell ⟨wt.heap.size, 0, none⟩ (.int .i64 (last + 1))).setCell ⟨wt.heap.size, 1, none⟩ (.slice A6 tl.length c6)).setCell ⟨wt.heap.size, 0, none⟩ u) A6 tl.length tl) ∧ RowE enLg ((v2.setCell ⟨wt.heap.size, 0, none⟩ (.int .i64 (last + 1))).setCell ⟨wt.heap.size, 1, none⟩ (.slice A6 tl.length c6)) A6 tl.length tl ∧ Grew wt ((v2.setCell ⟨wt.heap.size, 0, none⟩ (.int .i64 (last + 1))).setCell ⟨wt.heap.size, 1, none⟩ (.slice A6 tl.length c6)) ∧ wt.heap.size ≤ wt.heap.size := ⟨HW0.out.set _ _, fun u => (((hl6.set _ 0 _ HL0.out).set _ 1 _ HL0.out).set _ 0 u HL0.out).row, ((hl6.set _ 0 _ HL0.out).set _ 1 _ HL0.out).row, grew_set (grew_set HGv2.out _ (Nat.le_refl _)) _ (Nat.le_refl _), (Nat.le_refl _)⟩; (try clear t0 t1 t2 t3 t4); generalize ((v2.setCell ⟨wt.heap.size, 0, none⟩ (.int .i64 (last + 1))).setCell ⟨wt.heap.size, 1, none⟩ (.slice A6 tl.length c6)) = wF at *; generalize hTF : wt.heap.size = TF at *)
            | (have hX : Own2 ((v2.setCell ⟨v1.heap.size, 0, none⟩ (.int .i64 (last + 1))).setCell ⟨v1.heap.size, 1, none⟩ (.slice A6 tl.length c6)) v1.heap.size (.int .i64 (last + 1)) (.slice A6 tl.length c6) ∧ (∀ u : Value, RowE enLg (((v2.setCell ⟨v1.heap.size, 0, none⟩ (.int .i64 (last + 1))).setCell ⟨v1.heap.size, 1, none⟩ (.slice A6 tl.length c6)).setCell ⟨v1.heap.size, 0, none⟩ u) A6 tl.length tl) ∧ RowE enLg ((v2.setCell ⟨v1.heap.size, 0, none⟩ (.int .i64 (last + 1))).setCell ⟨v1.heap.size, 1, none⟩ (.slice A6 tl.length c6)) A6 tl.length tl ∧ Grew wt ((v2.setCell ⟨v1.heap.size, 0, none⟩ (.int .i64 (last + 1))).setCell ⟨v1.heap.size, 1, none⟩ (.slice A6 tl.length c6)) ∧ wt.heap.size ≤ v1.heap.size := ⟨HW1.out.set _ _, fun u => (((hl6.set _ 0 _ (by simp)).set _ 1 _ (by simp)).set _ 0 u (by simp)).row, ((hl6.set _ 0 _ (by simp)).set _ 1 _ (by simp)).row, grew_set (grew_set HGv2.out _ HGv1.out.size) _ HGv1.out.size, HGv1.out.size⟩; (try clear t0 t1 t2 t3 t4); generalize ((v2.setCell ⟨v1.heap.size, 0, none⟩ (.int .i64 (last + 1))).setCell ⟨v1.heap.size, 1, none⟩ (.slice A6 tl.length c6)) = wF at *; generalize hTF : v1.heap.size = TF at *)
            | (have hX : Own2 (v2.alloc (.cells #[.int .i64 (last + 1), (.slice A6 tl.length c6)] 24)) v2.heap.size (.int .i64 (last + 1)) (.slice A6 tl.length c6) ∧ (∀ u : Value, RowE enLg ((v2.alloc (.cells #[.int .i64 (last + 1), (.slice A6 tl.length c6)] 24)).setCell ⟨v2.heap.size, 0, none⟩ u) A6 tl.length tl) ∧ RowE enLg (v2.alloc (.cells #[.int .i64 (last + 1), (.slice A6 tl.length c6)] 24)) A6 tl.length tl ∧ Grew wt (v2.alloc (.cells #[.int .i64 (last + 1), (.slice A6 tl.length c6)] 24)) ∧ wt.heap.size ≤ v2.heap.size := ⟨Own2.new _ _ _ _ _ rfl, fun u => hl6.row.keep (grew_set (grew_alloc _ _ _) _ (Nat.le_refl _)), hl6.row.keep (grew_alloc _ _ _), grew_trans HGv2.out (grew_alloc _ _ _), HGv2.out.size⟩; (try clear t0 t1 t2 t3 t4); generalize (v2.alloc (.cells #[.int .i64 (last + 1), (.slice A6 tl.length c6)] 24)) = wF at *; generalize hTF : v2.heap.size = TF at *)
          have HX := Lib.hid hX
          obtain ⟨⟨u0, u1, uf0, uf1, ul⟩, -, -, hgX, hTX⟩ := hX
          obtain ⟨⟨b0, b1, b2⟩, -, -, hz0, -, -⟩ := HC.out wF hgX
          clear hr5 hgX hTX hl6
          by_cases hk3 : k = 3
          · have d3 : (k == 3) = true := by simpa using hk3
            have hlt : ¬ hs < x := fun h => hlow ⟨Or.inl hk3, h⟩
            clear hlow hk3
            go_wp2_with (first
              | (go_at_call 13; ((with_reducible refine (COf _ _ _ HX.out.2.2.1).mono ?_); rintro e w8 ⟨rfl, hg⟩; have HG8 := Lib.hid (grew_trans HX.out.2.2.2.1 hg); clear hg))
              | (go_at_call 21; ((with_reducible refine (WK _).mono ?_); rintro e w9 ⟨rfl, hg⟩; have HG9 := Lib.hid (grew_trans (grew_trans HGW.out HG8.out) hg); clear hg)))
            go_ret
            exact ⟨rfl, HG9.out⟩
          · have d3 : (k == 3) = false := by simpa using hk3
            by_cases hk4 : k = 4
            · have d4 : (k == 4) = true := by simpa using hk4
              have hlt : ¬ hs < x := fun h => hlow ⟨Or.inr hk4, h⟩
              clear hlow hk4
              go_wp2_with (first
                | (go_at_call 13; ((with_reducible refine (COf _ _ _ HX.out.2.2.1).mono ?_); rintro e w8 ⟨rfl, hg⟩; have HG8 := Lib.hid (grew_trans HX.out.2.2.2.1 hg); clear hg))
                | (go_at_call 21; ((with_reducible refine (WK _).mono ?_); rintro e w9 ⟨rfl, hg⟩; have HG9 := Lib.hid (grew_trans (grew_trans HGW.out HG8.out) hg); clear hg)))
              go_ret
              exact ⟨rfl, HG9.out⟩
            · have d4 : (k == 4) = false := by simpa using hk4
              clear hlow
              go_wp2_with (first
                | (go_at_call 13; ((with_reducible refine (COf _ _ _ HX.out.2.2.1).mono ?_); rintro e w8 ⟨rfl, hg⟩; have HG8 := Lib.hid (grew_trans HX.out.2.2.2.1 hg); clear hg))
                | (go_at_call 21; ((with_reducible refine (WK _).mono ?_); rintro e w9 ⟨rfl, hg⟩; have HG9 := Lib.hid (grew_trans (grew_trans HGW.out HG8.out) hg); clear hg)))
              go_ret
              exact ⟨rfl, HG9.out⟩
        · go_simp
          refine hK.out _ _ ?_ (fun hHeld => ?_)
          · first
            | exact HS.out _ (grew_trans HGv2.out (grew_refl _))
            | exact HS.out _ (grew_trans HGv2.out (grew_drew (grew_refl _)))
            | exact HS.out _ (grew_trans HGv2.out (grew_drew (grew_alloc _ _ _)))
            | exact HS.out _ (grew_trans HGv2.out (grew_alloc _ _ _))
            | exact HS.out _ (grew_trans HGv1.out (grew_refl _))
            | exact HS.out _ (grew_trans HGv1.out (grew_drew (grew_refl _)))
            | exact HS.out _ (grew_trans HGv1.out (grew_drew (grew_alloc _ _ _)))
            | exact HS.out _ (grew_trans HGv1.out (grew_alloc _ _ _))
            | exact HS.out _ (grew_refl _)
            | exact HS.out _ (grew_drew (grew_refl _))
            | exact HS.out _ (grew_drew (grew_alloc _ _ _))
            | exact HS.out _ (grew_alloc _ _ _)
            | (trace_state; fail)
          clear hK K
          try simp only [Act.put, List.setIfInBounds_toArray, List.set_cons_zero, List.set_cons_succ]
          refine wpAnyH_ready (rs := [8]) (by kernel_rfl) (by simp) ?_
          refine (AllReadyH.cons (o := { dst := some 78, op := Op.call { callee := Callee.value (Operand.func 15), args := #[Operand.tmp 70, Operand.tmp 73, Operand.tmp 77], argTypes := #[24, 3, 25] }, type := 34, pos := "more.go:39", after := #[{ on := 0, ground := Ground.data }, { on := 3, ground := Ground.data }, { on := 7, ground := Ground.data }, { on := 7, ground := Ground.chain }], guard := none }) rfl (fun K hK => ?_) AllReadyH.nil)
          go_simp
          (go_at_call 15; (first | (with_reducible refine (CP2 _ (grew_trans HGv1.out (grew_refl _)) _ (hr5.keep (grew_refl _))).mono ?_) | (with_reducible refine (CP2 _ (grew_trans HGv1.out (grew_drew (grew_refl _))) _ (hr5.keep (grew_drew (grew_refl _)))).mono ?_) | (with_reducible refine (CP2 _ (grew_trans HGv1.out (grew_drew (grew_alloc _ _ _))) _ (hr5.keep (grew_drew (grew_alloc _ _ _)))).mono ?_) | (with_reducible refine (CP2 _ (grew_trans HGv1.out (grew_alloc _ _ _)) _ (hr5.keep (grew_alloc _ _ _))).mono ?_)); rintro e v2 ⟨A6, c6, rfl, hl6, hg6⟩)
          have HS2 : Hid (Grew v1 v2) := (by first | exact hg6 | exact grew_trans (grew_drew (grew_refl _)) hg6 | exact grew_trans (grew_drew (grew_alloc _ _ _)) hg6 | exact grew_trans (grew_alloc _ _ _) hg6)
          have HGv2 : Hid (Grew wt v2) := grew_trans HGv1.out HS2.out
          (try have HW0 := Lib.hid (HW0.out.keep HS2.out))
          (try have HW1 : Hid (Own2 v2 v1.heap.size (.int .i64 0) (.slice none 0 0)) := (Own2.new v1 (.int .i64 0) (.slice none 0 0) 24 _ rfl).keep (by first | exact hg6 | exact grew_trans (grew_drew (grew_refl _)) hg6))
          (try obtain ⟨t0, t1, t2, t3, t4⟩ := HW0.out)
          (try obtain ⟨t0, t1, t2, t3, t4⟩ := HW1.out)
          refine hK.out _ _ ?_ (fun hHeld => ?_)
          · first
            | exact HS.out _ HGv2.out
          clear hK K
          try simp only [Act.put, List.setIfInBounds_toArray, List.set_cons_zero, List.set_cons_succ]
          (refine wpAnyH_take (i := 9) (oi := { dst := some 69, op := Op.move (Operand.tmp 78), type := 34, pos := "more.go:39", after := #[{ on := 8, ground := Ground.data }], guard := none }) (v := ?_) rfl (by kernel_rfl) (by kernel_rfl) (by kernel_rfl) (fun _ _ _ h => h) (Or.inl ⟨by rfl, ?_⟩) (by assumption) ?_; rotate_left; · (intro w hSw; (try dsimp only at hSw); go_simp; (first | done | with_reducible rfl)))
          try simp only [Act.put, List.setIfInBounds_toArray, List.set_cons_zero, List.set_cons_succ]
          (refine wpAnyH_take (i := 10) (oi := { dst := some 79, op := Op.extract (Operand.tmp 69) 0, type := 24, pos := "more.go:39", after := #[{ on := 9, ground := Ground.data }], guard := none }) (v := ?_) rfl (by kernel_rfl) (by kernel_rfl) (by kernel_rfl) (fun _ _ _ h => h) (Or.inl ⟨by rfl, ?_⟩) (by assumption) ?_; rotate_left; · (intro w hSw; (try dsimp only at hSw); go_simp; (first | done | with_reducible rfl)))
          try simp only [Act.put, List.setIfInBounds_toArray, List.set_cons_zero, List.set_cons_succ]
          (refine wpAnyH_take (i := 11) (oi := { dst := some 80, op := Op.extract (Operand.tmp 69) 1, type := 31, pos := "more.go:39", after := #[{ on := 9, ground := Ground.data }, { on := 13, ground := Ground.gcOnly Departure.lateStores }], guard := none }) (v := ?_) rfl (by kernel_rfl) (by kernel_rfl) (by kernel_rfl) (fun _ _ _ h => h) (Or.inl ⟨by rfl, ?_⟩) (by assumption) ?_; rotate_left; · (intro w hSw; (try dsimp only at hSw); go_simp; (first | done | with_reducible rfl)))
          try simp only [Act.put, List.setIfInBounds_toArray, List.set_cons_zero, List.set_cons_succ]
          refine wpAnyH_ready (rs := [13]) (by kernel_rfl) (by simp) ?_
          refine (AllReadyH.cons (o := { dst := none, op := Op.store 24 (Operand.tmp 11) (Operand.tmp 79), type := 0, pos := "more.go:39", after := #[{ on := 12, ground := Ground.data }, { on := 10, ground := Ground.data }, { on := 8, ground := Ground.chain }, { on := 0, ground := Ground.phase }, { on := 1, ground := Ground.phase }, { on := 2, ground := Ground.phase }, { on := 3, ground := Ground.phase }, { on := 4, ground := Ground.phase }, { on := 5, ground := Ground.phase }, { on := 6, ground := Ground.phase }, { on := 7, ground := Ground.phase }, { on := 8, ground := Ground.phase }, { on := 9, ground := Ground.phase }, { on := 10, ground := Ground.phase }, { on := 11, ground := Ground.textOnly Departure.lateStores }, { on := 12, ground := Ground.phase }], guard := none }) rfl (fun K hK => ?_) AllReadyH.nil)
          go_simp
          refine hK.out _ _ ?_ (fun hHeld => ?_)
          · first
            | exact HS.out _ (grew_set (grew_set HGv2.out _ (Nat.le_refl _)) _ (Nat.le_refl _))
            | exact HS.out _ (grew_drew (grew_set (grew_set HGv2.out _ (Nat.le_refl _)) _ (Nat.le_refl _)))
            | exact HS.out _ (grew_set (grew_set HGv2.out _ HGv1.out.size) _ HGv1.out.size)
            | exact HS.out _ (grew_drew (grew_set (grew_set HGv2.out _ HGv1.out.size) _ HGv1.out.size))
            | exact HS.out _ (grew_trans HGv2.out (grew_refl _))
            | exact HS.out _ (grew_trans HGv2.out (grew_drew (grew_refl _)))
            | exact HS.out _ (grew_trans HGv2.out (grew_drew (grew_alloc _ _ _)))
            | exact HS.out _ (grew_trans HGv2.out (grew_alloc _ _ _))
            | (trace_state; fail)
          clear hK K
          try simp only [Act.put, List.setIfInBounds_toArray, List.set_cons_zero, List.set_cons_succ]
          (refine wpAnyH_take (i := 14) (oi := { dst := some 12, op := Op.assign (Operand.tmp 80), type := 31, pos := "more.go:39", after := #[{ on := 11, ground := Ground.data }, { on := 13, ground := Ground.chain }, { on := 0, ground := Ground.phase }, { on := 1, ground := Ground.phase }, { on := 2, ground := Ground.phase }, { on := 3, ground := Ground.phase }, { on := 4, ground := Ground.phase }, { on := 5, ground := Ground.phase }, { on := 6, ground := Ground.phase }, { on := 7, ground := Ground.phase }, { on := 8, ground := Ground.phase }, { on := 9, ground := Ground.phase }, { on := 10, ground := Ground.phase }, { on := 11, ground := Ground.phase }, { on := 12, ground := Ground.phase }, { on := 13, ground := Ground.phase }], guard := none }) (v := ?_) rfl (by kernel_rfl) (by kernel_rfl) (by kernel_rfl) (fun _ _ _ h => h) (Or.inl ⟨by rfl, ?_⟩) (by assumption) ?_; rotate_left; · (intro w hSw; (try dsimp only at hSw); go_simp; (first | done | with_reducible rfl)))
          try simp only [Act.put, List.setIfInBounds_toArray, List.set_cons_zero, List.set_cons_succ]
          refine wpAnyH_done (by kernel_rfl) ?_ _
          clear hHeld
          first
            | (have hX : Own2 ((v2.setCell ⟨wt.heap.size, 0, none⟩ (.int .i64 (last + 1))).setCell ⟨wt.heap.size, 1, none⟩ (.slice A6 tl.length c6)) wt.heap.size (.int .i64 (last + 1)) (.slice A6 tl.length c6) ∧ (∀ u : Value, RowE enLg (((v2.setCell ⟨wt.heap.size, 0, none⟩ (.int .i64 (last + 1))).setCell ⟨wt.heap.size, 1, none⟩ (.slice A6 tl.length c6)).setCell ⟨wt.heap.size, 0, none⟩ u) A6 tl.length tl) ∧ RowE enLg ((v2.setCell ⟨wt.heap.size, 0, none⟩ (.int .i64 (last + 1))).setCell ⟨wt.heap.size, 1, none⟩ (.slice A6 tl.length c6)) A6 tl.length tl ∧ Grew wt ((v2.setCell ⟨wt.heap.size, 0, none⟩ (.int .i64 (last + 1))).setCell ⟨wt.heap.size, 1, none⟩ (.slice A6 tl.length c6)) ∧ wt.heap.size ≤ wt.heap.size := ⟨HW0.out.set _ _, fun u => (((hl6.set _ 0 _ HL0.out).set _ 1 _ HL0.out).set _ 0 u HL0.out).row, ((hl6.set _ 0 _ HL0.out).set _ 1 _ HL0.out).row, grew_set (grew_set HGv2.out _ (Nat.le_refl _)) _ (Nat.le_refl _), (Nat.le_refl _)⟩; (try clear t0 t1 t2 t3 t4); generalize ((v2.setCell ⟨wt.heap.size, 0, none⟩ (.int .i64 (last + 1))).setCell ⟨wt.heap.size, 1, none⟩ (.slice A6 tl.length c6)) = wF at *; generalize hTF : wt.heap.size = TF at *)
            | (have hX : Own2 ((v2.setCell ⟨v1.heap.size, 0, none⟩ (.int .i64 (last + 1))).setCell ⟨v1.heap.size, 1, none⟩ (.slice A6 tl.length c6)) v1.heap.size (.int .i64 (last + 1)) (.slice A6 tl.length c6) ∧ (∀ u : Value, RowE enLg (((v2.setCell ⟨v1.heap.size, 0, none⟩ (.int .i64 (last + 1))).setCell ⟨v1.heap.size, 1, none⟩ (.slice A6 tl.length c6)).setCell ⟨v1.heap.size, 0, none⟩ u) A6 tl.length tl) ∧ RowE enLg ((v2.setCell ⟨v1.heap.size, 0, none⟩ (.int .i64 (last + 1))).setCell ⟨v1.heap.size, 1, none⟩ (.slice A6 tl.length c6)) A6 tl.length tl ∧ Grew wt ((v2.setCell ⟨v1.heap.size, 0, none⟩ (.int .i64 (last + 1))).setCell ⟨v1.heap.size, 1, none⟩ (.slice A6 tl.length c6)) ∧ wt.heap.size ≤ v1.heap.size := ⟨HW1.out.set _ _, fun u => (((hl6.set _ 0 _ (by simp)).set _ 1 _ (by simp)).set _ 0 u (by simp)).row, ((hl6.set _ 0 _ (by simp)).set _ 1 _ (by simp)).row, grew_set (grew_set HGv2.out _ HGv1.out.size) _ HGv1.out.size, HGv1.out.size⟩; (try clear t0 t1 t2 t3 t4); generalize ((v2.setCell ⟨v1.heap.size, 0, none⟩ (.int .i64 (last + 1))).setCell ⟨v1.heap.size, 1, none⟩ (.slice A6 tl.length c6)) = wF at *; generalize hTF : v1.heap.size = TF at *)
            | (have hX : Own2 (v2.alloc (.cells #[.int .i64 (last + 1), (.slice A6 tl.length c6)] 24)) v2.heap.size (.int .i64 (last + 1)) (.slice A6 tl.length c6) ∧ (∀ u : Value, RowE enLg ((v2.alloc (.cells #[.int .i64 (last + 1), (.slice A6 tl.length c6)] 24)).setCell ⟨v2.heap.size, 0, none⟩ u) A6 tl.length tl) ∧ RowE enLg (v2.alloc (.cells #[.int .i64 (last + 1), (.slice A6 tl.length c6)] 24)) A6 tl.length tl ∧ Grew wt (v2.alloc (.cells #[.int .i64 (last + 1), (.slice A6 tl.length c6)] 24)) ∧ wt.heap.size ≤ v2.heap.size := ⟨Own2.new _ _ _ _ _ rfl, fun u => hl6.row.keep (grew_set (grew_alloc _ _ _) _ (Nat.le_refl _)), hl6.row.keep (grew_alloc _ _ _), grew_trans HGv2.out (grew_alloc _ _ _), HGv2.out.size⟩; (try clear t0 t1 t2 t3 t4); generalize (v2.alloc (.cells #[.int .i64 (last + 1), (.slice A6 tl.length c6)] 24)) = wF at *; generalize hTF : v2.heap.size = TF at *)
          have HX := Lib.hid hX
          obtain ⟨⟨u0, u1, uf0, uf1, ul⟩, -, -, hgX, hTX⟩ := hX
          obtain ⟨⟨b0, b1, b2⟩, -, -, hz0, -, -⟩ := HC.out wF hgX
          clear hr5 hgX hTX hl6
          by_cases hk3 : k = 3
          · have d3 : (k == 3) = true := by simpa using hk3
            have hlt : ¬ hs < x := fun h => hlow ⟨Or.inl hk3, h⟩
            clear hlow hk3
            go_wp2_with (first
              | (go_at_call 13; ((with_reducible refine (COf _ _ _ HX.out.2.2.1).mono ?_); rintro e w8 ⟨rfl, hg⟩; have HG8 := Lib.hid (grew_trans HX.out.2.2.2.1 hg); clear hg))
              | (go_at_call 21; ((with_reducible refine (WK _).mono ?_); rintro e w9 ⟨rfl, hg⟩; have HG9 := Lib.hid (grew_trans (grew_trans HGW.out HG8.out) hg); clear hg)))
            go_ret
            exact ⟨rfl, HG9.out⟩
          · have d3 : (k == 3) = false := by simpa using hk3
            by_cases hk4 : k = 4
            · have d4 : (k == 4) = true := by simpa using hk4
              have hlt : ¬ hs < x := fun h => hlow ⟨Or.inr hk4, h⟩
              clear hlow hk4
              go_wp2_with (first
                | (go_at_call 13; ((with_reducible refine (COf _ _ _ HX.out.2.2.1).mono ?_); rintro e w8 ⟨rfl, hg⟩; have HG8 := Lib.hid (grew_trans HX.out.2.2.2.1 hg); clear hg))
                | (go_at_call 21; ((with_reducible refine (WK _).mono ?_); rintro e w9 ⟨rfl, hg⟩; have HG9 := Lib.hid (grew_trans (grew_trans HGW.out HG8.out) hg); clear hg)))
              go_ret
              exact ⟨rfl, HG9.out⟩
            · have d4 : (k == 4) = false := by simpa using hk4
              clear hlow
              go_wp2_with (first
                | (go_at_call 13; ((with_reducible refine (COf _ _ _ HX.out.2.2.1).mono ?_); rintro e w8 ⟨rfl, hg⟩; have HG8 := Lib.hid (grew_trans HX.out.2.2.2.1 hg); clear hg))
                | (go_at_call 21; ((with_reducible refine (WK _).mono ?_); rintro e w9 ⟨rfl, hg⟩; have HG9 := Lib.hid (grew_trans (grew_trans HGW.out HG8.out) hg); clear hg)))
              go_ret
              exact ⟨rfl, HG9.out⟩
      · go_simp
        refine hK.out _ _ ?_ (fun hHeld => ?_)
        · first
          | exact HS.out _ (grew_trans HGv2.out (grew_refl _))
          | exact HS.out _ (grew_trans HGv2.out (grew_drew (grew_refl _)))
          | exact HS.out _ (grew_trans HGv2.out (grew_drew (grew_alloc _ _ _)))
          | exact HS.out _ (grew_trans HGv2.out (grew_alloc _ _ _))
          | exact HS.out _ (grew_trans HGv1.out (grew_refl _))
          | exact HS.out _ (grew_trans HGv1.out (grew_drew (grew_refl _)))
          | exact HS.out _ (grew_trans HGv1.out (grew_drew (grew_alloc _ _ _)))
          | exact HS.out _ (grew_trans HGv1.out (grew_alloc _ _ _))
          | exact HS.out _ (grew_refl _)
          | exact HS.out _ (grew_drew (grew_refl _))
          | exact HS.out _ (grew_drew (grew_alloc _ _ _))
          | exact HS.out _ (grew_alloc _ _ _)
          | (trace_state; fail)
        clear hK K
        try simp only [Act.put, List.setIfInBounds_toArray, List.set_cons_zero, List.set_cons_succ]
        refine wpAnyH_ready (rs := [7]) (by kernel_rfl) (by simp) ?_
        refine (AllReadyH.cons (o := { dst := some 77, op := Op.call { callee := Callee.value (Operand.func 28), args := #[Operand.tmp 74, Operand.tmp 75, Operand.tmp 76], argTypes := #[27, 27, 3] }, type := 25, pos := "more.go:39", after := #[{ on := 4, ground := Ground.data }, { on := 5, ground := Ground.data }, { on := 6, ground := Ground.data }], guard := none }) rfl (fun K hK => ?_) AllReadyH.nil)
        go_simp
        (go_at_call 28; (first | (with_reducible refine (CM _).mono ?_)); rintro e v1 ⟨B5, rfl, hr5, hg5⟩)
        have HS1 : Hid (Grew wt v1) := (by first | exact hg5 | exact grew_trans (grew_drew (grew_refl _)) hg5 | exact grew_trans (grew_drew (grew_alloc _ _ _)) hg5 | exact grew_trans (grew_alloc _ _ _) hg5)
        have HGv1 : Hid (Grew wt v1) := HS1
        (try have HW0 : Hid (Own2 v1 wt.heap.size (.int .i64 0) (.slice none 0 0)) := (Own2.new wt (.int .i64 0) (.slice none 0 0) 24 _ rfl).keep (by first | exact hg5 | exact grew_trans (grew_drew (grew_refl _)) hg5))
        (try obtain ⟨t0, t1, t2, t3, t4⟩ := HW0.out)
        (try have HL0 : Hid (wt.heap.size < v1.heap.size) := HW0.out.lt)
        refine hK.out _ _ ?_ (fun hHeld => ?_)
        · first
          | exact HS.out _ HGv1.out
        clear hK K
        try simp only [Act.put, List.setIfInBounds_toArray, List.set_cons_zero, List.set_cons_succ]
        refine wpAnyH_ready (rs := [8]) (by kernel_rfl) (by simp) ?_
        refine (AllReadyH.cons (o := { dst := some 78, op := Op.call { callee := Callee.value (Operand.func 15), args := #[Operand.tmp 70, Operand.tmp 73, Operand.tmp 77], argTypes := #[24, 3, 25] }, type := 34, pos := "more.go:39", after := #[{ on := 0, ground := Ground.data }, { on := 3, ground := Ground.data }, { on := 7, ground := Ground.data }, { on := 7, ground := Ground.chain }], guard := none }) rfl (fun K hK => ?_) AllReadyH.nil)
        go_simp
        (go_at_call 15; (first | (with_reducible refine (CP2 _ (grew_trans HGv1.out (grew_refl _)) _ (hr5.keep (grew_refl _))).mono ?_) | (with_reducible refine (CP2 _ (grew_trans HGv1.out (grew_drew (grew_refl _))) _ (hr5.keep (grew_drew (grew_refl _)))).mono ?_) | (with_reducible refine (CP2 _ (grew_trans HGv1.out (grew_drew (grew_alloc _ _ _))) _ (hr5.keep (grew_drew (grew_alloc _ _ _)))).mono ?_) | (with_reducible refine (CP2 _ (grew_trans HGv1.out (grew_alloc _ _ _)) _ (hr5.keep (grew_alloc _ _ _))).mono ?_)); rintro e v2 ⟨A6, c6, rfl, hl6, hg6⟩)
        have HS2 : Hid (Grew v1 v2) := (by first | exact hg6 | exact grew_trans (grew_drew (grew_refl _)) hg6 | exact grew_trans (grew_drew (grew_alloc _ _ _)) hg6 | exact grew_trans (grew_alloc _ _ _) hg6)
        have HGv2 : Hid (Grew wt v2) := grew_trans HGv1.out HS2.out
        (try have HW0 := Lib.hid (HW0.out.keep HS2.out))
        (try have HW1 : Hid (Own2 v2 v1.heap.size (.int .i64 0) (.slice none 0 0)) := (Own2.new v1 (.int .i64 0) (.slice none 0 0) 24 _ rfl).keep (by first | exact hg6 | exact grew_trans (grew_drew (grew_refl _)) hg6))
        (try obtain ⟨t0, t1, t2, t3, t4⟩ := HW0.out)
        (try obtain ⟨t0, t1, t2, t3, t4⟩ := HW1.out)
        refine hK.out _ _ ?_ (fun hHeld => ?_)
        · first
          | exact HS.out _ HGv2.out
        clear hK K
        try simp only [Act.put, List.setIfInBounds_toArray, List.set_cons_zero, List.set_cons_succ]
        (refine wpAnyH_take (i := 9) (oi := { dst := some 69, op := Op.move (Operand.tmp 78), type := 34, pos := "more.go:39", after := #[{ on := 8, ground := Ground.data }], guard := none }) (v := ?_) rfl (by kernel_rfl) (by kernel_rfl) (by kernel_rfl) (fun _ _ _ h => h) (Or.inl ⟨by rfl, ?_⟩) (by assumption) ?_; rotate_left; · (intro w hSw; (try dsimp only at hSw); go_simp; (first | done | with_reducible rfl)))
        try simp only [Act.put, List.setIfInBounds_toArray, List.set_cons_zero, List.set_cons_succ]
        (refine wpAnyH_take (i := 10) (oi := { dst := some 79, op := Op.extract (Operand.tmp 69) 0, type := 24, pos := "more.go:39", after := #[{ on := 9, ground := Ground.data }], guard := none }) (v := ?_) rfl (by kernel_rfl) (by kernel_rfl) (by kernel_rfl) (fun _ _ _ h => h) (Or.inl ⟨by rfl, ?_⟩) (by assumption) ?_; rotate_left; · (intro w hSw; (try dsimp only at hSw); go_simp; (first | done | with_reducible rfl)))
        try simp only [Act.put, List.setIfInBounds_toArray, List.set_cons_zero, List.set_cons_succ]
        (refine wpAnyH_take (i := 11) (oi := { dst := some 80, op := Op.extract (Operand.tmp 69) 1, type := 31, pos := "more.go:39", after := #[{ on := 9, ground := Ground.data }, { on := 13, ground := Ground.gcOnly Departure.lateStores }], guard := none }) (v := ?_) rfl (by kernel_rfl) (by kernel_rfl) (by kernel_rfl) (fun _ _ _ h => h) (Or.inl ⟨by rfl, ?_⟩) (by assumption) ?_; rotate_left; · (intro w hSw; (try dsimp only at hSw); go_simp; (first | done | with_reducible rfl)))
        try simp only [Act.put, List.setIfInBounds_toArray, List.set_cons_zero, List.set_cons_succ]
        refine wpAnyH_ready (rs := [13]) (by kernel_rfl) (by simp) ?_
        refine (AllReadyH.cons (o := { dst := none, op := Op.store 24 (Operand.tmp 11) (Operand.tmp 79), type := 0, pos := "more.go:39", after := #[{ on := 12, ground := Ground.data }, { on := 10, ground := Ground.data }, { on := 8, ground := Ground.chain }, { on := 0, ground := Ground.phase }, { on := 1, ground := Ground.phase }, { on := 2, ground := Ground.phase }, { on := 3, ground := Ground.phase }, { on := 4, ground := Ground.phase }, { on := 5, ground := Ground.phase }, { on := 6, ground := Ground.phase }, { on := 7, ground := Ground.phase }, { on := 8, ground := Ground.phase }, { on := 9, ground := Ground.phase }, { on := 10, ground := Ground.phase }, { on := 11, ground := Ground.textOnly Departure.lateStores }, { on := 12, ground := Ground.phase }], guard := none }) rfl (fun K hK => ?_) AllReadyH.nil)
        go_simp
        refine hK.out _ _ ?_ (fun hHeld => ?_)
        · first
          | exact HS.out _ (grew_set (grew_set HGv2.out _ (Nat.le_refl _)) _ (Nat.le_refl _))
          | exact HS.out _ (grew_drew (grew_set (grew_set HGv2.out _ (Nat.le_refl _)) _ (Nat.le_refl _)))
          | exact HS.out _ (grew_set (grew_set HGv2.out _ HGv1.out.size) _ HGv1.out.size)
          | exact HS.out _ (grew_drew (grew_set (grew_set HGv2.out _ HGv1.out.size) _ HGv1.out.size))
          | exact HS.out _ (grew_trans HGv2.out (grew_refl _))
          | exact HS.out _ (grew_trans HGv2.out (grew_drew (grew_refl _)))
          | exact HS.out _ (grew_trans HGv2.out (grew_drew (grew_alloc _ _ _)))
          | exact HS.out _ (grew_trans HGv2.out (grew_alloc _ _ _))
          | (trace_state; fail)
        clear hK K
        try simp only [Act.put, List.setIfInBounds_toArray, List.set_cons_zero, List.set_cons_succ]
        (refine wpAnyH_take (i := 14) (oi := { dst := some 12, op := Op.assign (Operand.tmp 80), type := 31, pos := "more.go:39", after := #[{ on := 11, ground := Ground.data }, { on := 13, ground := Ground.chain }, { on := 0, ground := Ground.phase }, { on := 1, ground := Ground.phase }, { on := 2, ground := Ground.phase }, { on := 3, ground := Ground.phase }, { on := 4, ground := Ground.phase }, { on := 5, ground := Ground.phase }, { on := 6, ground := Ground.phase }, { on := 7, ground := Ground.phase }, { on := 8, ground := Ground.phase }, { on := 9, ground := Ground.phase }, { on := 10, ground := Ground.phase }, { on := 11, ground := Ground.phase }, { on := 12, ground := Ground.phase }, { on := 13, ground := Ground.phase }], guard := none }) (v := ?_) rfl (by kernel_rfl) (by kernel_rfl) (by kernel_rfl) (fun _ _ _ h => h) (Or.inl ⟨by rfl, ?_⟩) (by assumption) ?_; rotate_left; · (intro w hSw; (try dsimp only at hSw); go_simp; (first | done | with_reducible rfl)))
        try simp only [Act.put, List.setIfInBounds_toArray, List.set_cons_zero, List.set_cons_succ]
        refine wpAnyH_done (by kernel_rfl) ?_ _
        clear hHeld
        first
          | (have hX : Own2 ((v2.setCell ⟨wt.heap.size, 0, none⟩ (.int .i64 (last + 1))).setCell ⟨wt.heap.size, 1, none⟩ (.slice A6 tl.length c6)) wt.heap.size (.int .i64 (last + 1)) (.slice A6 tl.length c6) ∧ (∀ u : Value, RowE enLg (((v2.setCell ⟨wt.heap.size, 0, none⟩ (.int .i64 (last + 1))).setCell ⟨wt.heap.size, 1, none⟩ (.slice A6 tl.length c6)).setCell ⟨wt.heap.size, 0, none⟩ u) A6 tl.length tl) ∧ RowE enLg ((v2.setCell ⟨wt.heap.size, 0, none⟩ (.int .i64 (last + 1))).setCell ⟨wt.heap.size, 1, none⟩ (.slice A6 tl.length c6)) A6 tl.length tl ∧ Grew wt ((v2.setCell ⟨wt.heap.size, 0, none⟩ (.int .i64 (last + 1))).setCell ⟨wt.heap.size, 1, none⟩ (.slice A6 tl.length c6)) ∧ wt.heap.size ≤ wt.heap.size := ⟨HW0.out.set _ _, fun u => (((hl6.set _ 0 _ HL0.out).set _ 1 _ HL0.out).set _ 0 u HL0.out).row, ((hl6.set _ 0 _ HL0.out).set _ 1 _ HL0.out).row, grew_set (grew_set HGv2.out _ (Nat.le_refl _)) _ (Nat.le_refl _), (Nat.le_refl _)⟩; (try clear t0 t1 t2 t3 t4); generalize ((v2.setCell ⟨wt.heap.size, 0, none⟩ (.int .i64 (last + 1))).setCell ⟨wt.heap.size, 1, none⟩ (.slice A6 tl.length c6)) = wF at *; generalize hTF : wt.heap.size = TF at *)
          | (have hX : Own2 ((v2.setCell ⟨v1.heap.size, 0, none⟩ (.int .i64 (last + 1))).setCell ⟨v1.heap.size, 1, none⟩ (.slice A6 tl.length c6)) v1.heap.size (.int .i64 (last + 1)) (.slice A6 tl.length c6) ∧ (∀ u : Value, RowE enLg (((v2.setCell ⟨v1.heap.size, 0, none⟩ (.int .i64 (last + 1))).setCell ⟨v1.heap.size, 1, none⟩ (.slice A6 tl.length c6)).setCell ⟨v1.heap.size, 0, none⟩ u) A6 tl.length tl) ∧ RowE enLg ((v2.setCell ⟨v1.heap.size, 0, none⟩ (.int .i64 (last + 1))).setCell ⟨v1.heap.size, 1, none⟩ (.slice A6 tl.length c6)) A6 tl.length tl ∧ Grew wt ((v2.setCell ⟨v1.heap.size, 0, none⟩ (.int .i64 (last + 1))).setCell ⟨v1.heap.size, 1, none⟩ (.slice A6 tl.length c6)) ∧ wt.heap.size ≤ v1.heap.size := ⟨HW1.out.set _ _, fun u => (((hl6.set _ 0 _ (by simp)).set _ 1 _ (by simp)).set _ 0 u (by simp)).row, ((hl6.set _ 0 _ (by simp)).set _ 1 _ (by simp)).row, grew_set (grew_set HGv2.out _ HGv1.out.size) _ HGv1.out.size, HGv1.out.size⟩; (try clear t0 t1 t2 t3 t4); generalize ((v2.setCell ⟨v1.heap.size, 0, none⟩ (.int .i64 (last + 1))).setCell ⟨v1.heap.size, 1, none⟩ (.slice A6 tl.length c6)) = wF at *; generalize hTF : v1.heap.size = TF at *)
          | (have hX : Own2 (v2.alloc (.cells #[.int .i64 (last + 1), (.slice A6 tl.length c6)] 24)) v2.heap.size (.int .i64 (last + 1)) (.slice A6 tl.length c6) ∧ (∀ u : Value, RowE enLg ((v2.alloc (.cells #[.int .i64 (last + 1), (.slice A6 tl.length c6)] 24)).setCell ⟨v2.heap.size, 0, none⟩ u) A6 tl.length tl) ∧ RowE enLg (v2.alloc (.cells #[.int .i64 (last + 1), (.slice A6 tl.length c6)] 24)) A6 tl.length tl ∧ Grew wt (v2.alloc (.cells #[.int .i64 (last + 1), (.slice A6 tl.length c6)] 24)) ∧ wt.heap.size ≤ v2.heap.size := ⟨Own2.new _ _ _ _ _ rfl, fun u => hl6.row.keep (grew_set (grew_alloc _ _ _) _ (Nat.le_refl _)), hl6.row.keep (grew_alloc _ _ _), grew_trans HGv2.out (grew_alloc _ _ _), HGv2.out.size⟩; (try clear t0 t1 t2 t3 t4); generalize (v2.alloc (.cells #[.int .i64 (last + 1), (.slice A6 tl.length c6)] 24)) = wF at *; generalize hTF : v2.heap.size = TF at *)
        have HX := Lib.hid hX
        obtain ⟨⟨u0, u1, uf0, uf1, ul⟩, -, -, hgX, hTX⟩ := hX
        obtain ⟨⟨b0, b1, b2⟩, -, -, hz0, -, -⟩ := HC.out wF hgX
        clear hr5 hgX hTX hl6
        by_cases hk3 : k = 3
        · have d3 : (k == 3) = true := by simpa using hk3
          have hlt : ¬ hs < x := fun h => hlow ⟨Or.inl hk3, h⟩
          clear hlow hk3
          go_wp2_with (first
            | (go_at_call 13; ((with_reducible refine (COf _ _ _ HX.out.2.2.1).mono ?_); rintro e w8 ⟨rfl, hg⟩; have HG8 := Lib.hid (grew_trans HX.out.2.2.2.1 hg); clear hg))
            | (go_at_call 21; ((with_reducible refine (WK _).mono ?_); rintro e w9 ⟨rfl, hg⟩; have HG9 := Lib.hid (grew_trans (grew_trans HGW.out HG8.out) hg); clear hg)))
          go_ret
          exact ⟨rfl, HG9.out⟩
        · have d3 : (k == 3) = false := by simpa using hk3
          by_cases hk4 : k = 4
          · have d4 : (k == 4) = true := by simpa using hk4
            have hlt : ¬ hs < x := fun h => hlow ⟨Or.inr hk4, h⟩
            clear hlow hk4
            go_wp2_with (first
              | (go_at_call 13; ((with_reducible refine (COf _ _ _ HX.out.2.2.1).mono ?_); rintro e w8 ⟨rfl, hg⟩; have HG8 := Lib.hid (grew_trans HX.out.2.2.2.1 hg); clear hg))
              | (go_at_call 21; ((with_reducible refine (WK _).mono ?_); rintro e w9 ⟨rfl, hg⟩; have HG9 := Lib.hid (grew_trans (grew_trans HGW.out HG8.out) hg); clear hg)))
            go_ret
            exact ⟨rfl, HG9.out⟩
          · have d4 : (k == 4) = false := by simpa using hk4
            clear hlow
            go_wp2_with (first
              | (go_at_call 13; ((with_reducible refine (COf _ _ _ HX.out.2.2.1).mono ?_); rintro e w8 ⟨rfl, hg⟩; have HG8 := Lib.hid (grew_trans HX.out.2.2.2.1 hg); clear hg))
              | (go_at_call 21; ((with_reducible refine (WK _).mono ?_); rintro e w9 ⟨rfl, hg⟩; have HG9 := Lib.hid (grew_trans (grew_trans HGW.out HG8.out) hg); clear hg)))
            go_ret
            exact ⟨rfl, HG9.out⟩
  · have CH := fun w' (g : Grew w w') => heavy_not (c := c) (HA.out.keep g) hf
    clear h hf
    go_enter Try.func9, Try.ntmps9
    go_wp2_with (go_at_call 22; ((with_reducible refine (CH _ (grew_alloc _ _ _)).mono ?_); rintro e w1 ⟨rfl, rfl⟩; clear CH))
    go_ret
    exact ⟨rfl, grew_alloc _ _ _⟩
end Go.Proofs.Ytafglljfgoeapaa.NumK
namespace Go.Proofs.Ytafglljfgoeapaa.ledgerFloors
open Go.ChangeShapes Go.WideShapes Go.ChangeAt Go.RowKit
set_option linter.unusedVariables false

theorem own : ownKnob Try.prog.godebug = none := by kernel_rfl
theorem laidOut : laidOutB Try.prog = true := by kernel_rfl

set_option maxRecDepth 100000 in
theorem lifted (os : Os) (started : os.Started) (H : Type) (enc : TypeId × Value → H) :
    ReturnsInHanded {} Try.checked os 9 .any (Rows.ledgerFloorsSpec.pre6 enc Try.prog Try.f9 Rows.ledgerFloorsRow.domain false) (Rows.ledgerFloorsSpec.post enc Try.prog Try.f9 false true false false) := by
  refine returnsInHanded_of_change (C := Try.checked) own started (by kernel_rfl) Try.func9
    (ChangeSpec.witness6 (enc := enc) (C := Try.checked) false ⟨#[], #[.slice none 0 0, .agg #[.int .i64 0, .int .i64 0, .int .i64 0], .int .i64 0], []⟩ 8 (by kernel_rfl) (by kernel_rfl) (by kernel_rfl) (by kernel_rfl)) ?_
  intro W base args ds gs before hval0 hW hcnd _
  have hval : ∀ (j : Nat) t v, Try.f9.params[j]? = some t → args[j]? = some v → Value.okWide Try.prog W .any base t v := hval0
  have hW' := hW
  obtain ⟨p, q, hA0, hV, rfl, hfz, hnd⟩ := hW
  have hA : DataW.TrodAll enc Try.prog W 0 (fun _ => true) true Try.f9.params.toList args.toList ds p := hA0
  skip
  rw [Try.params9] at hA hval
  obtain ⟨v0, vs0, d0, ds0, p0, q0, hargs, rfl, rfl, h0, r0⟩ := trodAll_cons hA
  obtain ⟨v1, vs1, d1, ds1, p1, q1, rfl, rfl, rfl, h1, r1⟩ := trodAll_cons r0
  obtain ⟨v2, vs2, d2, ds2, p2, q2, rfl, rfl, rfl, h2, r2⟩ := trodAll_cons r1
  obtain ⟨rfl, rfl, rfl⟩ := trodAll_nil r2
  obtain rfl : args = #[v0, v1, v2] := by cases args; simp_all
  obtain ⟨rfl, rfl⟩ := trodVars_none hV
  have k0 := h0
  have lt0 : ∀ x ∈ p0, x.block < W.heap.size := by obtain ⟨m, hm⟩ := k0; exact DataW.trod_lt m _ _ _ hm
  obtain ⟨A0, len0, cap0, l0, rfl, ro0, n0, c0, m0⟩ := NumK.arg_slice Try.underlying45 NumK.opens_posts (hval 0 45 v0 rfl rfl) h0
  have k1 := h1
  have lt1 : ∀ x ∈ p1, x.block < W.heap.size := by obtain ⟨m, hm⟩ := k1; exact DataW.trod_lt m _ _ _ hm
  obtain ⟨cs1, x1, rfl, e1⟩ := NumK.arg_struct Try.underlying27 NumK.opens_acct (hval 1 27 v1 rfl rfl) h1
  obtain ⟨a2, rfl, rfl, rfl, w2⟩ := open_int Try.underlying3 (hval 2 3 v2 rfl rfl) h2
  clear hA0 hval0
  refine ((NumK.acct_of e1) ▸ NumK.ledgerFloors_walk A0 len0 cap0 l0 x1.1 x1.2.1 x1.2.2 a2 W (NumK.posts_of_row ro0) (Go.bounds_i64 w2)).mono fun e W' ⟨he, bel⟩ => ?_
  subst he
  exact ⟨_, rfl, _, _, _, [], _, [], hW', trodAll_mk1 (shut_bool Try.underlying4 _), (trodAll_cons_mk (Below.trod laidOut (by kernel_rfl) (of_decide_eq_true (by kernel_rfl)) k0 bel lt0) (trodAll_cons_mk (Below.trod laidOut (by kernel_rfl) (of_decide_eq_true (by kernel_rfl)) k1 bel lt1) (trodAll_cons_mk (shut_int Try.underlying3 w2) trodAll_mk0))), rfl, bel.frame _, fun h => by cases h⟩

theorem over : Rows.ledgerFloorsRow.holds Try.pinned (OpenSpec.ofChange Rows.ledgerFloorsSpec) :=
  OpenClaim.holds_of_wide 9 Try.f9 rfl rfl rfl rfl rfl rfl rfl ⟨rfl, rfl, rfl, rfl, rfl⟩ rfl rfl rfl rfl rfl (by kernel_rfl) Try.func9 (by kernel_rfl)
    (of_decide_eq_true (by kernel_rfl)) (by unfold Func.isWrapper; first | (rw [if_pos (by decide +kernel)]; kernel_rfl) | (rw [if_neg (by decide +kernel)]; exact ⟨rfl, rfl⟩))
    (fun os started H enc _ => lifted os started H enc)

/-! ### the statement -/
theorem proved : Rows.LedgerFloorsSaid := over
end Go.Proofs.Ytafglljfgoeapaa.ledgerFloors
