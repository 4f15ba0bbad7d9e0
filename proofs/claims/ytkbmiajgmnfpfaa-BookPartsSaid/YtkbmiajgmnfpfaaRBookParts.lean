/-
  For every two slices of acts: the positions behind the one, added to those behind the other, are each the sum of both, whichever way they are added; more than 500 acts the statement lets by.
-/
import Derived.Test.YtkbmiajgmnfpfaaRX
import Derived.Test.YtkbmiajgmnfpfaaRA2
import Derived.Test.YtkbmiajgmnfpfaaRS2
import Derived.Test.YtkbmiajgmnfpfaaRQ
import Derived.Test.YtkbmiajgmnfpfaaRO
import Derived.Test.YtkbmiajgmnfpfaaRA
import Derived.Deep.RegionHeld3
import Derived.Deep.CutRange
import Derived.Test.YtkbmiajgmnfpfaaRows
import Derived.WalkKit
import Derived.ProofKit
import Derived.OpenShut
import Derived.Test.YtkbmiajgmnfpfaaRX2
import Derived.ShutString
import Derived.ChangeOld
import Derived.Below
import Derived.Carry
namespace Go.Proofs.Ytkbmiajgmnfpfaa.NumK
open Go.RowKit
set_option linter.unusedVariables false

theorem of_okPo {l : List Po} (h : rightPs l = true) (k : Ky) : okQ (ofP l k).2.2.1 = true ∧ isMoney (ofP l k).2.2.2 = true := by
  unfold ofP
  cases hf : l.find? (isK k) with
  | none => exact ⟨(by show okQ 0 = true; decide), (by show isMoney 0 = true; decide)⟩
  | some x =>
    have := (okPo_iff x).1 (((rightPs_iff l).1 h).1 x (List.mem_of_find?_eq_some hf))
    exact ⟨this.2.1, this.2.2.1⟩
theorem parts_at {b c : Bk} (hb : rightB b = true) (hc : rightB c = true) (he : addE b c.2.2 = 0) {i : Nat} (hi : i < c.2.2.length) :
    ∃ r1 r2 r3 r4 s1 s2 : Int, ofP b.2.2 ((c.2.2.getD i po0).1, (c.2.2.getD i po0).2.1) = (r1, r2, r3, r4) ∧ ofP (addB b c.2.2).2.2 ((c.2.2.getD i po0).1, (c.2.2.getD i po0).2.1) = (s1, s2, r3 + (c.2.2.getD i po0).2.2.1, r4 + (c.2.2.getD i po0).2.2.2)
      ∧ IntKind.i64.wrap (r3 + (c.2.2.getD i po0).2.2.1) = r3 + (c.2.2.getD i po0).2.2.1 ∧ IntKind.i64.wrap (r4 + (c.2.2.getD i po0).2.2.2) = r4 + (c.2.2.getD i po0).2.2.2 := by
  have hm : c.2.2.getD i po0 ∈ c.2.2 := by rw [getD_at _ po0 i hi]; exact List.getElem_mem hi
  have h1 := (parts_add hb hc he).1 _ hm
  obtain ⟨g1, g2⟩ := of_okPo (((rightB_iff _).1 (right_add he)).2.2) (keyP (c.2.2.getD i po0))
  rw [h1] at g1 g2
  rw [okQ_iff] at g1
  rw [isMoney_iff] at g2
  generalize c.2.2.getD i po0 = x at *
  obtain ⟨q1, q2, q3, q4⟩ := x
  dsimp only [keyP] at *
  generalize ofP b.2.2 (q1, q2) = r at *
  obtain ⟨r1, r2, r3, r4⟩ := r
  dsimp only at *
  refine ⟨_, _, _, _, _, _, rfl, h1, ?_, ?_⟩
  · rw [IntKind.wrap_i64]; omega
  · rw [IntKind.wrap_i64]; omega
theorem parts_own {b c : Bk} (hb : rightB b = true) (hc : rightB c = true) (he : addE b c.2.2 = 0) {i : Nat} (hi : i < b.2.2.length) :
    (ofP c.2.2 ((b.2.2.getD i po0).1, (b.2.2.getD i po0).2.1)).2.2.1 = 0 → (ofP c.2.2 ((b.2.2.getD i po0).1, (b.2.2.getD i po0).2.1)).2.2.2 = 0 → ofP (addB b c.2.2).2.2 ((b.2.2.getD i po0).1, (b.2.2.getD i po0).2.1) = b.2.2.getD i po0 := by
  have hm : b.2.2.getD i po0 ∈ b.2.2 := by rw [getD_at _ po0 i hi]; exact List.getElem_mem hi
  exact (parts_add hb hc he).2.1 _ hm

set_option maxRecDepth 100000 in
set_option maxHeartbeats 8000000 in
theorem bookParts_walk (A A' : Option Addr) (n n' c c' : Nat) (l m : List Ac13) (w : World) (h : RowE enAc13 w A n l) (h2 : RowE enAc13 w A' n' m) :
    Calls Try.prog 6 #[.slice A n c, .slice A' n' c'] w fun e w' => e = .returned (.bool true) ∧ Grew w w' := by
  by_cases h5 : 500 < n
  · have k1 : (n : Int) > 500 := by omega
    clear h h2
    go_enter Try.func6, Try.ntmps6
    go_wp2
    go_ret
    exact ⟨rfl, grew_refl _⟩
  · have k1 : ¬ (n : Int) > 500 := by omega
    by_cases h6 : 500 < n'
    · have k2 : (n' : Int) > 500 := by omega
      clear h h2
      go_enter Try.func6, Try.ntmps6
      go_wp2
      go_ret
      exact ⟨rfl, grew_refl _⟩
    · have k2 : ¬ (n' : Int) > 500 := by omega
      have CG := grown13_any A n c l w h (by omega)
      have CH := fun w' (g : Grew w w') => grown13_any A' n' c' m w' (h2.keep g) (by omega)
      have hgb := (GB.grow l 100).right
      have hgd := (GB.grow m 100).right
      unfold BookP at CG CH
      clear h h2
      generalize growL (l.take 100) = b at *
      generalize growL (m.take 100) = d at *
      have hlb := right_lens hgb
      have hld := right_lens hgd
      have CA := fun A1 A2 c1 c2 A3 c3 w' (ho : InB w' b A1 A2 b.2.1.length b.2.2.length c1 c2) (h3 : RowE enPo w' A3 d.2.2.length d.2.2) (k3 : A3 = none → c3 = 0) => badd_any b A1 A2 A3 _ _ d.2.2.length c1 c2 c3 d.2.2 w' ho h3 k3 ⟨by omega, by omega, by omega⟩
      have CB := fun A1 A2 c1 c2 A3 c3 w' (ho : InB w' d A1 A2 d.2.1.length d.2.2.length c1 c2) (h3 : RowE enPo w' A3 b.2.2.length b.2.2) (k3 : A3 = none → c3 = 0) => badd_any d A1 A2 A3 _ _ b.2.2.length c1 c2 c3 b.2.2 w' ho h3 k3 ⟨by omega, by omega, by omega⟩
      have CO1 := fun A1 A2 c1 c2 q1 q2 w' (ho : InB w' b A1 A2 b.2.1.length b.2.2.length c1 c2) => bof_any b A1 A2 _ _ c1 c2 q1 q2 w' ho (by omega)
      have CO2 := fun A1 A2 c1 c2 q1 q2 w' (ho : InB w' d A1 A2 d.2.1.length d.2.2.length c1 c2) => bof_any d A1 A2 _ _ c1 c2 q1 q2 w' ho (by omega)
      have HC3 : Hid (addE b d.2.2 = 0 → ∀ A1 A2 c1 c2 q1 q2 w' (ho : InB w' (addB b d.2.2) A1 A2 (addB b d.2.2).2.1.length (addB b d.2.2).2.2.length c1 c2), Calls Try.prog 16 #[vBk (addB b d.2.2).1 A1 A2 (addB b d.2.2).2.1.length (addB b d.2.2).2.2.length c1 c2, vKy (q1, q2)] w' fun e w'' => e = .returned (vPo (ofP (addB b d.2.2).2.2 (q1, q2))) ∧ Grew w' w'') :=
        fun he A1 A2 c1 c2 q1 q2 w' ho => bof_any (addB b d.2.2) A1 A2 _ _ c1 c2 q1 q2 w' ho (by have := right_lens (right_add he); omega)
      have HP1 : Hid (addE b d.2.2 = 0 → _) := fun he (i : Nat) (hi : i < d.2.2.length) => parts_at hgb hgd he hi
      have HP2 : Hid (addE b d.2.2 = 0 → _) := fun he (i : Nat) (hi : i < b.2.2.length) => parts_own hgb hgd he hi
      have HP3 : Hid (addE b d.2.2 = 0 → addE d b.2.2 = 0 ∧ (addB d b.2.2).2.2 = (addB b d.2.2).2.2 ∧ (addB b d.2.2).2.2.length ≤ 128) := fun he => ⟨(parts_add hgb hgd he).2.2.1, (parts_add hgb hgd he).2.2.2, (right_lens (right_add he)).2⟩
      have CW := fun w' => wakes13_any w'
      unfold BookE at CA CB
      have hlp : b.2.2.length ≤ 128 ∧ d.2.2.length ≤ 128 := ⟨hlb.2, hld.2⟩
      clear hgb hgd hlb hld
      generalize addE b d.2.2 = ea at *
      generalize addB b d.2.2 = X at *
      generalize addE d b.2.2 = eb at *
      generalize addB d b.2.2 = Y at *
      obtain ⟨bx, bl, bp⟩ := b
      obtain ⟨dx, dl, dp⟩ := d
      obtain ⟨xx, xl, xp⟩ := X
      obtain ⟨yx, yl, yp⟩ := Y
      dsimp only [vBk, vPo, vKy] at *
      obtain ⟨hlp1, hlp2⟩ := hlp
      go_enter Try.func6, Try.ntmps6
      go_upto_region 4 with (first
        | (go_at_call 24; ((with_reducible refine CG.mono ?_); rintro e w1 ⟨B1, B2, b1, b2, rfl, hb, hg⟩; have HB1 := Lib.hid hb; have HG1 := Lib.hid hg; clear hb hg CG))
        | (go_at_call 24; ((with_reducible refine (CH _ HG1.out).mono ?_); rintro e w2 ⟨D1, D2, d1, d2, rfl, hb, hg⟩; have HB2 := Lib.hid hb; have HG2 := Lib.hid hg; clear hb hg CH)))
      have HX : Hid (OwnC ((w2.alloc (.cells #[.int .i64 bx, .slice B1 bl.length b1, .slice B2 bp.length b2] 25)).alloc (.cells #[.int .i64 dx, .slice D1 dl.length d1, .slice D2 dp.length d2] 25)) w2.heap.size [.int .i64 bx, .slice B1 bl.length b1, .slice B2 bp.length b2]) := (OwnC.new w2 [.int .i64 bx, .slice B1 bl.length b1, .slice B2 bp.length b2] _ _ rfl).keep (grew_alloc _ _ _)
      have HY : Hid (OwnC ((w2.alloc (.cells #[.int .i64 bx, .slice B1 bl.length b1, .slice B2 bp.length b2] 25)).alloc (.cells #[.int .i64 dx, .slice D1 dl.length d1, .slice D2 dp.length d2] 25)) (w2.heap.size + 1) [.int .i64 dx, .slice D1 dl.length d1, .slice D2 dp.length d2]) := OwnC.new _ [.int .i64 dx, .slice D1 dl.length d1, .slice D2 dp.length d2] _ _ (by simp)
      have HG : Hid (Grew w2 ((w2.alloc (.cells #[.int .i64 bx, .slice B1 bl.length b1, .slice B2 bp.length b2] 25)).alloc (.cells #[.int .i64 dx, .slice D1 dl.length d1, .slice D2 dp.length d2] 25))) := grew_trans (grew_alloc _ _ _) (grew_alloc _ _ _)
      have HB3 := Lib.hid (HB1.out.in.keep (grew_trans HG2.out HG.out))
      have HD3 := Lib.hid (HB2.out.in.keep HG.out)
      have HG3 := Lib.hid (grew_trans HG1.out (grew_trans HG2.out HG.out))
      dsimp only at HB3 HD3
      generalize (w2.alloc (.cells #[.int .i64 bx, .slice B1 bl.length b1, .slice B2 bp.length b2] 25)).alloc (.cells #[.int .i64 dx, .slice D1 dl.length d1, .slice D2 dp.length d2] 25) = w3 at *
      generalize w2.heap.size = H at *
      clear HB1 HB2 HG1 HG2 HG
      have x0 : w3.cell? ⟨H, 0, none⟩ = some (.int .i64 bx) := HX.out.at 0 _ rfl
      have x1 : w3.cell? ⟨H, 1, none⟩ = some (.slice B1 bl.length b1) := HX.out.at 1 _ rfl
      have x2 : w3.cell? ⟨H, 2, none⟩ = some (.slice B2 bp.length b2) := HX.out.at 2 _ rfl
      have y2 : w3.cell? ⟨H + 1, 2, none⟩ = some (.slice D2 dp.length d2) := HY.out.at 2 _ rfl
      have CA1 := CA B1 B2 b1 b2 D2 d2 w3 HB3.out HD3.out.p HD3.out.k2
      clear CA
      go_upto_region 6 with (go_at_call 18; ((with_reducible refine CA1.mono ?_); rintro e w4 ⟨E1, E2, e1, e2, rfl, hb, hg⟩; have HE4 := Lib.hid hb; have HG4 := Lib.hid hg; clear hb hg CA1))
      have HX5 := Lib.hid (HX.out.keep (grew_trans HG4.out (grew_alloc w4 #[.int .i64 xx, .slice E1 xl.length e1, .slice E2 xp.length e2] 25)))
      have HY5 := Lib.hid (HY.out.keep (grew_trans HG4.out (grew_alloc w4 #[.int .i64 xx, .slice E1 xl.length e1, .slice E2 xp.length e2] 25)))
      have HZ5 := Lib.hid (OwnC.new w4 [.int .i64 xx, .slice E1 xl.length e1, .slice E2 xp.length e2] 25 _ rfl)
      have HB5 := Lib.hid (HB3.out.keep (grew_trans HG4.out (grew_alloc w4 #[.int .i64 xx, .slice E1 xl.length e1, .slice E2 xp.length e2] 25)))
      have HD5 := Lib.hid (HD3.out.keep (grew_trans HG4.out (grew_alloc w4 #[.int .i64 xx, .slice E1 xl.length e1, .slice E2 xp.length e2] 25)))
      have HE5 := Lib.hid (HE4.out.in.keep (grew_alloc w4 #[.int .i64 xx, .slice E1 xl.length e1, .slice E2 xp.length e2] 25))
      have HG5 := Lib.hid (grew_trans HG3.out (grew_trans HG4.out (grew_alloc w4 #[.int .i64 xx, .slice E1 xl.length e1, .slice E2 xp.length e2] 25)))
      dsimp only at HE5
      generalize w4.alloc (.cells #[.int .i64 xx, .slice E1 xl.length e1, .slice E2 xp.length e2] 25) = w5 at *
      generalize w4.heap.size = HE at *
      clear HX HY HB3 HD3 HE4 HG3 HG4 x0 x1 x2 y2
      by_cases hea : ea = 0
      rotate_left
      · have d0 : (ea != 0) = true := by simpa using hea
        clear HC3 HP1 HP2 HP3 CB CO1 CO2
        go_wp2_with (first | (go_at_call 23; ((with_reducible refine (CW _).mono ?_); rintro e w9 ⟨rfl, hg⟩; have HG9 := Lib.hid (grew_trans HG5.out hg); clear hg)))
        go_ret
        exact ⟨rfl, HG9.out⟩
      · subst hea
        have C3 := HC3.out rfl
        have P1 := HP1.out rfl
        have P2 := HP2.out rfl
        obtain ⟨heb, hyp, hxl⟩ := HP3.out rfl
        try dsimp only at heb hyp hxl
        subst heb
        have hyq := hyp.symm
        subst hyq
        have HQ1 := Lib.hid P1
        have HQ2 := Lib.hid P2
        clear P1 P2 HC3 HP3 HP1 HP2
        go_upto_region 8 with fail
        go_wp2
        go_loopw [10] (fun v wr => ∃ k : Nat, v = .int .i64 k ∧ k ≤ dp.length ∧ Hid (Grew w5 wr)) (fun v _ => dp.length - (intOf v).toNat)
        case atStart => exact ⟨0, rfl, Nat.zero_le _, grew_refl _⟩
        case round =>
          obtain ⟨k, rfl, hk, HG⟩ := hrel
          by_cases hlt : k < dp.length
          · obtain ⟨bb, o, rfl, hb, hc⟩ := (HD5.out.p.keep HG.out).po hlt
            have HK : Hid (∀ w', Grew wr w' → CPo w' bb (o + k * 4) (dp.getD k po0)) := fun w' g => (hc k hlt).keep g hb
            obtain ⟨r1, r2, r3, r4, s1, s2, hr, hs, hw3, hw4⟩ := HQ1.out k hlt
            have CB1 := fun w' (g : Grew wr w') => CO1 B1 B2 b1 b2 (dp.getD k po0).1 (dp.getD k po0).2.1 w' (HB5.out.keep (grew_trans HG.out g))
            have CX1 := fun w' (g : Grew wr w') => C3 E1 E2 e1 e2 (dp.getD k po0).1 (dp.getD k po0).2.1 w' (HE5.out.keep (grew_trans HG.out g))
            try dsimp only at hr hs hw3 hw4 CB1 CX1
            rw [hr] at CB1
            rw [hs] at CX1
            try dsimp only at CB1 CX1
            clear hr hs hc hb HQ1 HQ2 C3 CO1 CO2 CB
            generalize dp.getD k po0 = x at *
            obtain ⟨q1, q2, q3, q4⟩ := x
            try dsimp only at hw3 hw4 CB1 CX1
            have i0 : (0 : Int) ≤ (k : Int) := by omega
            have i1 : (k : Int) < (dp.length : Int) := by omega
            go_upto_region 11 with fail
            go_cut [11] from 38 to 81 (fun s11 wx => ∃ T : Nat, s11 = .pointer (some ⟨T, 0, none⟩) ∧ OwnC wx T [.int .i64 r1, .int .i64 r2, .int .i64 r3, .int .i64 r4] ∧ Grew wr wx)
            case first =>
              refine wp_region_noPanic ?_
              refine wp_region_held_drew (S := fun w' => Grew wr w') (by kernel_rfl) (grew_drew (grew_refl _)) (fun hHeld => ?_)
              (refine wpAnyH_take (i := 0) (oi := { dst := some 44, op := Op.load 25 (Operand.tmp 5), type := 25, pos := "law.go:154", after := #[], guard := none }) (v := ?_) rfl (by kernel_rfl) (by kernel_rfl) (by kernel_rfl) (fun _ _ _ h => h) (Or.inl ⟨by rfl, ?_⟩) (by assumption) ?_; rotate_left; · (intro w hSw; (try dsimp only at hSw); have x0 := (HX5.out.keep (grew_trans HG.out hSw)).at 0 (.int .i64 bx) rfl; have x1 := (HX5.out.keep (grew_trans HG.out hSw)).at 1 (.slice B1 bl.length b1) rfl; have x2 := (HX5.out.keep (grew_trans HG.out hSw)).at 2 (.slice B2 bp.length b2) rfl; go_simp; (first | done | with_reducible rfl)))
              try simp only [Act.put, List.setIfInBounds_toArray, List.set_cons_zero, List.set_cons_succ]
              (refine wpAnyH_take (i := 1) (oi := { dst := some 45, op := Op.move (Operand.tmp 7), type := 23, pos := "law.go:154", after := #[], guard := none }) (v := ?_) rfl (by kernel_rfl) (by kernel_rfl) (by kernel_rfl) (fun _ _ _ h => h) (Or.inl ⟨by rfl, ?_⟩) (by assumption) ?_; rotate_left; · (intro w hSw; (try dsimp only at hSw); skip; go_simp; (first | done | with_reducible rfl)))
              try simp only [Act.put, List.setIfInBounds_toArray, List.set_cons_zero, List.set_cons_succ]
              (refine wpAnyH_take (i := 2) (oi := { dst := some 46, op := Op.move (Operand.tmp 10), type := 3, pos := "law.go:154", after := #[], guard := none }) (v := ?_) rfl (by kernel_rfl) (by kernel_rfl) (by kernel_rfl) (fun _ _ _ h => h) (Or.inl ⟨by rfl, ?_⟩) (by assumption) ?_; rotate_left; · (intro w hSw; (try dsimp only at hSw); skip; go_simp; (first | done | with_reducible rfl)))
              try simp only [Act.put, List.setIfInBounds_toArray, List.set_cons_zero, List.set_cons_succ]
              (refine wpAnyH_take (i := 3) (oi := { dst := some 47, op := Op.indexAddr 23 (Operand.tmp 45) (Operand.tmp 46), type := 0, pos := "law.go:154", after := #[{ on := 1, ground := Ground.data }, { on := 2, ground := Ground.data }], guard := none }) (v := ?_) rfl (by kernel_rfl) (by kernel_rfl) (by kernel_rfl) (fun _ _ _ h => h) (Or.inl ⟨by rfl, ?_⟩) (by assumption) ?_; rotate_left; · (intro w hSw; (try dsimp only at hSw); skip; go_simp; (first | done | with_reducible rfl)))
              try simp only [Act.put, List.setIfInBounds_toArray, List.set_cons_zero, List.set_cons_succ]
              (refine wpAnyH_take (i := 4) (oi := { dst := some 48, op := Op.fieldAddr 36 (Operand.tmp 47) 0, type := 0, pos := "law.go:154", after := #[{ on := 3, ground := Ground.data }], guard := none }) (v := ?_) rfl (by kernel_rfl) (by kernel_rfl) (by kernel_rfl) (fun _ _ _ h => h) (Or.inl ⟨by rfl, ?_⟩) (by assumption) ?_; rotate_left; · (intro w hSw; (try dsimp only at hSw); skip; go_simp; (first | done | with_reducible rfl)))
              try simp only [Act.put, List.setIfInBounds_toArray, List.set_cons_zero, List.set_cons_succ]
              (refine wpAnyH_take (i := 5) (oi := { dst := some 49, op := Op.load 27 (Operand.tmp 48), type := 27, pos := "law.go:154", after := #[{ on := 4, ground := Ground.data }], guard := none }) (v := ?_) rfl (by kernel_rfl) (by kernel_rfl) (by kernel_rfl) (fun _ _ _ h => h) (Or.inl ⟨by rfl, ?_⟩) (by assumption) ?_; rotate_left; · (intro w hSw; (try dsimp only at hSw); obtain ⟨z0, z1, z2, z3⟩ := HK.out _ (hSw); dsimp only at z0 z1 z2 z3; go_simp; (first | done | with_reducible rfl)))
              try simp only [Act.put, List.setIfInBounds_toArray, List.set_cons_zero, List.set_cons_succ]
              refine wpAnyH_ready (rs := [6, 7]) (by kernel_rfl) (by simp) ?_
              refine (AllReadyH.cons (o := { dst := some 50, op := Op.call { callee := Callee.value (Operand.func 16), args := #[Operand.tmp 44, Operand.tmp 49], argTypes := #[25, 27] }, type := 36, pos := "law.go:154", after := #[{ on := 0, ground := Ground.data }, { on := 5, ground := Ground.data }], guard := none }) rfl (fun K hK => ?_) (AllReadyH.cons (o := { dst := some 11, op := Op.alloc 36, type := 0, pos := "law.go:154", after := #[], guard := none }) rfl (fun K hK => ?_) AllReadyH.nil))
              · go_simp
                (go_at_call 16; (with_reducible refine (CB1 _ ((by repeat (first | exact HG8.out | exact grew_refl _ | refine grew_drew ?_ | refine grew_trans ?_ (grew_alloc _ _ _))))).mono ?_); rintro e w8 ⟨rfl, hg⟩; have HR8 := Lib.hid hg; have HG8 : Hid (Grew wr w8) := grew_trans (by repeat (first | exact HG8.out | exact grew_refl _ | refine grew_drew ?_ | refine grew_trans ?_ (grew_alloc _ _ _))) hg; clear hg)
                refine hK.out _ _ ?_ (fun hHeld => ?_)
                · first
                  | exact (by repeat (first | exact HG8.out | exact grew_refl _ | refine grew_drew ?_ | refine grew_trans ?_ (grew_alloc _ _ _)))
                clear hK K
                try simp only [Act.put, List.setIfInBounds_toArray, List.set_cons_zero, List.set_cons_succ]
                refine wpAnyH_ready (rs := [7]) (by kernel_rfl) (by simp) ?_
                refine (AllReadyH.cons (o := { dst := some 11, op := Op.alloc 36, type := 0, pos := "law.go:154", after := #[], guard := none }) rfl (fun K hK => ?_) AllReadyH.nil)
                go_simp
                refine hK.out _ _ ?_ (fun hHeld => ?_)
                · first
                  | exact (by repeat (first | exact HG8.out | exact grew_refl _ | refine grew_drew ?_ | refine grew_trans ?_ (grew_alloc _ _ _)))
                clear hK K
                try simp only [Act.put, List.setIfInBounds_toArray, List.set_cons_zero, List.set_cons_succ]
                refine wpAnyH_ready (rs := [8]) (by kernel_rfl) (by simp) ?_
                refine (AllReadyH.cons (o := { dst := none, op := Op.store 36 (Operand.tmp 11) (Operand.tmp 50), type := 0, pos := "law.go:154", after := #[{ on := 7, ground := Ground.data }, { on := 6, ground := Ground.data }, { on := 6, ground := Ground.chain }, { on := 0, ground := Ground.phase }, { on := 1, ground := Ground.phase }, { on := 2, ground := Ground.phase }, { on := 3, ground := Ground.phase }, { on := 4, ground := Ground.phase }, { on := 5, ground := Ground.phase }, { on := 6, ground := Ground.phase }, { on := 7, ground := Ground.phase }], guard := none }) rfl (fun K hK => ?_) AllReadyH.nil)
                first
                  | (have HEB9 := (OwnC.new wr [.int .i64 0, .int .i64 0, .int .i64 0, .int .i64 0] 36 _ rfl).keep (grew_trans (grew_drew (grew_refl _)) HR8.out); have c0 : w8.cell? ⟨wr.heap.size, 0, none⟩ = some (.int .i64 0) := HEB9.at 0 _ rfl; have g0 : w8.frozen? ⟨wr.heap.size, 0, none⟩ = false := HEB9.fr 0 (by show 0 < 4; omega); have c1 : w8.cell? ⟨wr.heap.size, 1, none⟩ = some (.int .i64 0) := HEB9.at 1 _ rfl; have g1 : w8.frozen? ⟨wr.heap.size, 1, none⟩ = false := HEB9.fr 1 (by show 1 < 4; omega); have c2 : w8.cell? ⟨wr.heap.size, 2, none⟩ = some (.int .i64 0) := HEB9.at 2 _ rfl; have g2 : w8.frozen? ⟨wr.heap.size, 2, none⟩ = false := HEB9.fr 2 (by show 2 < 4; omega); have c3 : w8.cell? ⟨wr.heap.size, 3, none⟩ = some (.int .i64 0) := HEB9.at 3 _ rfl; have g3 : w8.frozen? ⟨wr.heap.size, 3, none⟩ = false := HEB9.fr 3 (by show 3 < 4; omega); clear HEB9; have HKEEP : Grew wr (((((w8).setCell ⟨wr.heap.size, 0, none⟩ (.int .i64 r1)).setCell ⟨wr.heap.size, 1, none⟩ (.int .i64 r2)).setCell ⟨wr.heap.size, 2, none⟩ (.int .i64 r3)).setCell ⟨wr.heap.size, 3, none⟩ (.int .i64 r4)) := grew_set (grew_set (grew_set (grew_set (HG8.out) (p := ⟨wr.heap.size, 0, none⟩) (.int .i64 r1) (by show _ ≤ wr.heap.size; omega)) (p := ⟨wr.heap.size, 1, none⟩) (.int .i64 r2) (by show _ ≤ wr.heap.size; omega)) (p := ⟨wr.heap.size, 2, none⟩) (.int .i64 r3) (by show _ ≤ wr.heap.size; omega)) (p := ⟨wr.heap.size, 3, none⟩) (.int .i64 r4) (by show _ ≤ wr.heap.size; omega))
                  | (have HKEEP := grew_trans HG8.out (grew_alloc w8 #[.int .i64 r1, .int .i64 r2, .int .i64 r3, .int .i64 r4] 36))
                go_simp
                refine hK.out _ _ ?_ (fun hHeld => ?_)
                · first
                  | exact HKEEP
                clear hK K
                try simp only [Act.put, List.setIfInBounds_toArray, List.set_cons_zero, List.set_cons_succ]
                refine wpAnyH_done (by kernel_rfl) ?_ _
                clear hHeld
                first
                  | (have HEB9 := (OwnC.new wr [.int .i64 0, .int .i64 0, .int .i64 0, .int .i64 0] 36 _ rfl).keep (grew_trans (grew_drew (grew_refl _)) HR8.out); have HA : Hid (OwnC (((((w8).setCell ⟨wr.heap.size, 0, none⟩ (.int .i64 r1)).setCell ⟨wr.heap.size, 1, none⟩ (.int .i64 r2)).setCell ⟨wr.heap.size, 2, none⟩ (.int .i64 r3)).setCell ⟨wr.heap.size, 3, none⟩ (.int .i64 r4)) (wr.heap.size) [.int .i64 r1, .int .i64 r2, .int .i64 r3, .int .i64 r4] ∧ Grew wr (((((w8).setCell ⟨wr.heap.size, 0, none⟩ (.int .i64 r1)).setCell ⟨wr.heap.size, 1, none⟩ (.int .i64 r2)).setCell ⟨wr.heap.size, 2, none⟩ (.int .i64 r3)).setCell ⟨wr.heap.size, 3, none⟩ (.int .i64 r4))) := ⟨OwnC.set (OwnC.set (OwnC.set (OwnC.set (HEB9) 0 (.int .i64 r1) (by show 0 < 4; omega)) 1 (.int .i64 r2) (by show 1 < 4; omega)) 2 (.int .i64 r3) (by show 2 < 4; omega)) 3 (.int .i64 r4) (by show 3 < 4; omega), grew_set (grew_set (grew_set (grew_set (HG8.out) (p := ⟨wr.heap.size, 0, none⟩) (.int .i64 r1) (by show _ ≤ wr.heap.size; omega)) (p := ⟨wr.heap.size, 1, none⟩) (.int .i64 r2) (by show _ ≤ wr.heap.size; omega)) (p := ⟨wr.heap.size, 2, none⟩) (.int .i64 r3) (by show _ ≤ wr.heap.size; omega)) (p := ⟨wr.heap.size, 3, none⟩) (.int .i64 r4) (by show _ ≤ wr.heap.size; omega)⟩; clear HEB9; generalize ((((w8).setCell ⟨wr.heap.size, 0, none⟩ (.int .i64 r1)).setCell ⟨wr.heap.size, 1, none⟩ (.int .i64 r2)).setCell ⟨wr.heap.size, 2, none⟩ (.int .i64 r3)).setCell ⟨wr.heap.size, 3, none⟩ (.int .i64 r4) = wT at *; generalize wr.heap.size = T at *)
                  | (have HA : Hid (OwnC (w8.alloc (.cells #[.int .i64 r1, .int .i64 r2, .int .i64 r3, .int .i64 r4] 36)) (w8.heap.size) [.int .i64 r1, .int .i64 r2, .int .i64 r3, .int .i64 r4] ∧ Grew wr (w8.alloc (.cells #[.int .i64 r1, .int .i64 r2, .int .i64 r3, .int .i64 r4] 36))) := ⟨OwnC.new w8 [.int .i64 r1, .int .i64 r2, .int .i64 r3, .int .i64 r4] _ _ rfl, grew_trans HG8.out (grew_alloc _ _ _)⟩; generalize w8.alloc (.cells #[.int .i64 r1, .int .i64 r2, .int .i64 r3, .int .i64 r4] 36) = wT at *; generalize w8.heap.size = T at *)
                clear HKEEP
                apply_assumption
                go_wp2
                go_meet
                exact ⟨_, rfl, HA.out.1, HA.out.2⟩
              · go_simp
                refine hK.out _ _ ?_ (fun hHeld => ?_)
                · first
                  | exact (by repeat (first | exact HG8.out | exact grew_refl _ | refine grew_drew ?_ | refine grew_trans ?_ (grew_alloc _ _ _)))
                clear hK K
                try simp only [Act.put, List.setIfInBounds_toArray, List.set_cons_zero, List.set_cons_succ]
                refine wpAnyH_ready (rs := [6]) (by kernel_rfl) (by simp) ?_
                refine (AllReadyH.cons (o := { dst := some 50, op := Op.call { callee := Callee.value (Operand.func 16), args := #[Operand.tmp 44, Operand.tmp 49], argTypes := #[25, 27] }, type := 36, pos := "law.go:154", after := #[{ on := 0, ground := Ground.data }, { on := 5, ground := Ground.data }], guard := none }) rfl (fun K hK => ?_) AllReadyH.nil)
                go_simp
                (go_at_call 16; (with_reducible refine (CB1 _ ((by repeat (first | exact HG8.out | exact grew_refl _ | refine grew_drew ?_ | refine grew_trans ?_ (grew_alloc _ _ _))))).mono ?_); rintro e w8 ⟨rfl, hg⟩; have HR8 := Lib.hid hg; have HG8 : Hid (Grew wr w8) := grew_trans (by repeat (first | exact HG8.out | exact grew_refl _ | refine grew_drew ?_ | refine grew_trans ?_ (grew_alloc _ _ _))) hg; clear hg)
                refine hK.out _ _ ?_ (fun hHeld => ?_)
                · first
                  | exact (by repeat (first | exact HG8.out | exact grew_refl _ | refine grew_drew ?_ | refine grew_trans ?_ (grew_alloc _ _ _)))
                clear hK K
                try simp only [Act.put, List.setIfInBounds_toArray, List.set_cons_zero, List.set_cons_succ]
                refine wpAnyH_ready (rs := [8]) (by kernel_rfl) (by simp) ?_
                refine (AllReadyH.cons (o := { dst := none, op := Op.store 36 (Operand.tmp 11) (Operand.tmp 50), type := 0, pos := "law.go:154", after := #[{ on := 7, ground := Ground.data }, { on := 6, ground := Ground.data }, { on := 6, ground := Ground.chain }, { on := 0, ground := Ground.phase }, { on := 1, ground := Ground.phase }, { on := 2, ground := Ground.phase }, { on := 3, ground := Ground.phase }, { on := 4, ground := Ground.phase }, { on := 5, ground := Ground.phase }, { on := 6, ground := Ground.phase }, { on := 7, ground := Ground.phase }], guard := none }) rfl (fun K hK => ?_) AllReadyH.nil)
                first
                  | (have HEB9 := (OwnC.new wr [.int .i64 0, .int .i64 0, .int .i64 0, .int .i64 0] 36 _ rfl).keep (grew_trans (grew_drew (grew_refl _)) HR8.out); have c0 : w8.cell? ⟨wr.heap.size, 0, none⟩ = some (.int .i64 0) := HEB9.at 0 _ rfl; have g0 : w8.frozen? ⟨wr.heap.size, 0, none⟩ = false := HEB9.fr 0 (by show 0 < 4; omega); have c1 : w8.cell? ⟨wr.heap.size, 1, none⟩ = some (.int .i64 0) := HEB9.at 1 _ rfl; have g1 : w8.frozen? ⟨wr.heap.size, 1, none⟩ = false := HEB9.fr 1 (by show 1 < 4; omega); have c2 : w8.cell? ⟨wr.heap.size, 2, none⟩ = some (.int .i64 0) := HEB9.at 2 _ rfl; have g2 : w8.frozen? ⟨wr.heap.size, 2, none⟩ = false := HEB9.fr 2 (by show 2 < 4; omega); have c3 : w8.cell? ⟨wr.heap.size, 3, none⟩ = some (.int .i64 0) := HEB9.at 3 _ rfl; have g3 : w8.frozen? ⟨wr.heap.size, 3, none⟩ = false := HEB9.fr 3 (by show 3 < 4; omega); clear HEB9; have HKEEP : Grew wr (((((w8).setCell ⟨wr.heap.size, 0, none⟩ (.int .i64 r1)).setCell ⟨wr.heap.size, 1, none⟩ (.int .i64 r2)).setCell ⟨wr.heap.size, 2, none⟩ (.int .i64 r3)).setCell ⟨wr.heap.size, 3, none⟩ (.int .i64 r4)) := grew_set (grew_set (grew_set (grew_set (HG8.out) (p := ⟨wr.heap.size, 0, none⟩) (.int .i64 r1) (by show _ ≤ wr.heap.size; omega)) (p := ⟨wr.heap.size, 1, none⟩) (.int .i64 r2) (by show _ ≤ wr.heap.size; omega)) (p := ⟨wr.heap.size, 2, none⟩) (.int .i64 r3) (by show _ ≤ wr.heap.size; omega)) (p := ⟨wr.heap.size, 3, none⟩) (.int .i64 r4) (by show _ ≤ wr.heap.size; omega))
                  | (have HKEEP := grew_trans HG8.out (grew_alloc w8 #[.int .i64 r1, .int .i64 r2, .int .i64 r3, .int .i64 r4] 36))
                go_simp
                refine hK.out _ _ ?_ (fun hHeld => ?_)
                · first
                  | exact HKEEP
                clear hK K
                try simp only [Act.put, List.setIfInBounds_toArray, List.set_cons_zero, List.set_cons_succ]
                refine wpAnyH_done (by kernel_rfl) ?_ _
                clear hHeld
                first
                  | (have HEB9 := (OwnC.new wr [.int .i64 0, .int .i64 0, .int .i64 0, .int .i64 0] 36 _ rfl).keep (grew_trans (grew_drew (grew_refl _)) HR8.out); have HA : Hid (OwnC (((((w8).setCell ⟨wr.heap.size, 0, none⟩ (.int .i64 r1)).setCell ⟨wr.heap.size, 1, none⟩ (.int .i64 r2)).setCell ⟨wr.heap.size, 2, none⟩ (.int .i64 r3)).setCell ⟨wr.heap.size, 3, none⟩ (.int .i64 r4)) (wr.heap.size) [.int .i64 r1, .int .i64 r2, .int .i64 r3, .int .i64 r4] ∧ Grew wr (((((w8).setCell ⟨wr.heap.size, 0, none⟩ (.int .i64 r1)).setCell ⟨wr.heap.size, 1, none⟩ (.int .i64 r2)).setCell ⟨wr.heap.size, 2, none⟩ (.int .i64 r3)).setCell ⟨wr.heap.size, 3, none⟩ (.int .i64 r4))) := ⟨OwnC.set (OwnC.set (OwnC.set (OwnC.set (HEB9) 0 (.int .i64 r1) (by show 0 < 4; omega)) 1 (.int .i64 r2) (by show 1 < 4; omega)) 2 (.int .i64 r3) (by show 2 < 4; omega)) 3 (.int .i64 r4) (by show 3 < 4; omega), grew_set (grew_set (grew_set (grew_set (HG8.out) (p := ⟨wr.heap.size, 0, none⟩) (.int .i64 r1) (by show _ ≤ wr.heap.size; omega)) (p := ⟨wr.heap.size, 1, none⟩) (.int .i64 r2) (by show _ ≤ wr.heap.size; omega)) (p := ⟨wr.heap.size, 2, none⟩) (.int .i64 r3) (by show _ ≤ wr.heap.size; omega)) (p := ⟨wr.heap.size, 3, none⟩) (.int .i64 r4) (by show _ ≤ wr.heap.size; omega)⟩; clear HEB9; generalize ((((w8).setCell ⟨wr.heap.size, 0, none⟩ (.int .i64 r1)).setCell ⟨wr.heap.size, 1, none⟩ (.int .i64 r2)).setCell ⟨wr.heap.size, 2, none⟩ (.int .i64 r3)).setCell ⟨wr.heap.size, 3, none⟩ (.int .i64 r4) = wT at *; generalize wr.heap.size = T at *)
                  | (have HA : Hid (OwnC (w8.alloc (.cells #[.int .i64 r1, .int .i64 r2, .int .i64 r3, .int .i64 r4] 36)) (w8.heap.size) [.int .i64 r1, .int .i64 r2, .int .i64 r3, .int .i64 r4] ∧ Grew wr (w8.alloc (.cells #[.int .i64 r1, .int .i64 r2, .int .i64 r3, .int .i64 r4] 36))) := ⟨OwnC.new w8 [.int .i64 r1, .int .i64 r2, .int .i64 r3, .int .i64 r4] _ _ rfl, grew_trans HG8.out (grew_alloc _ _ _)⟩; generalize w8.alloc (.cells #[.int .i64 r1, .int .i64 r2, .int .i64 r3, .int .i64 r4] 36) = wT at *; generalize w8.heap.size = T at *)
                clear HKEEP
                apply_assumption
                go_wp2
                go_meet
                exact ⟨_, rfl, HA.out.1, HA.out.2⟩
            case rest =>
              obtain ⟨T1, rfl, m1, m2⟩ := hcut
              have HT1 := Lib.hid m1
              have HGX := Lib.hid m2
              clear m1 m2 CB1
              generalize wc = wd at *
              go_upto_region 12 with fail
              go_cut [12] from 38 to 81 (fun s12 wx => ∃ T : Nat, s12 = .pointer (some ⟨T, 0, none⟩) ∧ OwnC wx T [.int .i64 s1, .int .i64 s2, .int .i64 (r3 + q3), .int .i64 (r4 + q4)] ∧ Grew wd wx)
              case first =>
                refine wp_region_noPanic ?_
                refine wp_region_held_drew (S := fun w' => Grew wd w') (by kernel_rfl) (grew_drew (grew_refl _)) (fun hHeld => ?_)
                (refine wpAnyH_take (i := 0) (oi := { dst := some 51, op := Op.load 25 (Operand.tmp 8), type := 25, pos := "law.go:155", after := #[], guard := none }) (v := ?_) rfl (by kernel_rfl) (by kernel_rfl) (by kernel_rfl) (fun _ _ _ h => h) (Or.inl ⟨by rfl, ?_⟩) (by assumption) ?_; rotate_left; · (intro w hSw; (try dsimp only at hSw); have x0 := (HZ5.out.keep (grew_trans (grew_trans HG.out HGX.out) hSw)).at 0 (.int .i64 xx) rfl; have x1 := (HZ5.out.keep (grew_trans (grew_trans HG.out HGX.out) hSw)).at 1 (.slice E1 xl.length e1) rfl; have x2 := (HZ5.out.keep (grew_trans (grew_trans HG.out HGX.out) hSw)).at 2 (.slice E2 xp.length e2) rfl; go_simp; (first | done | with_reducible rfl)))
                try simp only [Act.put, List.setIfInBounds_toArray, List.set_cons_zero, List.set_cons_succ]
                (refine wpAnyH_take (i := 1) (oi := { dst := some 52, op := Op.move (Operand.tmp 7), type := 23, pos := "law.go:155", after := #[], guard := none }) (v := ?_) rfl (by kernel_rfl) (by kernel_rfl) (by kernel_rfl) (fun _ _ _ h => h) (Or.inl ⟨by rfl, ?_⟩) (by assumption) ?_; rotate_left; · (intro w hSw; (try dsimp only at hSw); skip; go_simp; (first | done | with_reducible rfl)))
                try simp only [Act.put, List.setIfInBounds_toArray, List.set_cons_zero, List.set_cons_succ]
                (refine wpAnyH_take (i := 2) (oi := { dst := some 53, op := Op.move (Operand.tmp 10), type := 3, pos := "law.go:155", after := #[], guard := none }) (v := ?_) rfl (by kernel_rfl) (by kernel_rfl) (by kernel_rfl) (fun _ _ _ h => h) (Or.inl ⟨by rfl, ?_⟩) (by assumption) ?_; rotate_left; · (intro w hSw; (try dsimp only at hSw); skip; go_simp; (first | done | with_reducible rfl)))
                try simp only [Act.put, List.setIfInBounds_toArray, List.set_cons_zero, List.set_cons_succ]
                (refine wpAnyH_take (i := 3) (oi := { dst := some 54, op := Op.indexAddr 23 (Operand.tmp 52) (Operand.tmp 53), type := 0, pos := "law.go:155", after := #[{ on := 1, ground := Ground.data }, { on := 2, ground := Ground.data }], guard := none }) (v := ?_) rfl (by kernel_rfl) (by kernel_rfl) (by kernel_rfl) (fun _ _ _ h => h) (Or.inl ⟨by rfl, ?_⟩) (by assumption) ?_; rotate_left; · (intro w hSw; (try dsimp only at hSw); skip; go_simp; (first | done | with_reducible rfl)))
                try simp only [Act.put, List.setIfInBounds_toArray, List.set_cons_zero, List.set_cons_succ]
                (refine wpAnyH_take (i := 4) (oi := { dst := some 55, op := Op.fieldAddr 36 (Operand.tmp 54) 0, type := 0, pos := "law.go:155", after := #[{ on := 3, ground := Ground.data }], guard := none }) (v := ?_) rfl (by kernel_rfl) (by kernel_rfl) (by kernel_rfl) (fun _ _ _ h => h) (Or.inl ⟨by rfl, ?_⟩) (by assumption) ?_; rotate_left; · (intro w hSw; (try dsimp only at hSw); skip; go_simp; (first | done | with_reducible rfl)))
                try simp only [Act.put, List.setIfInBounds_toArray, List.set_cons_zero, List.set_cons_succ]
                (refine wpAnyH_take (i := 5) (oi := { dst := some 56, op := Op.load 27 (Operand.tmp 55), type := 27, pos := "law.go:155", after := #[{ on := 4, ground := Ground.data }], guard := none }) (v := ?_) rfl (by kernel_rfl) (by kernel_rfl) (by kernel_rfl) (fun _ _ _ h => h) (Or.inl ⟨by rfl, ?_⟩) (by assumption) ?_; rotate_left; · (intro w hSw; (try dsimp only at hSw); obtain ⟨z0, z1, z2, z3⟩ := HK.out _ (grew_trans HGX.out hSw); dsimp only at z0 z1 z2 z3; go_simp; (first | done | with_reducible rfl)))
                try simp only [Act.put, List.setIfInBounds_toArray, List.set_cons_zero, List.set_cons_succ]
                refine wpAnyH_ready (rs := [6, 7]) (by kernel_rfl) (by simp) ?_
                refine (AllReadyH.cons (o := { dst := some 57, op := Op.call { callee := Callee.value (Operand.func 16), args := #[Operand.tmp 51, Operand.tmp 56], argTypes := #[25, 27] }, type := 36, pos := "law.go:155", after := #[{ on := 0, ground := Ground.data }, { on := 5, ground := Ground.data }], guard := none }) rfl (fun K hK => ?_) (AllReadyH.cons (o := { dst := some 12, op := Op.alloc 36, type := 0, pos := "law.go:155", after := #[], guard := none }) rfl (fun K hK => ?_) AllReadyH.nil))
                · go_simp
                  (go_at_call 16; (with_reducible refine (CX1 _ (grew_trans HGX.out (by repeat (first | exact HG8.out | exact grew_refl _ | refine grew_drew ?_ | refine grew_trans ?_ (grew_alloc _ _ _))))).mono ?_); rintro e w8 ⟨rfl, hg⟩; have HR8 := Lib.hid hg; have HG8 : Hid (Grew wd w8) := grew_trans (by repeat (first | exact HG8.out | exact grew_refl _ | refine grew_drew ?_ | refine grew_trans ?_ (grew_alloc _ _ _))) hg; clear hg)
                  refine hK.out _ _ ?_ (fun hHeld => ?_)
                  · first
                    | exact (by repeat (first | exact HG8.out | exact grew_refl _ | refine grew_drew ?_ | refine grew_trans ?_ (grew_alloc _ _ _)))
                  clear hK K
                  try simp only [Act.put, List.setIfInBounds_toArray, List.set_cons_zero, List.set_cons_succ]
                  refine wpAnyH_ready (rs := [7]) (by kernel_rfl) (by simp) ?_
                  refine (AllReadyH.cons (o := { dst := some 12, op := Op.alloc 36, type := 0, pos := "law.go:155", after := #[], guard := none }) rfl (fun K hK => ?_) AllReadyH.nil)
                  go_simp
                  refine hK.out _ _ ?_ (fun hHeld => ?_)
                  · first
                    | exact (by repeat (first | exact HG8.out | exact grew_refl _ | refine grew_drew ?_ | refine grew_trans ?_ (grew_alloc _ _ _)))
                  clear hK K
                  try simp only [Act.put, List.setIfInBounds_toArray, List.set_cons_zero, List.set_cons_succ]
                  refine wpAnyH_ready (rs := [8]) (by kernel_rfl) (by simp) ?_
                  refine (AllReadyH.cons (o := { dst := none, op := Op.store 36 (Operand.tmp 12) (Operand.tmp 57), type := 0, pos := "law.go:155", after := #[{ on := 7, ground := Ground.data }, { on := 6, ground := Ground.data }, { on := 6, ground := Ground.chain }, { on := 0, ground := Ground.phase }, { on := 1, ground := Ground.phase }, { on := 2, ground := Ground.phase }, { on := 3, ground := Ground.phase }, { on := 4, ground := Ground.phase }, { on := 5, ground := Ground.phase }, { on := 6, ground := Ground.phase }, { on := 7, ground := Ground.phase }], guard := none }) rfl (fun K hK => ?_) AllReadyH.nil)
                  first
                    | (have HEB9 := (OwnC.new wd [.int .i64 0, .int .i64 0, .int .i64 0, .int .i64 0] 36 _ rfl).keep (grew_trans (grew_drew (grew_refl _)) HR8.out); have c0 : w8.cell? ⟨wd.heap.size, 0, none⟩ = some (.int .i64 0) := HEB9.at 0 _ rfl; have g0 : w8.frozen? ⟨wd.heap.size, 0, none⟩ = false := HEB9.fr 0 (by show 0 < 4; omega); have c1 : w8.cell? ⟨wd.heap.size, 1, none⟩ = some (.int .i64 0) := HEB9.at 1 _ rfl; have g1 : w8.frozen? ⟨wd.heap.size, 1, none⟩ = false := HEB9.fr 1 (by show 1 < 4; omega); have c2 : w8.cell? ⟨wd.heap.size, 2, none⟩ = some (.int .i64 0) := HEB9.at 2 _ rfl; have g2 : w8.frozen? ⟨wd.heap.size, 2, none⟩ = false := HEB9.fr 2 (by show 2 < 4; omega); have c3 : w8.cell? ⟨wd.heap.size, 3, none⟩ = some (.int .i64 0) := HEB9.at 3 _ rfl; have g3 : w8.frozen? ⟨wd.heap.size, 3, none⟩ = false := HEB9.fr 3 (by show 3 < 4; omega); clear HEB9; have HKEEP : Grew wd (((((w8).setCell ⟨wd.heap.size, 0, none⟩ (.int .i64 s1)).setCell ⟨wd.heap.size, 1, none⟩ (.int .i64 s2)).setCell ⟨wd.heap.size, 2, none⟩ (.int .i64 (r3 + q3))).setCell ⟨wd.heap.size, 3, none⟩ (.int .i64 (r4 + q4))) := grew_set (grew_set (grew_set (grew_set (HG8.out) (p := ⟨wd.heap.size, 0, none⟩) (.int .i64 s1) (by show _ ≤ wd.heap.size; omega)) (p := ⟨wd.heap.size, 1, none⟩) (.int .i64 s2) (by show _ ≤ wd.heap.size; omega)) (p := ⟨wd.heap.size, 2, none⟩) (.int .i64 (r3 + q3)) (by show _ ≤ wd.heap.size; omega)) (p := ⟨wd.heap.size, 3, none⟩) (.int .i64 (r4 + q4)) (by show _ ≤ wd.heap.size; omega))
                    | (have HKEEP := grew_trans HG8.out (grew_alloc w8 #[.int .i64 s1, .int .i64 s2, .int .i64 (r3 + q3), .int .i64 (r4 + q4)] 36))
                  go_simp
                  refine hK.out _ _ ?_ (fun hHeld => ?_)
                  · first
                    | exact HKEEP
                  clear hK K
                  try simp only [Act.put, List.setIfInBounds_toArray, List.set_cons_zero, List.set_cons_succ]
                  refine wpAnyH_done (by kernel_rfl) ?_ _
                  clear hHeld
                  first
                    | (have HEB9 := (OwnC.new wd [.int .i64 0, .int .i64 0, .int .i64 0, .int .i64 0] 36 _ rfl).keep (grew_trans (grew_drew (grew_refl _)) HR8.out); have HA : Hid (OwnC (((((w8).setCell ⟨wd.heap.size, 0, none⟩ (.int .i64 s1)).setCell ⟨wd.heap.size, 1, none⟩ (.int .i64 s2)).setCell ⟨wd.heap.size, 2, none⟩ (.int .i64 (r3 + q3))).setCell ⟨wd.heap.size, 3, none⟩ (.int .i64 (r4 + q4))) (wd.heap.size) [.int .i64 s1, .int .i64 s2, .int .i64 (r3 + q3), .int .i64 (r4 + q4)] ∧ Grew wd (((((w8).setCell ⟨wd.heap.size, 0, none⟩ (.int .i64 s1)).setCell ⟨wd.heap.size, 1, none⟩ (.int .i64 s2)).setCell ⟨wd.heap.size, 2, none⟩ (.int .i64 (r3 + q3))).setCell ⟨wd.heap.size, 3, none⟩ (.int .i64 (r4 + q4)))) := ⟨OwnC.set (OwnC.set (OwnC.set (OwnC.set (HEB9) 0 (.int .i64 s1) (by show 0 < 4; omega)) 1 (.int .i64 s2) (by show 1 < 4; omega)) 2 (.int .i64 (r3 + q3)) (by show 2 < 4; omega)) 3 (.int .i64 (r4 + q4)) (by show 3 < 4; omega), grew_set (grew_set (grew_set (grew_set (HG8.out) (p := ⟨wd.heap.size, 0, none⟩) (.int .i64 s1) (by show _ ≤ wd.heap.size; omega)) (p := ⟨wd.heap.size, 1, none⟩) (.int .i64 s2) (by show _ ≤ wd.heap.size; omega)) (p := ⟨wd.heap.size, 2, none⟩) (.int .i64 (r3 + q3)) (by show _ ≤ wd.heap.size; omega)) (p := ⟨wd.heap.size, 3, none⟩) (.int .i64 (r4 + q4)) (by show _ ≤ wd.heap.size; omega)⟩; clear HEB9; generalize ((((w8).setCell ⟨wd.heap.size, 0, none⟩ (.int .i64 s1)).setCell ⟨wd.heap.size, 1, none⟩ (.int .i64 s2)).setCell ⟨wd.heap.size, 2, none⟩ (.int .i64 (r3 + q3))).setCell ⟨wd.heap.size, 3, none⟩ (.int .i64 (r4 + q4)) = wT at *; generalize wd.heap.size = T at *)
                    | (have HA : Hid (OwnC (w8.alloc (.cells #[.int .i64 s1, .int .i64 s2, .int .i64 (r3 + q3), .int .i64 (r4 + q4)] 36)) (w8.heap.size) [.int .i64 s1, .int .i64 s2, .int .i64 (r3 + q3), .int .i64 (r4 + q4)] ∧ Grew wd (w8.alloc (.cells #[.int .i64 s1, .int .i64 s2, .int .i64 (r3 + q3), .int .i64 (r4 + q4)] 36))) := ⟨OwnC.new w8 [.int .i64 s1, .int .i64 s2, .int .i64 (r3 + q3), .int .i64 (r4 + q4)] _ _ rfl, grew_trans HG8.out (grew_alloc _ _ _)⟩; generalize w8.alloc (.cells #[.int .i64 s1, .int .i64 s2, .int .i64 (r3 + q3), .int .i64 (r4 + q4)] 36) = wT at *; generalize w8.heap.size = T at *)
                  clear HKEEP
                  apply_assumption
                  go_wp2
                  go_meet
                  exact ⟨_, rfl, HA.out.1, HA.out.2⟩
                · go_simp
                  refine hK.out _ _ ?_ (fun hHeld => ?_)
                  · first
                    | exact (by repeat (first | exact HG8.out | exact grew_refl _ | refine grew_drew ?_ | refine grew_trans ?_ (grew_alloc _ _ _)))
                  clear hK K
                  try simp only [Act.put, List.setIfInBounds_toArray, List.set_cons_zero, List.set_cons_succ]
                  refine wpAnyH_ready (rs := [6]) (by kernel_rfl) (by simp) ?_
                  refine (AllReadyH.cons (o := { dst := some 57, op := Op.call { callee := Callee.value (Operand.func 16), args := #[Operand.tmp 51, Operand.tmp 56], argTypes := #[25, 27] }, type := 36, pos := "law.go:155", after := #[{ on := 0, ground := Ground.data }, { on := 5, ground := Ground.data }], guard := none }) rfl (fun K hK => ?_) AllReadyH.nil)
                  go_simp
                  (go_at_call 16; (with_reducible refine (CX1 _ (grew_trans HGX.out (by repeat (first | exact HG8.out | exact grew_refl _ | refine grew_drew ?_ | refine grew_trans ?_ (grew_alloc _ _ _))))).mono ?_); rintro e w8 ⟨rfl, hg⟩; have HR8 := Lib.hid hg; have HG8 : Hid (Grew wd w8) := grew_trans (by repeat (first | exact HG8.out | exact grew_refl _ | refine grew_drew ?_ | refine grew_trans ?_ (grew_alloc _ _ _))) hg; clear hg)
                  refine hK.out _ _ ?_ (fun hHeld => ?_)
                  · first
                    | exact (by repeat (first | exact HG8.out | exact grew_refl _ | refine grew_drew ?_ | refine grew_trans ?_ (grew_alloc _ _ _)))
                  clear hK K
                  try simp only [Act.put, List.setIfInBounds_toArray, List.set_cons_zero, List.set_cons_succ]
                  refine wpAnyH_ready (rs := [8]) (by kernel_rfl) (by simp) ?_
                  refine (AllReadyH.cons (o := { dst := none, op := Op.store 36 (Operand.tmp 12) (Operand.tmp 57), type := 0, pos := "law.go:155", after := #[{ on := 7, ground := Ground.data }, { on := 6, ground := Ground.data }, { on := 6, ground := Ground.chain }, { on := 0, ground := Ground.phase }, { on := 1, ground := Ground.phase }, { on := 2, ground := Ground.phase }, { on := 3, ground := Ground.phase }, { on := 4, ground := Ground.phase }, { on := 5, ground := Ground.phase }, { on := 6, ground := Ground.phase }, { on := 7, ground := Ground.phase }], guard := none }) rfl (fun K hK => ?_) AllReadyH.nil)
                  first
                    | (have HEB9 := (OwnC.new wd [.int .i64 0, .int .i64 0, .int .i64 0, .int .i64 0] 36 _ rfl).keep (grew_trans (grew_drew (grew_refl _)) HR8.out); have c0 : w8.cell? ⟨wd.heap.size, 0, none⟩ = some (.int .i64 0) := HEB9.at 0 _ rfl; have g0 : w8.frozen? ⟨wd.heap.size, 0, none⟩ = false := HEB9.fr 0 (by show 0 < 4; omega); have c1 : w8.cell? ⟨wd.heap.size, 1, none⟩ = some (.int .i64 0) := HEB9.at 1 _ rfl; have g1 : w8.frozen? ⟨wd.heap.size, 1, none⟩ = false := HEB9.fr 1 (by show 1 < 4; omega); have c2 : w8.cell? ⟨wd.heap.size, 2, none⟩ = some (.int .i64 0) := HEB9.at 2 _ rfl; have g2 : w8.frozen? ⟨wd.heap.size, 2, none⟩ = false := HEB9.fr 2 (by show 2 < 4; omega); have c3 : w8.cell? ⟨wd.heap.size, 3, none⟩ = some (.int .i64 0) := HEB9.at 3 _ rfl; have g3 : w8.frozen? ⟨wd.heap.size, 3, none⟩ = false := HEB9.fr 3 (by show 3 < 4; omega); clear HEB9; have HKEEP : Grew wd (((((w8).setCell ⟨wd.heap.size, 0, none⟩ (.int .i64 s1)).setCell ⟨wd.heap.size, 1, none⟩ (.int .i64 s2)).setCell ⟨wd.heap.size, 2, none⟩ (.int .i64 (r3 + q3))).setCell ⟨wd.heap.size, 3, none⟩ (.int .i64 (r4 + q4))) := grew_set (grew_set (grew_set (grew_set (HG8.out) (p := ⟨wd.heap.size, 0, none⟩) (.int .i64 s1) (by show _ ≤ wd.heap.size; omega)) (p := ⟨wd.heap.size, 1, none⟩) (.int .i64 s2) (by show _ ≤ wd.heap.size; omega)) (p := ⟨wd.heap.size, 2, none⟩) (.int .i64 (r3 + q3)) (by show _ ≤ wd.heap.size; omega)) (p := ⟨wd.heap.size, 3, none⟩) (.int .i64 (r4 + q4)) (by show _ ≤ wd.heap.size; omega))
                    | (have HKEEP := grew_trans HG8.out (grew_alloc w8 #[.int .i64 s1, .int .i64 s2, .int .i64 (r3 + q3), .int .i64 (r4 + q4)] 36))
                  go_simp
                  refine hK.out _ _ ?_ (fun hHeld => ?_)
                  · first
                    | exact HKEEP
                  clear hK K
                  try simp only [Act.put, List.setIfInBounds_toArray, List.set_cons_zero, List.set_cons_succ]
                  refine wpAnyH_done (by kernel_rfl) ?_ _
                  clear hHeld
                  first
                    | (have HEB9 := (OwnC.new wd [.int .i64 0, .int .i64 0, .int .i64 0, .int .i64 0] 36 _ rfl).keep (grew_trans (grew_drew (grew_refl _)) HR8.out); have HA : Hid (OwnC (((((w8).setCell ⟨wd.heap.size, 0, none⟩ (.int .i64 s1)).setCell ⟨wd.heap.size, 1, none⟩ (.int .i64 s2)).setCell ⟨wd.heap.size, 2, none⟩ (.int .i64 (r3 + q3))).setCell ⟨wd.heap.size, 3, none⟩ (.int .i64 (r4 + q4))) (wd.heap.size) [.int .i64 s1, .int .i64 s2, .int .i64 (r3 + q3), .int .i64 (r4 + q4)] ∧ Grew wd (((((w8).setCell ⟨wd.heap.size, 0, none⟩ (.int .i64 s1)).setCell ⟨wd.heap.size, 1, none⟩ (.int .i64 s2)).setCell ⟨wd.heap.size, 2, none⟩ (.int .i64 (r3 + q3))).setCell ⟨wd.heap.size, 3, none⟩ (.int .i64 (r4 + q4)))) := ⟨OwnC.set (OwnC.set (OwnC.set (OwnC.set (HEB9) 0 (.int .i64 s1) (by show 0 < 4; omega)) 1 (.int .i64 s2) (by show 1 < 4; omega)) 2 (.int .i64 (r3 + q3)) (by show 2 < 4; omega)) 3 (.int .i64 (r4 + q4)) (by show 3 < 4; omega), grew_set (grew_set (grew_set (grew_set (HG8.out) (p := ⟨wd.heap.size, 0, none⟩) (.int .i64 s1) (by show _ ≤ wd.heap.size; omega)) (p := ⟨wd.heap.size, 1, none⟩) (.int .i64 s2) (by show _ ≤ wd.heap.size; omega)) (p := ⟨wd.heap.size, 2, none⟩) (.int .i64 (r3 + q3)) (by show _ ≤ wd.heap.size; omega)) (p := ⟨wd.heap.size, 3, none⟩) (.int .i64 (r4 + q4)) (by show _ ≤ wd.heap.size; omega)⟩; clear HEB9; generalize ((((w8).setCell ⟨wd.heap.size, 0, none⟩ (.int .i64 s1)).setCell ⟨wd.heap.size, 1, none⟩ (.int .i64 s2)).setCell ⟨wd.heap.size, 2, none⟩ (.int .i64 (r3 + q3))).setCell ⟨wd.heap.size, 3, none⟩ (.int .i64 (r4 + q4)) = wT at *; generalize wd.heap.size = T at *)
                    | (have HA : Hid (OwnC (w8.alloc (.cells #[.int .i64 s1, .int .i64 s2, .int .i64 (r3 + q3), .int .i64 (r4 + q4)] 36)) (w8.heap.size) [.int .i64 s1, .int .i64 s2, .int .i64 (r3 + q3), .int .i64 (r4 + q4)] ∧ Grew wd (w8.alloc (.cells #[.int .i64 s1, .int .i64 s2, .int .i64 (r3 + q3), .int .i64 (r4 + q4)] 36))) := ⟨OwnC.new w8 [.int .i64 s1, .int .i64 s2, .int .i64 (r3 + q3), .int .i64 (r4 + q4)] _ _ rfl, grew_trans HG8.out (grew_alloc _ _ _)⟩; generalize w8.alloc (.cells #[.int .i64 s1, .int .i64 s2, .int .i64 (r3 + q3), .int .i64 (r4 + q4)] 36) = wT at *; generalize w8.heap.size = T at *)
                  clear HKEEP
                  apply_assumption
                  go_wp2
                  go_meet
                  exact ⟨_, rfl, HA.out.1, HA.out.2⟩
              case rest =>
                obtain ⟨T2, rfl, m1, m2⟩ := hcut
                have HT2 := Lib.hid m1
                have HT1 := Lib.hid (HT1.out.keep m2)
                have HGY := Lib.hid (grew_trans HG.out (grew_trans HGX.out m2))
                obtain ⟨z0, z1, z2, z3⟩ := HK.out _ (grew_trans HGX.out m2)
                dsimp only at z0 z1 z2 z3
                clear m1 m2 CX1 HGX HK
                generalize wc = we at *
                have t2 : we.cell? ⟨T1, 2, none⟩ = some (.int .i64 r3) := HT1.out.at 2 _ rfl
                have t3 : we.cell? ⟨T1, 3, none⟩ = some (.int .i64 r4) := HT1.out.at 3 _ rfl
                have v2 : we.cell? ⟨T2, 2, none⟩ = some (.int .i64 (r3 + q3)) := HT2.out.at 2 _ rfl
                have v3 : we.cell? ⟨T2, 3, none⟩ = some (.int .i64 (r4 + q4)) := HT2.out.at 3 _ rfl
                have g3 : (r3 + q3 != r3 + q3) = false := by simp
                have g4 : (r4 + q4 != r4 + q4) = false := by simp
                go_upto_region 13 with fail
                go_quiet (fail)
                go_wp2
                go_roundw
                case rel => exact ⟨k + 1, by go_num, by omega, grew_drewN HGY.out _⟩
                case measure => simp only [intOf]; omega
          · obtain rfl : k = dp.length := by omega
            have hge : ¬ (dp.length : Int) < (dp.length : Int) := by omega
            have HG6 := Lib.hid HG.out
            clear HQ1 HG CO1
            generalize wr = wr1 at *
            go_wp2
            clear hge
            go_loopw [13] (fun v wr => ∃ j : Nat, v = .int .i64 j ∧ j ≤ bp.length ∧ Hid (Grew w5 wr)) (fun v _ => bp.length - (intOf v).toNat)
            case atStart => exact ⟨0, rfl, Nat.zero_le _, HG6.out⟩
            case round =>
              obtain ⟨j, rfl, hj, HG⟩ := hrel
              by_cases hlt : j < bp.length
              · obtain ⟨bb, o, rfl, hb, hc⟩ := (HB5.out.p.keep HG.out).po hlt
                have HK : Hid (∀ w', Grew wr w' → CPo w' bb (o + j * 4) (bp.getD j po0)) := fun w' g => (hc j hlt).keep g hb
                have HP := Lib.hid (HQ2.out j hlt)
                have CD1 := fun w' (g : Grew wr w') => CO2 D1 D2 d1 d2 (bp.getD j po0).1 (bp.getD j po0).2.1 w' (HD5.out.keep (grew_trans HG.out g))
                have CX1 := fun w' (g : Grew wr w') => C3 E1 E2 e1 e2 (bp.getD j po0).1 (bp.getD j po0).2.1 w' (HE5.out.keep (grew_trans HG.out g))
                have CK := fun (w' : World) (g : Grew wr w') => keepPos_yes (bp.getD j po0) w'
                clear hc hb HQ2 C3 CO2 CB
                generalize ofP dp ((bp.getD j po0).1, (bp.getD j po0).2.1) = r at *
                generalize ofP xp ((bp.getD j po0).1, (bp.getD j po0).2.1) = S at *
                generalize bp.getD j po0 = x at *
                obtain ⟨q1, q2, q3, q4⟩ := x
                obtain ⟨r1, r2, r3, r4⟩ := r
                dsimp only [vPo] at CD1 CX1 CK HP
                have i0 : (0 : Int) ≤ (j : Int) := by omega
                have i1 : (j : Int) < (bp.length : Int) := by omega
                have hf1 : ∀ w : World, (Instr.field 36 (.agg #[.int .i64 r1, .int .i64 r2, .int .i64 r3, .int .i64 r4]) 1).run Try.prog w = .ok (.int .i64 r3) w := fun _ => by kernel_rfl
                have hf2 : ∀ w : World, (Instr.field 36 (.agg #[.int .i64 r1, .int .i64 r2, .int .i64 r3, .int .i64 r4]) 2).run Try.prog w = .ok (.int .i64 r4) w := fun _ => by kernel_rfl
                have x2 : ∀ p : GrewTo wr, p.to.cell? ⟨H, 2, none⟩ = some (.slice (some ⟨bb, o, none⟩) bp.length b2) := grew_every (fun w' g => (HX5.out.keep (grew_trans HG.out g)).at 2 _ rfl)
                have y0 : ∀ p : GrewTo wr, p.to.cell? ⟨H + 1, 0, none⟩ = some (.int .i64 dx) := grew_every (fun w' g => (HY5.out.keep (grew_trans HG.out g)).at 0 _ rfl)
                have y1 : ∀ p : GrewTo wr, p.to.cell? ⟨H + 1, 1, none⟩ = some (.slice D1 dl.length d1) := grew_every (fun w' g => (HY5.out.keep (grew_trans HG.out g)).at 1 _ rfl)
                have y2 : ∀ p : GrewTo wr, p.to.cell? ⟨H + 1, 2, none⟩ = some (.slice D2 dp.length d2) := grew_every (fun w' g => (HY5.out.keep (grew_trans HG.out g)).at 2 _ rfl)
                have v0 : ∀ p : GrewTo wr, p.to.cell? ⟨HE, 0, none⟩ = some (.int .i64 xx) := grew_every (fun w' g => (HZ5.out.keep (grew_trans HG.out g)).at 0 _ rfl)
                have v1 : ∀ p : GrewTo wr, p.to.cell? ⟨HE, 1, none⟩ = some (.slice E1 xl.length e1) := grew_every (fun w' g => (HZ5.out.keep (grew_trans HG.out g)).at 1 _ rfl)
                have v2 : ∀ p : GrewTo wr, p.to.cell? ⟨HE, 2, none⟩ = some (.slice E2 xp.length e2) := grew_every (fun w' g => (HZ5.out.keep (grew_trans HG.out g)).at 2 _ rfl)
                have z0 : ∀ p : GrewTo wr, p.to.cell? ⟨bb, o + j * 4, none⟩ = some (.int .i64 q1) := grew_every (fun w' g => (HK.out w' g).1)
                have z1 : ∀ p : GrewTo wr, p.to.cell? ⟨bb, o + j * 4 + 1, none⟩ = some (.int .i64 q2) := grew_every (fun w' g => (HK.out w' g).2.1)
                have z2 : ∀ p : GrewTo wr, p.to.cell? ⟨bb, o + j * 4 + 2, none⟩ = some (.int .i64 q3) := grew_every (fun w' g => (HK.out w' g).2.2.1)
                have z3 : ∀ p : GrewTo wr, p.to.cell? ⟨bb, o + j * 4 + 3, none⟩ = some (.int .i64 q4) := grew_every (fun w' g => (HK.out w' g).2.2.2)
                have xw : wr.cell? ⟨H, 2, none⟩ = some (.slice (some ⟨bb, o, none⟩) bp.length b2) := (HX5.out.keep HG.out).at 2 _ rfl
                clear HK HX5 HY5 HZ5 HB5 HD5 HE5
                by_cases h3 : r3 = 0
                · by_cases h4 : r4 = 0
                  · have hS := HP.out h3 h4
                    subst h3 h4 hS
                    clear HP
                    dsimp only at CX1
                    go_wp2_with fail
                    refine wp_region_grew (by kernel_rfl) (by kernel_rfl) ?_
                    repeat (go_big_quiet_step (first | with_reducible exact calls_every CD1 | with_reducible exact calls_every CX1 | with_reducible exact calls_every CK))
                    refine wpQuiet_nil ?_
                    intro wy hw'
                    have HGy := Lib.hid (grew_of hw')
                    clear hw' x2 y0 y1 y2 v0 v1 v2 z0 z1 z2 z3 xw
                    go_wp2
                    go_roundw
                    case rel => exact ⟨j + 1, by go_num, by omega, grew_trans HG.out HGy.out⟩
                    case measure => simp only [intOf]; omega
                  · have g4 : (r4 == 0) = false := by simpa using h4
                    subst h3
                    clear HP
                    go_wp2_with fail
                    refine wp_region_grew (by kernel_rfl) (by kernel_rfl) ?_
                    repeat (go_big_quiet_step (first | with_reducible exact calls_every CD1 | with_reducible exact calls_every CX1 | with_reducible exact calls_every CK))
                    refine wpQuiet_nil ?_
                    intro wy hw'
                    have HGy := Lib.hid (grew_of hw')
                    clear hw' x2 y0 y1 y2 v0 v1 v2 z0 z1 z2 z3 xw
                    go_wp2
                    go_roundw
                    case rel => exact ⟨j + 1, by go_num, by omega, grew_trans HG.out HGy.out⟩
                    case measure => simp only [intOf]; omega
                · have g3 : (r3 == 0) = false := by simpa using h3
                  clear HP
                  go_wp2_with fail
                  refine wp_region_grew (by kernel_rfl) (by kernel_rfl) ?_
                  repeat (go_big_quiet_step (first | with_reducible exact calls_every CD1 | with_reducible exact calls_every CX1 | with_reducible exact calls_every CK))
                  refine wpQuiet_nil ?_
                  intro wy hw'
                  have HGy := Lib.hid (grew_of hw')
                  clear hw' x2 y0 y1 y2 v0 v1 v2 z0 z1 z2 z3 xw
                  go_wp2
                  go_roundw
                  case rel => exact ⟨j + 1, by go_num, by omega, grew_trans HG.out HGy.out⟩
                  case measure => simp only [intOf]; omega
              · obtain rfl : j = bp.length := by omega
                have hge : ¬ (bp.length : Int) < (bp.length : Int) := by omega
                have x2 : wr.cell? ⟨H, 2, none⟩ = some (.slice B2 bp.length b2) := (HX5.out.keep HG.out).at 2 _ rfl
                have y0 : wr.cell? ⟨H + 1, 0, none⟩ = some (.int .i64 dx) := (HY5.out.keep HG.out).at 0 _ rfl
                have y1 : wr.cell? ⟨H + 1, 1, none⟩ = some (.slice D1 dl.length d1) := (HY5.out.keep HG.out).at 1 _ rfl
                have y2 : wr.cell? ⟨H + 1, 2, none⟩ = some (.slice D2 dp.length d2) := (HY5.out.keep HG.out).at 2 _ rfl
                have CB1 := CB D1 D2 d1 d2 B2 b2 wr (HD5.out.keep HG.out) (HB5.out.keep HG.out).p HB5.out.k2
                clear CB CO2 C3 HQ2
                go_upto_region 21 with (go_at_call 18; ((with_reducible refine CB1.mono ?_); rintro e w6 ⟨F1, F2, f1, f2, rfl, hb, hg⟩; have HF6 := Lib.hid hb; have HG6 := Lib.hid hg; clear hb hg CB1))
                have HV := Lib.hid ((HZ5.out.keep (grew_trans HG.out HG6.out)).keep (grew_alloc w6 #[.int .i64 yx, .slice F1 yl.length f1, .slice F2 xp.length f2] 25))
                have HU := Lib.hid (OwnC.new w6 [.int .i64 yx, .slice F1 yl.length f1, .slice F2 xp.length f2] 25 _ rfl)
                have HGA : Hid (Grew w (w6.alloc (.cells #[.int .i64 yx, .slice F1 yl.length f1, .slice F2 xp.length f2] 25))) := grew_trans (grew_trans HG5.out HG.out) (grew_trans HG6.out (grew_alloc w6 #[.int .i64 yx, .slice F1 yl.length f1, .slice F2 xp.length f2] 25))
                have CP := keepPoss_yes E2 F2 xp.length e2 f2 xp (w6.alloc (.cells #[.int .i64 yx, .slice F1 yl.length f1, .slice F2 xp.length f2] 25)) ((HE5.out.keep (grew_trans HG.out HG6.out)).keep (grew_alloc w6 #[.int .i64 yx, .slice F1 yl.length f1, .slice F2 xp.length f2] 25)).p (HF6.out.in.keep (grew_alloc w6 #[.int .i64 yx, .slice F1 yl.length f1, .slice F2 xp.length f2] 25)).p (by omega)
                generalize w6.alloc (.cells #[.int .i64 yx, .slice F1 yl.length f1, .slice F2 xp.length f2] 25) = w7 at *
                generalize w6.heap.size = T at *
                have v2 : w7.cell? ⟨HE, 2, none⟩ = some (.slice E2 xp.length e2) := HV.out.at 2 _ rfl
                have u2 : w7.cell? ⟨T, 2, none⟩ = some (.slice F2 xp.length f2) := HU.out.at 2 _ rfl
                go_wp2_with (first
                  | (go_at_call 27; ((with_reducible refine CP.mono ?_); rintro e w8 ⟨rfl, hg⟩; have HG8 := Lib.hid (grew_trans HGA.out hg); clear hg))
                  | (go_at_call 23; ((with_reducible refine (CW _).mono ?_); rintro e w9 ⟨rfl, hg⟩; have HG9 := Lib.hid (grew_trans HG8.out hg); clear hg)))
                go_ret
                exact ⟨rfl, HG9.out⟩
end Go.Proofs.Ytkbmiajgmnfpfaa.NumK
namespace Go.Proofs.Ytkbmiajgmnfpfaa.bookParts
open Go.ChangeShapes Go.WideShapes Go.ChangeAt Go.RowKit
set_option linter.unusedVariables false

theorem own : ownKnob Try.prog.godebug = none := by kernel_rfl
theorem laidOut : laidOutB Try.prog = true := by kernel_rfl

set_option maxRecDepth 100000 in
theorem lifted (os : Os) (started : os.Started) (H : Type) (enc : TypeId × Value → H) :
    ReturnsInHanded {} Try.checked os 6 .any (Rows.bookPartsSpec.pre6 enc Try.prog Try.f6 Rows.bookPartsRow.domain false) (Rows.bookPartsSpec.post enc Try.prog Try.f6 false true false false) := by
  refine returnsInHanded_of_change (C := Try.checked) own started (by kernel_rfl) Try.func6
    (ChangeSpec.witness6 (enc := enc) (C := Try.checked) false ⟨#[], #[.slice none 0 0, .slice none 0 0], []⟩ 8 (by kernel_rfl) (by kernel_rfl) (by kernel_rfl) (by kernel_rfl)) ?_
  intro W base args ds gs before hval0 hW hcnd _
  have hval : ∀ (j : Nat) t v, Try.f6.params[j]? = some t → args[j]? = some v → Value.okWide Try.prog W .any base t v := hval0
  have hW' := hW
  obtain ⟨p, q, hA0, hV, rfl, hfz, hnd⟩ := hW
  have hA : DataW.TrodAll enc Try.prog W 0 (fun _ => true) true Try.f6.params.toList args.toList ds p := hA0
  skip
  rw [Try.params6] at hA hval
  obtain ⟨v0, vs0, d0, ds0, p0, q0, hargs, rfl, rfl, h0, r0⟩ := trodAll_cons hA
  obtain ⟨v1, vs1, d1, ds1, p1, q1, rfl, rfl, rfl, h1, r1⟩ := trodAll_cons r0
  obtain ⟨rfl, rfl, rfl⟩ := trodAll_nil r1
  obtain rfl : args = #[v0, v1] := by cases args; simp_all
  obtain ⟨rfl, rfl⟩ := trodVars_none hV
  have k0 := h0
  have lt0 : ∀ x ∈ p0, x.block < W.heap.size := by obtain ⟨m, hm⟩ := k0; exact DataW.trod_lt m _ _ _ hm
  obtain ⟨A0, len0, cap0, l0, rfl, ro0, n0, c0, m0⟩ := NumK.arg_slice Try.underlying45 NumK.opens_acts (hval 0 45 v0 rfl rfl) h0
  have k1 := h1
  have lt1 : ∀ x ∈ p1, x.block < W.heap.size := by obtain ⟨m, hm⟩ := k1; exact DataW.trod_lt m _ _ _ hm
  obtain ⟨A1, len1, cap1, l1, rfl, ro1, n1, c1, m1⟩ := NumK.arg_slice Try.underlying45 NumK.opens_acts (hval 1 45 v1 rfl rfl) h1
  clear hA0 hval0
  refine (NumK.bookParts_walk A0 A1 len0 len1 cap0 cap1 l0 l1 W (NumK.acs13_of ro0) (NumK.acs13_of ro1)).mono fun e W' ⟨he, bel⟩ => ?_
  subst he
  exact ⟨_, rfl, _, _, _, [], _, [], hW', trodAll_mk1 (shut_bool Try.underlying4 _), (trodAll_cons_mk (Below.trod laidOut (by kernel_rfl) (of_decide_eq_true (by kernel_rfl)) k0 bel lt0) (trodAll_cons_mk (Below.trod laidOut (by kernel_rfl) (of_decide_eq_true (by kernel_rfl)) k1 bel lt1) trodAll_mk0)), rfl, bel.frame _, fun h => by cases h⟩

theorem over : Rows.bookPartsRow.holds Try.pinned (OpenSpec.ofChange Rows.bookPartsSpec) :=
  OpenClaim.holds_of_wide 6 Try.f6 rfl rfl rfl rfl rfl rfl rfl ⟨rfl, rfl, rfl, rfl, rfl⟩ rfl rfl rfl rfl rfl (by kernel_rfl) Try.func6 (by kernel_rfl)
    (of_decide_eq_true (by kernel_rfl)) (by unfold Func.isWrapper; first | (rw [if_pos (by decide +kernel)]; kernel_rfl) | (rw [if_neg (by decide +kernel)]; exact ⟨rfl, rfl⟩))
    (fun os started H enc _ => lifted os started H enc)

/-! ### the statement -/
theorem proved : Rows.BookPartsSaid := over
end Go.Proofs.Ytkbmiajgmnfpfaa.bookParts
