/-
  Behind the first 40 of whatever postings: the total of kinds is the sum of the totals of each of them that is a kind, each told once (P10.3); more than 200 postings, legs of one, or kinds, and totals beyond 2^55, the statement lets by.
-/
import Derived.Test.YtafglljfgoeapaaRS
import Derived.Test.YtafglljfgoeapaaRows
import Derived.WalkKit
import Derived.ProofKit
import Derived.OpenShut
import Derived.ShutString
import Derived.ChangeOld
import Derived.Below
import Derived.Carry
namespace Go.Proofs.Ytafglljfgoeapaa.NumK
open Go.RowKit
set_option linter.unusedVariables false

/-- An array of seven: which kinds were seen. -/
structure Seen (w : World) (b : Nat) (ks : List Int) : Prop where
  cell : ∀ q : Nat, 1 ≤ q → q ≤ 6 → w.cell? ⟨b, q, none⟩ = some (.bool (ks.contains (q : Int)))
  fr : ∀ q : Nat, q ≤ 6 → w.frozen? ⟨b, q, none⟩ = false
  lt : b < w.heap.size
theorem Seen.new (w : World) (t : TypeId) (N : Nat) (hN : w.heap.size = N) : Seen (w.alloc (.cells #[.bool false, .bool false, .bool false, .bool false, .bool false, .bool false, .bool false] t)) N [] := by
  subst hN
  refine ⟨fun q h1 h2 => ?_, fun q h => ?_, by simp⟩
  · have : q = 1 ∨ q = 2 ∨ q = 3 ∨ q = 4 ∨ q = 5 ∨ q = 6 := by omega
    rcases this with rfl | rfl | rfl | rfl | rfl | rfl <;> simp
  · have : q = 0 ∨ q = 1 ∨ q = 2 ∨ q = 3 ∨ q = 4 ∨ q = 5 ∨ q = 6 := by omega
    rcases this with rfl | rfl | rfl | rfl | rfl | rfl | rfl <;> simp
theorem Seen.keep {w w' : World} {b : Nat} {ks : List Int} (h : Seen w b ks) (g : Grew w w') : Seen w' b ks :=
  ⟨fun q h1 h2 => (grew_cell g (p := ⟨b, q, none⟩) h.lt).trans (h.cell q h1 h2), fun q h1 => (Below.frozen g (p := ⟨b, q, none⟩) h.lt).trans (h.fr q h1), Nat.lt_of_lt_of_le h.lt g.size⟩
theorem Seen.same {w : World} {b : Nat} {ks : List Int} (h : Seen w b ks) (k : Int) (hk : k < 1 ∨ 6 < k ∨ ks.contains k = true) : Seen w b (ks ++ [k]) :=
  ⟨fun q h1 h2 => by
    rw [h.cell q h1 h2]
    congr 2
    rw [Bool.eq_iff_iff]
    simp only [List.contains_iff_mem, List.mem_append, List.mem_singleton]
    constructor
    · exact Or.inl
    · rintro (h3 | h3)
      · exact h3
      · rcases hk with hk | hk | hk
        · omega
        · omega
        · rw [h3]; simpa using hk, h.fr, h.lt⟩
theorem Seen.push {w : World} {b : Nat} {ks : List Int} (h : Seen w b ks) (k : Nat) (h1 : 1 ≤ k) (h6 : k ≤ 6) : Seen (w.setCell ⟨b, k, none⟩ (.bool true)) b (ks ++ [(k : Int)]) :=
  ⟨fun q h1' h2 => by
    by_cases e : q = k
    · subst e
      rw [World.cell?_setCell_same _ _ _ (h.cell q h1' h2)]
      simp
    · rw [World.cell?_setCell_other _ _ _ _ (by intro e2; simp at e2; first | done | exact e e2.symm | exact e e2), h.cell q h1' h2]
      congr 2
      rw [Bool.eq_iff_iff]
      simp only [List.contains_iff_mem, List.mem_append, List.mem_singleton]
      constructor
      · exact Or.inl
      · rintro (h3 | h3)
        · exact h3
        · omega, fun q hq => by rw [World.frozen?_setCell]; exact h.fr q hq, by simp [World.setCell]; exact h.lt⟩

set_option maxRecDepth 100000 in
set_option maxHeartbeats 4000000 in
theorem ledgerTotals_walk (A K : Option Addr) (n c kn kc : Nat) (l : List Ld) (cur : Int) (ks : List Int) (w : World) (h : Posts w A n l) (h2 : Ints w K kn ks) :
    Calls Try.prog 7 #[.slice A n c, .int .i64 cur, .slice K kn kc] w fun e w' => e = .returned (.bool true) ∧ Grew w w' := by
  by_cases hf : Few n l
  · have HA := Lib.hid h
    have HK := Lib.hid h2
    have CH := heavy_few (c := c) h hf
    have CG := grown_any A n c l w h hf
    have WK := fun w => wakes10_any w
    clear h hf h2
    by_cases z1 : (200 : Int) < (kn : Int)
    · go_enter Try.func7, Try.ntmps7
      go_wp2_with (go_at_call 22; ((with_reducible refine CH.mono ?_); rintro e w1 ⟨rfl, rfl⟩; clear CH))
      go_ret
      exact ⟨rfl, grew_refl _⟩
    have hkn : kn ≤ 200 := by omega
    go_enter Try.func7, Try.ntmps7
    go_wp2_with (first
      | (go_at_call 22; ((with_reducible refine CH.mono ?_); rintro e w1 ⟨rfl, rfl⟩; clear CH))
      | (go_at_call 23; ((with_reducible refine CG.mono ?_); rintro e w1 ⟨last, bl, A', c', q, rfl, hl, hg⟩; have HL := Lib.hid hl; have HG1 := Lib.hid hg; unfold ldV; clear hl hg CG)))
    have HO0 : Hid (Own2 ((w1.alloc (.cells #[.int .i64 last, .slice A' bl.length c'] 24)).alloc (.cells #[.bool false, .bool false, .bool false, .bool false, .bool false, .bool false, .bool false] 57)) w1.heap.size (.int .i64 last) (.slice A' bl.length c')) := (Own2.new w1 _ _ _ _ rfl).keep (grew_alloc _ _ _)
    have HN0 : Hid (Seen ((w1.alloc (.cells #[.int .i64 last, .slice A' bl.length c'] 24)).alloc (.cells #[.bool false, .bool false, .bool false, .bool false, .bool false, .bool false, .bool false] 57)) (w1.heap.size + 1) []) := Seen.new _ _ _ (by simp)
    have HG2 : Hid (Grew w1 ((w1.alloc (.cells #[.int .i64 last, .slice A' bl.length c'] 24)).alloc (.cells #[.bool false, .bool false, .bool false, .bool false, .bool false, .bool false, .bool false] 57))) := grew_trans (grew_alloc _ _ _) (grew_alloc _ _ _)
    generalize (w1.alloc (.cells #[.int .i64 last, .slice A' bl.length c'] 24)).alloc (.cells #[.bool false, .bool false, .bool false, .bool false, .bool false, .bool false, .bool false] 57) = W0 at *
    go_loopw [10, 11] (fun v10 v11 wr => ∃ j : Nat, v10 = .int .i64 (sumK bl cur (ks.take j)) ∧ v11 = .int .i64 j ∧ j ≤ kn ∧ Hid ((sumK bl cur (ks.take j)).natAbs ≤ cntK (ks.take j) * 36028797018963968) ∧ Hid (Seen wr (w1.heap.size + 1) (ks.take j)) ∧ Hid (Turn (w1.heap.size + 1) W0 wr)) (fun _ v11 _ => kn - (intOf v11).toNat)
    case atStart => exact ⟨0, by rw [List.take_zero, sumK_nil], rfl, by omega, by rw [List.take_zero, sumK_nil]; exact Nat.zero_le _, by rw [List.take_zero]; exact HN0, Turn.refl _ _⟩
    case round =>
      obtain ⟨j, rfl, rfl, hj, HS, HN, HT⟩ := hrel
      have HGr : Hid (Grew w1 wr) := Turn.new HG2.out HT.out (by omega)
      by_cases hlt : j < kn
      · obtain ⟨b, o, rfl, hbk, hc⟩ := (HK.out.keep (grew_trans HG1.out HGr.out)).2 (by omega)
        have hcell := hc j hlt
        have hl := HK.out.1
        have hs : ks.take (j + 1) = ks.take j ++ [ks.getD j 0] := by rw [List.take_succ_eq_append_getElem (by omega)]; simp [List.getD, show j < ks.length by omega]
        clear hc
        generalize ks.getD j 0 = k at *
        have hm : mayL bl = true := rightB_may (ledger_parts HL.out.ok).2.1
        obtain ⟨e0, e1, -, -, -⟩ := HO0.out.turn HT.out (by omega)
        have HSK : Hid ((k < 1 ∨ 6 < k ∨ (ks.take j).contains k = true) → sumK bl cur (ks.take (j + 1)) = sumK bl cur (ks.take j) ∧ (sumK bl cur (ks.take (j + 1))).natAbs ≤ cntK (ks.take (j + 1)) * 36028797018963968 ∧ Seen wr (w1.heap.size + 1) (ks.take (j + 1))) := fun hk => by
          have he : sumK bl cur (ks.take (j + 1)) = sumK bl cur (ks.take j) := by
            rw [hs, sumK_snoc]
            split
            · omega
            · rcases hk with hk | hk | hk
              · rw [sumK_out hm cur k (Or.inl hk)]; omega
              · rw [sumK_out hm cur k (Or.inr hk)]; omega
              · rename_i h; exact absurd hk h
          refine ⟨he, ?_, by rw [hs]; exact HN.out.same k hk⟩
          rw [he, hs]
          exact Nat.le_trans HS.out (Nat.mul_le_mul_right _ (cntK_same _ _))
        by_cases hk1 : k < 1
        · obtain ⟨p1, p2, p3⟩ := HSK.out (Or.inl hk1)
          have P1 := Lib.hid p1; have P2 := Lib.hid p2; have P3 := Lib.hid p3
          clear p1 p2 p3 HSK hs hm e0 e1
          go_wp2
          go_roundw
          case rel => exact ⟨j + 1, by rw [P1.out], by go_num, by omega, P2, P3, HT⟩
          case measure => simp only [intOf]; omega
        by_cases hk6 : 6 < k
        · obtain ⟨p1, p2, p3⟩ := HSK.out (Or.inr (Or.inl hk6))
          have P1 := Lib.hid p1; have P2 := Lib.hid p2; have P3 := Lib.hid p3
          clear p1 p2 p3 HSK hs hm e0 e1
          go_wp2
          go_roundw
          case rel => exact ⟨j + 1, by rw [P1.out], by go_num, by omega, P2, P3, HT⟩
          case measure => simp only [intOf]; omega
        obtain ⟨kq, rfl⟩ : ∃ kq : Nat, k = kq := ⟨k.toNat, by omega⟩
        have q1 : 1 ≤ kq := by omega
        have q6 : kq ≤ 6 := by omega
        have s1 := HN.out.cell kq q1 q6
        have f1 := HN.out.fr kq q6
        have lt1 := HN.out.lt
        by_cases hk : (ks.take j).contains (kq : Int) = true
        · obtain ⟨p1, p2, p3⟩ := HSK.out (Or.inr (Or.inr hk))
          have P1 := Lib.hid p1; have P2 := Lib.hid p2; have P3 := Lib.hid p3
          rw [hk] at s1
          clear p1 p2 p3 HSK hs hm e0 e1 hk
          go_wp2
          go_roundw
          case rel => exact ⟨j + 1, by rw [P1.out], by go_num, by omega, P2, P3, HT⟩
          case measure => simp only [intOf]; omega
        · have hkf : (ks.take j).contains (kq : Int) = false := by simpa using hk
          rw [hkf] at s1
          have HP : Hid (Seen (wr.setCell ⟨w1.heap.size + 1, kq, none⟩ (.bool true)) (w1.heap.size + 1) (ks.take (j + 1)) ∧ Turn (w1.heap.size + 1) W0 (wr.setCell ⟨w1.heap.size + 1, kq, none⟩ (.bool true))) := ⟨by rw [hs]; exact HN.out.push kq q1 q6, HT.out.setCell _ _⟩
          have HSS : Hid (sumK bl cur (ks.take (j + 1)) = sumK bl cur (ks.take j) + sumK bl cur [(kq : Int)]) := by show _ = _; rw [hs, sumK_snoc, hkf]; rfl
          have HCC : Hid (cntK (ks.take (j + 1)) = cntK (ks.take j) + 1) := by show _ = _; rw [hs]; exact cntK_snoc _ _ (by omega) (by omega) hkf
          have HC6 : Hid (cntK (ks.take j) ≤ 6) := cntK_le _
          clear hk hkf hs hm HSK
          generalize sumK bl cur (ks.take j) = S at *
          generalize cntK (ks.take j) = C at *
          go_upto_region 12 with fail
          obtain ⟨hp1, hp2⟩ := HP.out
          generalize wr.setCell ⟨w1.heap.size + 1, kq, none⟩ (.bool true) = wq at *
          have HGq : Hid (Grew w1 wq) := Turn.new HG2.out hp2 (by omega)
          have HP1 := Lib.hid hp1; have HP2 := Lib.hid hp2
          clear hp1 hp2 s1 f1 lt1 e0 e1
          obtain ⟨e0, e1, -, -, -⟩ := HO0.out.turn HP2.out (by omega)
          have CT : ∀ N, N = wq.heap.size → Calls Try.prog 19 #[.agg #[.int .i64 last, .slice A' bl.length c'], .int .i64 cur, .slice (some ⟨N, 0, none⟩) 1 1] (wq.alloc (.cells #[.int .i64 kq] 3)) fun e w' => e = .returned (.tuple #[.int .i64 (capV (sumK bl cur [(kq : Int)])), .int .i64 (capE (sumK bl cur [(kq : Int)]))]) ∧ Grew wq w' := by
            rintro N rfl
            have := led_total HL.out (grew_trans HGq.out (grew_alloc wq #[.int .i64 kq] 3)) cur _ 1 1 [(kq : Int)] (ints1d wq kq 3 _ rfl) (by omega)
            exact this.mono fun e w' ⟨he, hg⟩ => ⟨he, own_back hg⟩
          generalize sumK bl cur [(kq : Int)] = s at *
          by_cases hm : isMoney s = true
          · rw [capV_in hm, capE_in hm] at CT
            rw [isMoney_iff] at hm
            by_cases g1 : 36028797018963968 < s
            · go_wp2_with (first
                | (go_at_call 19; ((with_reducible refine (CT _ rfl).mono ?_); rintro e w7 ⟨rfl, hg⟩; have HG7 := Lib.hid hg; clear hg CT))
                | (go_at_call 21; ((with_reducible refine (WK _).mono ?_); rintro e w9 ⟨rfl, hg⟩; have HG9 := Lib.hid (grew_trans HG1.out (grew_trans HGq.out (grew_trans HG7.out hg))); clear hg)))
              go_ret
              exact ⟨rfl, HG9.out⟩
            by_cases g2 : s < -36028797018963968
            · go_wp2_with (first
                | (go_at_call 19; ((with_reducible refine (CT _ rfl).mono ?_); rintro e w7 ⟨rfl, hg⟩; have HG7 := Lib.hid hg; clear hg CT))
                | (go_at_call 21; ((with_reducible refine (WK _).mono ?_); rintro e w9 ⟨rfl, hg⟩; have HG9 := Lib.hid (grew_trans HG1.out (grew_trans HGq.out (grew_trans HG7.out hg))); clear hg)))
              go_ret
              exact ⟨rfl, HG9.out⟩
            have hSb : S.natAbs ≤ 6 * 36028797018963968 := Nat.le_trans HS.out (Nat.mul_le_mul_right _ HC6.out)
            have hw : IntKind.i64.wrap (S + s) = S + s := by rw [IntKind.wrap_i64]; omega
            have HB : Hid ((S + s).natAbs ≤ (C + 1) * 36028797018963968) := by
              have := HS.out
              show _ ≤ _
              rw [Nat.add_mul]; omega
            go_wp2_with (go_at_call 19; ((with_reducible refine (CT _ rfl).mono ?_); rintro e w7 ⟨rfl, hg⟩; have HG7 := Lib.hid hg; clear hg CT))
            go_roundw
            case rel => exact ⟨j + 1, by rw [HSS.out], by go_num, by omega, by show _ ≤ _; rw [HSS.out, HCC.out]; exact HB.out, HP1.out.keep HG7.out, HP2.out.grew HG7.out⟩
            case measure => simp only [intOf]; omega
          · have hm2 : isMoney s = false := by simpa using hm
            rw [capE_out hm2] at CT
            clear hm hm2
            generalize capV s = sv at *
            go_wp2_with (first
              | (go_at_call 19; ((with_reducible refine (CT _ rfl).mono ?_); rintro e w7 ⟨rfl, hg⟩; have HG7 := Lib.hid hg; clear hg CT))
              | (go_at_call 21; ((with_reducible refine (WK _).mono ?_); rintro e w9 ⟨rfl, hg⟩; have HG9 := Lib.hid (grew_trans HG1.out (grew_trans HGq.out (grew_trans HG7.out hg))); clear hg)))
            go_ret
            exact ⟨rfl, HG9.out⟩
      · obtain rfl : j = kn := by omega
        rw [List.take_of_length_le (by have := HK.out.1; omega)] at *
        obtain ⟨e0, e1, -, -, -⟩ := HO0.out.turn HT.out (by omega)
        have CT := led_total HL.out HGr.out cur K j kc ks (HK.out.keep (grew_trans HG1.out HGr.out)) (by omega)
        have hSb : (sumK bl cur ks).natAbs ≤ 6 * 36028797018963968 := Nat.le_trans HS.out (Nat.mul_le_mul_right _ (cntK_le ks))
        have hm : isMoney (sumK bl cur ks) = true := by rw [isMoney_iff]; omega
        rw [capV_in hm, capE_in hm] at CT
        clear hm
        generalize sumK bl cur ks = S at *
        go_wp2_with (first
          | (go_at_call 19; ((with_reducible refine CT.mono ?_); rintro e w7 ⟨rfl, hg⟩; have HG7 := Lib.hid hg; clear hg CT))
          | (go_at_call 21; ((with_reducible refine (WK _).mono ?_); rintro e w9 ⟨rfl, hg⟩; have HG9 := Lib.hid (grew_trans HG1.out (grew_trans HGr.out (grew_trans HG7.out hg))); clear hg)))
        go_ret
        exact ⟨rfl, HG9.out⟩
  · have CH := heavy_not (c := c) h hf
    clear h hf h2
    go_enter Try.func7, Try.ntmps7
    go_wp2_with (go_at_call 22; ((with_reducible refine CH.mono ?_); rintro e w1 ⟨rfl, rfl⟩; clear CH))
    go_ret
    exact ⟨rfl, grew_refl _⟩
end Go.Proofs.Ytafglljfgoeapaa.NumK
namespace Go.Proofs.Ytafglljfgoeapaa.ledgerTotals
open Go.ChangeShapes Go.WideShapes Go.ChangeAt Go.RowKit
set_option linter.unusedVariables false

theorem own : ownKnob Try.prog.godebug = none := by kernel_rfl
theorem laidOut : laidOutB Try.prog = true := by kernel_rfl

set_option maxRecDepth 100000 in
theorem lifted (os : Os) (started : os.Started) (H : Type) (enc : TypeId × Value → H) :
    ReturnsInHanded {} Try.checked os 7 .any (Rows.ledgerTotalsSpec.pre6 enc Try.prog Try.f7 Rows.ledgerTotalsRow.domain false) (Rows.ledgerTotalsSpec.post enc Try.prog Try.f7 false true false false) := by
  refine returnsInHanded_of_change (C := Try.checked) own started (by kernel_rfl) Try.func7
    (ChangeSpec.witness6 (enc := enc) (C := Try.checked) false ⟨#[], #[.slice none 0 0, .int .i64 0, .slice none 0 0], []⟩ 8 (by kernel_rfl) (by kernel_rfl) (by kernel_rfl) (by kernel_rfl)) ?_
  intro W base args ds gs before hval0 hW hcnd _
  have hval : ∀ (j : Nat) t v, Try.f7.params[j]? = some t → args[j]? = some v → Value.okWide Try.prog W .any base t v := hval0
  have hW' := hW
  obtain ⟨p, q, hA0, hV, rfl, hfz, hnd⟩ := hW
  have hA : DataW.TrodAll enc Try.prog W 0 (fun _ => true) true Try.f7.params.toList args.toList ds p := hA0
  skip
  rw [Try.params7] at hA hval
  obtain ⟨v0, vs0, d0, ds0, p0, q0, hargs, rfl, rfl, h0, r0⟩ := trodAll_cons hA
  obtain ⟨v1, vs1, d1, ds1, p1, q1, rfl, rfl, rfl, h1, r1⟩ := trodAll_cons r0
  obtain ⟨v2, vs2, d2, ds2, p2, q2, rfl, rfl, rfl, h2, r2⟩ := trodAll_cons r1
  obtain ⟨rfl, rfl, rfl⟩ := trodAll_nil r2
  obtain rfl : args = #[v0, v1, v2] := by cases args; simp_all
  obtain ⟨rfl, rfl⟩ := trodVars_none hV
  have k0 := h0
  have lt0 : ∀ x ∈ p0, x.block < W.heap.size := by obtain ⟨m, hm⟩ := k0; exact DataW.trod_lt m _ _ _ hm
  obtain ⟨A0, len0, cap0, l0, rfl, ro0, n0, c0, m0⟩ := NumK.arg_slice Try.underlying45 NumK.opens_posts (hval 0 45 v0 rfl rfl) h0
  obtain ⟨a1, rfl, rfl, rfl, w1⟩ := open_int Try.underlying3 (hval 1 3 v1 rfl rfl) h1
  have k2 := h2
  have lt2 : ∀ x ∈ p2, x.block < W.heap.size := by obtain ⟨m, hm⟩ := k2; exact DataW.trod_lt m _ _ _ hm
  obtain ⟨A2, len2, cap2, l2, rfl, ro2, n2, c2, m2⟩ := NumK.arg_slice Try.underlying28 NumK.opens_ints (hval 2 28 v2 rfl rfl) h2
  clear hA0 hval0
  refine (NumK.ledgerTotals_walk A0 A2 len0 cap0 len2 cap2 l0 a1 l2 W (NumK.posts_of_row ro0) (NumK.ints_of_spec ro2).1).mono fun e W' ⟨he, bel⟩ => ?_
  subst he
  exact ⟨_, rfl, _, _, _, [], _, [], hW', trodAll_mk1 (shut_bool Try.underlying4 _), (trodAll_cons_mk (Below.trod laidOut (by kernel_rfl) (of_decide_eq_true (by kernel_rfl)) k0 bel lt0) (trodAll_cons_mk (shut_int Try.underlying3 w1) (trodAll_cons_mk (Below.trod laidOut (by kernel_rfl) (of_decide_eq_true (by kernel_rfl)) k2 bel lt2) trodAll_mk0))), rfl, bel.frame _, fun h => by cases h⟩

theorem over : Rows.ledgerTotalsRow.holds Try.pinned (OpenSpec.ofChange Rows.ledgerTotalsSpec) :=
  OpenClaim.holds_of_wide 7 Try.f7 rfl rfl rfl rfl rfl rfl rfl ⟨rfl, rfl, rfl, rfl, rfl⟩ rfl rfl rfl rfl rfl (by kernel_rfl) Try.func7 (by kernel_rfl)
    (of_decide_eq_true (by kernel_rfl)) (by unfold Func.isWrapper; first | (rw [if_pos (by decide +kernel)]; kernel_rfl) | (rw [if_neg (by decide +kernel)]; exact ⟨rfl, rfl⟩))
    (fun os started H enc _ => lifted os started H enc)

/-! ### the statement -/
theorem proved : Rows.LedgerTotalsSaid := over
end Go.Proofs.Ytafglljfgoeapaa.ledgerTotals
