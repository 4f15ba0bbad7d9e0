/- law16's paid: a ledger in which an amount went from one account to another. -/
import Derived.Test.YtodnllopokoicaaGreatRG48
import Derived.Test.YtodnllopokoicaaGreatRG5
import Derived.Test.YtodnllopokoicaaGreatRG14
import Derived.Test.YtodnllopokoicaaGreatRG2
namespace Go.Proofs.YtodnllopokoicaaGreat.NumK
open Go.RowKit
set_option linter.unusedVariables false

set_option maxRecDepth 100000 in
set_option maxHeartbeats 16000000 in
theorem paid_any (last : Int) (A : Option Addr) (n c : Nat) (l : List Lg) (a b : Ac) (x : Int) (w : World) (h : RowE enLg w A n l) (hn : n ≤ 1000) (hx : 0 ≤ x ∧ x ≤ 1152921504606846976) (hl : ∀ i, i < n → -4611686018427387904 ≤ (l.getD i lg0).2 ∧ (l.getD i lg0).2 ≤ 4611686018427387904) :
    Calls Tryz.prog 14 #[.agg #[.int .i64 last, .slice A n c], .agg #[.int .i64 a.1, .int .i64 a.2.1, .int .i64 a.2.2], .agg #[.int .i64 b.1, .int .i64 b.2.1, .int .i64 b.2.2], .int .i64 x] w fun e w' => ∃ A' c', e = .returned (.agg #[.int .i64 last, .slice A' (paidPd a b x l).length c']) ∧ OwnE enLg w' w.heap.size 119 (.slice A' (paidPd a b x l).length c') (paidPd a b x l) ∧ Grew w w' := by
  have HI := Lib.hid h
  have HL := Lib.hid h.len
  have HLB := Lib.hid hl
  have HXB := Lib.hid hx
  have hq0 : IntKind.i64.wrap (-x) = -x := by rw [IntKind.wrap_i64]; omega
  clear h hl hx
  have HP0 : Hid (Pw w ⟨w.heap.size, w.heap.size + 1, w.heap.size + 1 + 1, w.heap.size + 1 + 1 + 1, w.heap.size + 1 + 1 + 1 + 1, w.heap.size + 1 + 1 + 1 + 1 + 1, w.heap.size + 1 + 1 + 1 + 1 + 1 + 1⟩ last A n c a b ((((((w.alloc (.cells #[.int .i64 last, .slice A n c] 35)).alloc (.cells #[.int .i64 a.1, .int .i64 a.2.1, .int .i64 a.2.2] 53)).alloc (.cells #[.int .i64 b.1, .int .i64 b.2.1, .int .i64 b.2.2] 53)).alloc (.cells #[.int .i64 0, .slice none 0 0] 35)).alloc (.cells #[.int .i64 last, .slice none 0 0] 35)).alloc (.cells #[.bool false, .bool false] 116)) ([], false, false) none 0) := ⟨((((((OwnC.new w [.int .i64 last, .slice A n c] _ _ rfl).keep (grew_alloc _ _ _)).keep (grew_alloc _ _ _)).keep (grew_alloc _ _ _)).keep (grew_alloc _ _ _)).keep (grew_alloc _ _ _)), (((((OwnC.new (w.alloc (.cells #[.int .i64 last, .slice A n c] 35)) [.int .i64 a.1, .int .i64 a.2.1, .int .i64 a.2.2] _ _ (by simp)).keep (grew_alloc _ _ _)).keep (grew_alloc _ _ _)).keep (grew_alloc _ _ _)).keep (grew_alloc _ _ _)), ((((OwnC.new ((w.alloc (.cells #[.int .i64 last, .slice A n c] 35)).alloc (.cells #[.int .i64 a.1, .int .i64 a.2.1, .int .i64 a.2.2] 53)) [.int .i64 b.1, .int .i64 b.2.1, .int .i64 b.2.2] _ _ (by simp)).keep (grew_alloc _ _ _)).keep (grew_alloc _ _ _)).keep (grew_alloc _ _ _)), (((OwnC.new (((w.alloc (.cells #[.int .i64 last, .slice A n c] 35)).alloc (.cells #[.int .i64 a.1, .int .i64 a.2.1, .int .i64 a.2.2] 53)).alloc (.cells #[.int .i64 b.1, .int .i64 b.2.1, .int .i64 b.2.2] 53)) [.int .i64 0, .slice none 0 0] _ _ (by simp)).keep (grew_alloc _ _ _)).keep (grew_alloc _ _ _)), ((OwnC.new ((((w.alloc (.cells #[.int .i64 last, .slice A n c] 35)).alloc (.cells #[.int .i64 a.1, .int .i64 a.2.1, .int .i64 a.2.2] 53)).alloc (.cells #[.int .i64 b.1, .int .i64 b.2.1, .int .i64 b.2.2] 53)).alloc (.cells #[.int .i64 0, .slice none 0 0] 35)) [.int .i64 last, .slice none 0 0] _ _ (by simp)).keep (grew_alloc _ _ _)), (OwnC.new (((((w.alloc (.cells #[.int .i64 last, .slice A n c] 35)).alloc (.cells #[.int .i64 a.1, .int .i64 a.2.1, .int .i64 a.2.2] 53)).alloc (.cells #[.int .i64 b.1, .int .i64 b.2.1, .int .i64 b.2.2] 53)).alloc (.cells #[.int .i64 0, .slice none 0 0] 35)).alloc (.cells #[.int .i64 last, .slice none 0 0] 35)) [.bool false, .bool false] _ _ (by simp)), OwnE.nil enLg _ _ _, grew_trans (grew_trans (grew_trans (grew_trans (grew_trans (grew_alloc _ _ _) (grew_alloc _ _ _)) (grew_alloc _ _ _)) (grew_alloc _ _ _)) (grew_alloc _ _ _)) (grew_alloc _ _ _), by simp, by unfold PdB.ok; dsimp only; omega⟩
  go_enter Tryz.func14, Tryz.ntmps14
  go_upto_region 4 with (fail)
  generalize ((((((w.alloc (.cells #[.int .i64 last, .slice A n c] 35)).alloc (.cells #[.int .i64 a.1, .int .i64 a.2.1, .int .i64 a.2.2] 53)).alloc (.cells #[.int .i64 b.1, .int .i64 b.2.1, .int .i64 b.2.2] 53)).alloc (.cells #[.int .i64 0, .slice none 0 0] 35)).alloc (.cells #[.int .i64 last, .slice none 0 0] 35)).alloc (.cells #[.bool false, .bool false] 116)) = w0 at *
  generalize w.heap.size + 1 + 1 + 1 + 1 + 1 + 1 = B at *
  generalize w.heap.size + 1 + 1 + 1 + 1 + 1 = bp at *
  generalize w.heap.size + 1 + 1 + 1 + 1 = bo at *
  generalize w.heap.size + 1 + 1 + 1 = br at *
  generalize w.heap.size + 1 + 1 = bb at *
  generalize w.heap.size + 1 = ba at *
  generalize w.heap.size = bl at *
  go_wp2
  go_loopw [13] (fun v wr => ∃ j : Nat, v = .int .i64 j ∧ j ≤ n ∧ ∃ A' c', Hid (Pw w ⟨bl, ba, bb, br, bo, bp, B⟩ last A n c a b wr (runPd a b x (l.take j)) A' c')) (fun v _ => n + 1 - (intOf v).toNat)
  case atStart => exact ⟨0, rfl, Nat.zero_le _, none, 0, HP0.out⟩
  case round =>
    clear HP0
    obtain ⟨j, rfl, hj, A', c', HP⟩ := hrel
    have x1 : wr.cell? ⟨bl, 1, none⟩ = some (.slice A n c) := HP.out.l.at 1 _ rfl
    have HRL : Hid ((runPd a b x (l.take j)).1.length ≤ 3000) := by
      have h1 := run_len a b x (l.take j)
      have h2 := HL.out
      rw [List.length_take] at h1
      show _ ≤ _; omega
    by_cases hlt : j < n
    · obtain ⟨rb, ro, rfl, hb0, r1, r2, r3, r4⟩ := HI.out.lg hlt
      have HS := Lib.hid (run_succ a b x l j (by rw [HL.out]; exact hlt))
      have HZB := Lib.hid (HLB.out j hlt)
      have HR : Hid (∀ w', Grew w w' → w'.cell? ⟨rb, ro + j * 4, none⟩ = some (.int .i64 (l.getD j lg0).1.1) ∧ w'.cell? ⟨rb, ro + j * 4 + 1, none⟩ = some (.int .i64 (l.getD j lg0).1.2.1) ∧ w'.cell? ⟨rb, ro + j * 4 + 2, none⟩ = some (.int .i64 (l.getD j lg0).1.2.2) ∧ w'.cell? ⟨rb, ro + j * 4 + 3, none⟩ = some (.int .i64 (l.getD j lg0).2)) := fun w' g => ⟨(grew_cell g (p := ⟨rb, _, none⟩) hb0).trans r1, (grew_cell g (p := ⟨rb, _, none⟩) hb0).trans r2, (grew_cell g (p := ⟨rb, _, none⟩) hb0).trans r3, (grew_cell g (p := ⟨rb, _, none⟩) hb0).trans r4⟩
      clear r1 r2 r3 r4 hb0
      have i0 : (0 : Int) ≤ (j : Int) := by omega
      have i1 : (j : Int) < (n : Int) := by omega
      have i2 : (j : Int) ≤ (n : Int) := by omega
      have i3 : ¬ (j : Int) = (n : Int) := by omega
      have i4 : ((j : Int) == (n : Int)) = false := beq_eq_false_iff_ne.2 i3
      generalize l.getD j lg0 = zz at *
      obtain ⟨⟨z1, z2, z3⟩, zv⟩ := zz
      dsimp only at HR HZB
      generalize runPd a b x (l.take j) = s at *
      obtain ⟨so, sp, sq⟩ := s
      go_wp2
      generalize wr = wA at *
      go_loopw [14] (fun v wr => (v = .int .i64 0 ∧ ∃ A' c', Hid (Pw w ⟨bl, ba, bb, br, bo, bp, B⟩ last (some ⟨rb, ro, none⟩) n c a b wr (so, sp, sq) A' c')) ∨ (v = .int .i64 1 ∧ ∃ A' c', Hid (Pw w ⟨bl, ba, bb, br, bo, bp, B⟩ last (some ⟨rb, ro, none⟩) n c a b wr (put1 a x (some (z1, z2, z3)) (so, sp, sq)) A' c')) ∨ (v = .int .i64 2 ∧ ∃ A' c', Hid (Pw w ⟨bl, ba, bb, br, bo, bp, B⟩ last (some ⟨rb, ro, none⟩) n c a b wr (putPd a b x (some (z1, z2, z3)) (so, sp, sq)) A' c'))) (fun v _ => 2 - (intOf v).toNat)
      case atStart => exact .inl ⟨rfl, A', c', HP.out⟩
      case round =>
        clear HP x1
        rcases hrel with ⟨rfl, A1, d1, HQ⟩ | ⟨rfl, A1, d1, HQ⟩ | ⟨rfl, A1, d1, HQ⟩
        · have HN : Hid (∀ s', put1 a x (some (z1, z2, z3)) (so, sp, sq) = s' → put1 a x (some (z1, z2, z3)) (so, sp, sq) = s') := fun _ h => h
          clear HN
          have a0 : wr.cell? ⟨ba, 0, none⟩ = some (.int .i64 a.1) := HQ.out.a.at 0 _ rfl; have a1 : wr.cell? ⟨ba, 1, none⟩ = some (.int .i64 a.2.1) := HQ.out.a.at 1 _ rfl; have a2 : wr.cell? ⟨ba, 2, none⟩ = some (.int .i64 a.2.2) := HQ.out.a.at 2 _ rfl
          go_upto_region 11 with (fail)
          have HZ2 : Hid (Pz w ⟨bl, ba, bb, br, bo, bp, B⟩ last (some ⟨rb, ro, none⟩) n c a b (wr.alloc (.cells #[.int .i64 a.1, .int .i64 a.2.1, .int .i64 a.2.2] 53)) (so, sp, sq) A1 d1 wr.heap.size [.int .i64 a.1, .int .i64 a.2.1, .int .i64 a.2.2]) := HQ.out.box [.int .i64 a.1, .int .i64 a.2.1, .int .i64 a.2.2] 53
          clear a0 a1 a2 HQ
          generalize (wr.alloc (.cells #[.int .i64 a.1, .int .i64 a.2.1, .int .i64 a.2.2] 53)) = w2 at *
          generalize wr.heap.size = K at *
          go_upto_region 13 with (fail)
          have HZ3 := HZ2
          clear HZ2
          generalize w2 = w3 at *
          cases sp
          · skip
            have X0 : ∀ p : GrewTo w3, p.to.cell? ⟨bp, 0, none⟩ = some (.bool false) := fun p => (HZ3.out.w.p.keep p.h).at 0 _ rfl
            have X1 : ∀ p : GrewTo w3, p.to.cell? ⟨bl, 1, none⟩ = some (.slice (some ⟨rb, ro, none⟩) n c) := fun p => (HZ3.out.w.l.keep p.h).at 1 _ rfl
            have Y0 : ∀ p : GrewTo w3, p.to.cell? ⟨K, 0, none⟩ = some (.int .i64 a.1) := fun p => (HZ3.out.k.keep p.h).at 0 _ rfl
            have Y1 : ∀ p : GrewTo w3, p.to.cell? ⟨K, 1, none⟩ = some (.int .i64 a.2.1) := fun p => (HZ3.out.k.keep p.h).at 1 _ rfl
            have Y2 : ∀ p : GrewTo w3, p.to.cell? ⟨K, 2, none⟩ = some (.int .i64 a.2.2) := fun p => (HZ3.out.k.keep p.h).at 2 _ rfl
            have R0 : ∀ p : GrewTo w3, p.to.cell? ⟨rb, ro + j * 4, none⟩ = some (.int .i64 z1) := fun p => (HR.out _ (grew_trans HZ3.out.w.g p.h)).1
            have R1 : ∀ p : GrewTo w3, p.to.cell? ⟨rb, ro + j * 4 + 1, none⟩ = some (.int .i64 z2) := fun p => (HR.out _ (grew_trans HZ3.out.w.g p.h)).2.1
            have R2 : ∀ p : GrewTo w3, p.to.cell? ⟨rb, ro + j * 4 + 2, none⟩ = some (.int .i64 z3) := fun p => (HR.out _ (grew_trans HZ3.out.w.g p.h)).2.2.1
            have CX := fun w' (g : Grew w3 w') => less16_any a.1 a.2.1 a.2.2 z1 z2 z3 w'
            have HLE : Hid (aheadPd a (some (z1, z2, z3)) = lessA a.1 a.2.1 a.2.2 z1 z2 z3) := rfl
            generalize lessA a.1 a.2.1 a.2.2 z1 z2 z3 = le at *
            cases le
            · skip
              go_wp2_with fail
              refine wp_region_grew (by kernel_rfl) (by kernel_rfl) ?_
              repeat (go_big_quiet_step (with_reducible exact calls_every CX))
              refine wpQuiet_nil ?_
              intro w5 hw'
              have HG5 := Lib.hid (grew_of hw')
              clear hw'
              clear X0 X1 Y0 Y1 Y2 R0 R1 R2 CX
              have HP5 : Hid (Pw w ⟨bl, ba, bb, br, bo, bp, B⟩ last (some ⟨rb, ro, none⟩) n c a b w5 (so, false, sq) A1 d1) := (HZ3.out.keep HG5.out).w
              clear HZ3 HG5
              go_wp2
              go_roundw
              case rel => exact .inr (.inl ⟨by go_num, A1, d1, (by rw [put1_no a x (some (z1, z2, z3)) so sq HLE.out]; exact HP5.out)⟩)
              case measure => simp only [intOf]; omega
            · skip
              go_wp2_with fail
              refine wp_region_grew (by kernel_rfl) (by kernel_rfl) ?_
              repeat (go_big_quiet_step (with_reducible exact calls_every CX))
              refine wpQuiet_nil ?_
              intro w5 hw'
              have HG5 := Lib.hid (grew_of hw')
              clear hw'
              clear X0 X1 Y0 Y1 Y2 R0 R1 R2 CX
              have HZ5 : Hid (Pz w ⟨bl, ba, bb, br, bo, bp, B⟩ last (some ⟨rb, ro, none⟩) n c a b w5 (so, false, sq) A1 d1 K [.int .i64 a.1, .int .i64 a.2.1, .int .i64 a.2.2]) := HZ3.out.keep HG5.out
              clear HZ3 HG5
              have p0 : w5.cell? ⟨bp, 0, none⟩ = some (.bool false) := HZ5.out.w.p.at 0 _ rfl; have p1 : w5.frozen? ⟨bp, 0, none⟩ = false := HZ5.out.w.p.fr 0 (by simp)
              go_upto_region 15 with (fail)
              have HZ6 : Hid (Pz w ⟨bl, ba, bb, br, bo, bp, B⟩ last (some ⟨rb, ro, none⟩) n c a b (w5.setCell ⟨bp, 0, none⟩ (.bool true)) (so, true, sq) A1 d1 K [.int .i64 a.1, .int .i64 a.2.1, .int .i64 a.2.2]) := HZ5.out.set0
              clear p0 p1 HZ5
              generalize (w5.setCell ⟨bp, 0, none⟩ (.bool true)) = w6 at *
              have o1 : w6.cell? ⟨bo, 1, none⟩ = some (.slice A1 so.length d1) := HZ6.out.w.o.at 1 _ rfl
              have k0 := HZ6.out.k.at 0 _ rfl; have k1 := HZ6.out.k.at 1 _ rfl; have k2 := HZ6.out.k.at 2 _ rfl
              have HBO := Lib.hid HZ6.out.w.ok
              have HOW : Hid (OwnE enLg (w6.alloc (.cells #[.int .i64 a.1, .int .i64 a.2.1, .int .i64 a.2.2, .int .i64 (-x)] 119)) B 119 (.slice A1 so.length d1) so) := HZ6.out.w.v.keep (grew_alloc _ _ _)
              have HON : Hid (RowE enLg (w6.alloc (.cells #[.int .i64 a.1, .int .i64 a.2.1, .int .i64 a.2.2, .int .i64 (-x)] 119)) (some ⟨w6.heap.size, 0, none⟩) 1 [(a, -x)]) := RowE.one enLg w6 (a, -x) 119 _ rfl
              have HOS : Hid (B ≤ (w6.alloc (.cells #[.int .i64 a.1, .int .i64 a.2.1, .int .i64 a.2.2, .int .i64 (-x)] 119)).heap.size) := Nat.le_trans HZ6.out.w.sz (grew_size (grew_alloc _ _ _))
              have HOL : Hid (so.length ≤ 4000) := Nat.le_trans HRL.out (by decide)
              go_upto_region 9 with (at_builtin; refine (wpList_append_E rfl _ _ 33 119 (legV 0 0 0 0) 32 rfl Tryz.underlying33 info_bal rfl B _ so rfl HOW.out (some ⟨w6.heap.size, 0, none⟩) 1 1 [(a, -x)] rfl (by intro h; cases h) HON.out (by have := HOL.out; unfold maxLen; omega) (by have := HOL.out; omega) HOS.out ?_); intro v' w7 ho hb; obtain ⟨A7, d7, rfl, -⟩ := ho.form; rw [List.length_append, List.length_singleton] at ho; have HO7 := Lib.hid ho; have HB7 := Lib.hid hb; have HX7 := Lib.hid ((HZ6.out.w.o.keep (grew_alloc w6 #[.int .i64 a.1, .int .i64 a.2.1, .int .i64 a.2.2, .int .i64 (-x)] 119)).below hb (by have := HBO.out; unfold PdB.ok at this; dsimp only at this ⊢; omega)); have o2 : w7.cell? ⟨bo, 1, none⟩ = some (.slice A1 so.length d1) := HX7.out.at 1 _ rfl; have o3 : w7.frozen? ⟨bo, 1, none⟩ = false := HX7.out.fr 1 (by show 1 < 2; omega); clear ho hb o1 k0 k1 k2 HOW HON HOS HOL)
              have HP7 : Hid (Pw w ⟨bl, ba, bb, br, bo, bp, B⟩ last (some ⟨rb, ro, none⟩) n c a b (w7.setCell ⟨bo, 1, none⟩ (.slice A7 (so.length + 1) d7)) (so ++ [(a, -x)], true, sq) A7 d7) := (HZ6.out.w.keep (grew_alloc w6 #[.int .i64 a.1, .int .i64 a.2.1, .int .i64 a.2.2, .int .i64 (-x)] 119)).app HB7.out HO7.out rfl
              clear HO7 HB7 HX7 HZ6 o2 o3 HBO
              generalize (w7.setCell ⟨bo, 1, none⟩ (.slice A7 (so.length + 1) d7)) = w8 at *
              go_wp2
              go_roundw
              case rel => exact .inr (.inl ⟨by go_num, A7, d7, (by rw [put1_yes a x (some (z1, z2, z3)) so sq HLE.out]; exact HP7.out)⟩)
              case measure => simp only [intOf]; omega
          · skip
            have X0 : ∀ p : GrewTo w3, p.to.cell? ⟨bp, 0, none⟩ = some (.bool true) := fun p => (HZ3.out.w.p.keep p.h).at 0 _ rfl
            go_wp2_with fail
            refine wp_region_grew (by kernel_rfl) (by kernel_rfl) ?_
            repeat (go_big_quiet_step (fail))
            refine wpQuiet_nil ?_
            intro w5 hw'
            have HG5 := Lib.hid (grew_of hw')
            clear hw'
            clear X0
            have HP5 : Hid (Pw w ⟨bl, ba, bb, br, bo, bp, B⟩ last (some ⟨rb, ro, none⟩) n c a b w5 (so, true, sq) A1 d1) := (HZ3.out.keep HG5.out).w
            clear HZ3 HG5
            go_wp2
            go_roundw
            case rel => exact .inr (.inl ⟨by go_num, A1, d1, (by rw [put1_done a x (some (z1, z2, z3)) so sq]; exact HP5.out)⟩)
            case measure => simp only [intOf]; omega
        · have hlen := put1_len a x (some (z1, z2, z3)) (so, sp, sq)
          have HE := Lib.hid (put_eq a b x (some (z1, z2, z3)) (so, sp, sq))
          generalize put1 a x (some (z1, z2, z3)) (so, sp, sq) = s1 at *
          obtain ⟨uo, up, uq⟩ := s1
          have HTL : Hid (uo.length ≤ 4000) := by have := HRL.out; dsimp only at hlen this ⊢; show _ ≤ _; omega
          clear hlen
          have a0 : wr.cell? ⟨ba, 0, none⟩ = some (.int .i64 a.1) := HQ.out.a.at 0 _ rfl; have a1 : wr.cell? ⟨ba, 1, none⟩ = some (.int .i64 a.2.1) := HQ.out.a.at 1 _ rfl; have a2 : wr.cell? ⟨ba, 2, none⟩ = some (.int .i64 a.2.2) := HQ.out.a.at 2 _ rfl
          go_upto_region 11 with (fail)
          have HZ2 : Hid (Pz w ⟨bl, ba, bb, br, bo, bp, B⟩ last (some ⟨rb, ro, none⟩) n c a b (wr.alloc (.cells #[.int .i64 a.1, .int .i64 a.2.1, .int .i64 a.2.2] 53)) (uo, up, uq) A1 d1 wr.heap.size [.int .i64 a.1, .int .i64 a.2.1, .int .i64 a.2.2]) := HQ.out.box [.int .i64 a.1, .int .i64 a.2.1, .int .i64 a.2.2] 53
          clear a0 a1 a2 HQ
          generalize (wr.alloc (.cells #[.int .i64 a.1, .int .i64 a.2.1, .int .i64 a.2.2] 53)) = w2 at *
          generalize wr.heap.size = K at *
          have b0 : w2.cell? ⟨bb, 0, none⟩ = some (.int .i64 b.1) := HZ2.out.w.b.at 0 _ rfl; have b1 : w2.cell? ⟨bb, 1, none⟩ = some (.int .i64 b.2.1) := HZ2.out.w.b.at 1 _ rfl; have b2 : w2.cell? ⟨bb, 2, none⟩ = some (.int .i64 b.2.2) := HZ2.out.w.b.at 2 _ rfl
          have k0 := HZ2.out.k.at 0 _ rfl; have k1 := HZ2.out.k.at 1 _ rfl; have k2 := HZ2.out.k.at 2 _ rfl; have f0 := HZ2.out.k.fr 0 (by simp); have f1 := HZ2.out.k.fr 1 (by simp); have f2 := HZ2.out.k.fr 2 (by simp)
          go_upto_region 13 with (fail)
          have HZ3 : Hid (Pz w ⟨bl, ba, bb, br, bo, bp, B⟩ last (some ⟨rb, ro, none⟩) n c a b (((w2.setCell ⟨K, 0, none⟩ (.int .i64 b.1)).setCell ⟨K, 1, none⟩ (.int .i64 b.2.1)).setCell ⟨K, 2, none⟩ (.int .i64 b.2.2)) (uo, up, uq) A1 d1 K [.int .i64 b.1, .int .i64 b.2.1, .int .i64 b.2.2]) := ((HZ2.out.setK 0 (.int .i64 b.1) (by simp)).setK 1 (.int .i64 b.2.1) (by simp)).setK 2 (.int .i64 b.2.2) (by simp)
          clear b0 b1 b2 k0 k1 k2 f0 f1 f2 HZ2
          generalize (((w2.setCell ⟨K, 0, none⟩ (.int .i64 b.1)).setCell ⟨K, 1, none⟩ (.int .i64 b.2.1)).setCell ⟨K, 2, none⟩ (.int .i64 b.2.2)) = w3 at *
          cases uq
          · skip
            have X0 : ∀ p : GrewTo w3, p.to.cell? ⟨bp, 1, none⟩ = some (.bool false) := fun p => (HZ3.out.w.p.keep p.h).at 1 _ rfl
            have X1 : ∀ p : GrewTo w3, p.to.cell? ⟨bl, 1, none⟩ = some (.slice (some ⟨rb, ro, none⟩) n c) := fun p => (HZ3.out.w.l.keep p.h).at 1 _ rfl
            have Y0 : ∀ p : GrewTo w3, p.to.cell? ⟨K, 0, none⟩ = some (.int .i64 b.1) := fun p => (HZ3.out.k.keep p.h).at 0 _ rfl
            have Y1 : ∀ p : GrewTo w3, p.to.cell? ⟨K, 1, none⟩ = some (.int .i64 b.2.1) := fun p => (HZ3.out.k.keep p.h).at 1 _ rfl
            have Y2 : ∀ p : GrewTo w3, p.to.cell? ⟨K, 2, none⟩ = some (.int .i64 b.2.2) := fun p => (HZ3.out.k.keep p.h).at 2 _ rfl
            have R0 : ∀ p : GrewTo w3, p.to.cell? ⟨rb, ro + j * 4, none⟩ = some (.int .i64 z1) := fun p => (HR.out _ (grew_trans HZ3.out.w.g p.h)).1
            have R1 : ∀ p : GrewTo w3, p.to.cell? ⟨rb, ro + j * 4 + 1, none⟩ = some (.int .i64 z2) := fun p => (HR.out _ (grew_trans HZ3.out.w.g p.h)).2.1
            have R2 : ∀ p : GrewTo w3, p.to.cell? ⟨rb, ro + j * 4 + 2, none⟩ = some (.int .i64 z3) := fun p => (HR.out _ (grew_trans HZ3.out.w.g p.h)).2.2.1
            have CX := fun w' (g : Grew w3 w') => less16_any b.1 b.2.1 b.2.2 z1 z2 z3 w'
            have HLE : Hid (aheadPd b (some (z1, z2, z3)) = lessA b.1 b.2.1 b.2.2 z1 z2 z3) := rfl
            generalize lessA b.1 b.2.1 b.2.2 z1 z2 z3 = le at *
            cases le
            · skip
              go_wp2_with fail
              refine wp_region_grew (by kernel_rfl) (by kernel_rfl) ?_
              repeat (go_big_quiet_step (with_reducible exact calls_every CX))
              refine wpQuiet_nil ?_
              intro w5 hw'
              have HG5 := Lib.hid (grew_of hw')
              clear hw'
              clear X0 X1 Y0 Y1 Y2 R0 R1 R2 CX
              have HP5 : Hid (Pw w ⟨bl, ba, bb, br, bo, bp, B⟩ last (some ⟨rb, ro, none⟩) n c a b w5 (uo, up, false) A1 d1) := (HZ3.out.keep HG5.out).w
              clear HZ3 HG5
              go_wp2
              go_roundw
              case rel => exact .inr (.inr ⟨by go_num, A1, d1, (by rw [HE.out.trans (put2_no b x (some (z1, z2, z3)) uo up HLE.out)]; exact HP5.out)⟩)
              case measure => simp only [intOf]; omega
            · skip
              go_wp2_with fail
              refine wp_region_grew (by kernel_rfl) (by kernel_rfl) ?_
              repeat (go_big_quiet_step (with_reducible exact calls_every CX))
              refine wpQuiet_nil ?_
              intro w5 hw'
              have HG5 := Lib.hid (grew_of hw')
              clear hw'
              clear X0 X1 Y0 Y1 Y2 R0 R1 R2 CX
              have HZ5 : Hid (Pz w ⟨bl, ba, bb, br, bo, bp, B⟩ last (some ⟨rb, ro, none⟩) n c a b w5 (uo, up, false) A1 d1 K [.int .i64 b.1, .int .i64 b.2.1, .int .i64 b.2.2]) := HZ3.out.keep HG5.out
              clear HZ3 HG5
              have p0 : w5.cell? ⟨bp, 1, none⟩ = some (.bool false) := HZ5.out.w.p.at 1 _ rfl; have p1 : w5.frozen? ⟨bp, 1, none⟩ = false := HZ5.out.w.p.fr 1 (by simp)
              go_upto_region 15 with (fail)
              have HZ6 : Hid (Pz w ⟨bl, ba, bb, br, bo, bp, B⟩ last (some ⟨rb, ro, none⟩) n c a b (w5.setCell ⟨bp, 1, none⟩ (.bool true)) (uo, up, true) A1 d1 K [.int .i64 b.1, .int .i64 b.2.1, .int .i64 b.2.2]) := HZ5.out.set1
              clear p0 p1 HZ5
              generalize (w5.setCell ⟨bp, 1, none⟩ (.bool true)) = w6 at *
              have o1 : w6.cell? ⟨bo, 1, none⟩ = some (.slice A1 uo.length d1) := HZ6.out.w.o.at 1 _ rfl
              have k0 := HZ6.out.k.at 0 _ rfl; have k1 := HZ6.out.k.at 1 _ rfl; have k2 := HZ6.out.k.at 2 _ rfl
              have HBO := Lib.hid HZ6.out.w.ok
              have HOW : Hid (OwnE enLg (w6.alloc (.cells #[.int .i64 b.1, .int .i64 b.2.1, .int .i64 b.2.2, .int .i64 (x)] 119)) B 119 (.slice A1 uo.length d1) uo) := HZ6.out.w.v.keep (grew_alloc _ _ _)
              have HON : Hid (RowE enLg (w6.alloc (.cells #[.int .i64 b.1, .int .i64 b.2.1, .int .i64 b.2.2, .int .i64 (x)] 119)) (some ⟨w6.heap.size, 0, none⟩) 1 [(b, x)]) := RowE.one enLg w6 (b, x) 119 _ rfl
              have HOS : Hid (B ≤ (w6.alloc (.cells #[.int .i64 b.1, .int .i64 b.2.1, .int .i64 b.2.2, .int .i64 (x)] 119)).heap.size) := Nat.le_trans HZ6.out.w.sz (grew_size (grew_alloc _ _ _))
              have HOL : Hid (uo.length ≤ 4000) := Nat.le_trans HTL.out (by decide)
              go_upto_region 9 with (at_builtin; refine (wpList_append_E rfl _ _ 33 119 (legV 0 0 0 0) 32 rfl Tryz.underlying33 info_bal rfl B _ uo rfl HOW.out (some ⟨w6.heap.size, 0, none⟩) 1 1 [(b, x)] rfl (by intro h; cases h) HON.out (by have := HOL.out; unfold maxLen; omega) (by have := HOL.out; omega) HOS.out ?_); intro v' w7 ho hb; obtain ⟨A7, d7, rfl, -⟩ := ho.form; rw [List.length_append, List.length_singleton] at ho; have HO7 := Lib.hid ho; have HB7 := Lib.hid hb; have HX7 := Lib.hid ((HZ6.out.w.o.keep (grew_alloc w6 #[.int .i64 b.1, .int .i64 b.2.1, .int .i64 b.2.2, .int .i64 (x)] 119)).below hb (by have := HBO.out; unfold PdB.ok at this; dsimp only at this ⊢; omega)); have o2 : w7.cell? ⟨bo, 1, none⟩ = some (.slice A1 uo.length d1) := HX7.out.at 1 _ rfl; have o3 : w7.frozen? ⟨bo, 1, none⟩ = false := HX7.out.fr 1 (by show 1 < 2; omega); clear ho hb o1 k0 k1 k2 HOW HON HOS HOL)
              have HP7 : Hid (Pw w ⟨bl, ba, bb, br, bo, bp, B⟩ last (some ⟨rb, ro, none⟩) n c a b (w7.setCell ⟨bo, 1, none⟩ (.slice A7 (uo.length + 1) d7)) (uo ++ [(b, x)], up, true) A7 d7) := (HZ6.out.w.keep (grew_alloc w6 #[.int .i64 b.1, .int .i64 b.2.1, .int .i64 b.2.2, .int .i64 (x)] 119)).app HB7.out HO7.out rfl
              clear HO7 HB7 HX7 HZ6 o2 o3 HBO
              generalize (w7.setCell ⟨bo, 1, none⟩ (.slice A7 (uo.length + 1) d7)) = w8 at *
              go_wp2
              go_roundw
              case rel => exact .inr (.inr ⟨by go_num, A7, d7, (by rw [HE.out.trans (put2_yes b x (some (z1, z2, z3)) uo up HLE.out)]; exact HP7.out)⟩)
              case measure => simp only [intOf]; omega
          · skip
            have X0 : ∀ p : GrewTo w3, p.to.cell? ⟨bp, 1, none⟩ = some (.bool true) := fun p => (HZ3.out.w.p.keep p.h).at 1 _ rfl
            go_wp2_with fail
            refine wp_region_grew (by kernel_rfl) (by kernel_rfl) ?_
            repeat (go_big_quiet_step (fail))
            refine wpQuiet_nil ?_
            intro w5 hw'
            have HG5 := Lib.hid (grew_of hw')
            clear hw'
            clear X0
            have HP5 : Hid (Pw w ⟨bl, ba, bb, br, bo, bp, B⟩ last (some ⟨rb, ro, none⟩) n c a b w5 (uo, up, true) A1 d1) := (HZ3.out.keep HG5.out).w
            clear HZ3 HG5
            go_wp2
            go_roundw
            case rel => exact .inr (.inr ⟨by go_num, A1, d1, (by rw [HE.out.trans (put2_done b x (some (z1, z2, z3)) uo up)]; exact HP5.out)⟩)
            case measure => simp only [intOf]; omega
        · skip
          have hlen := put_len a b x (some (z1, z2, z3)) (so, sp, sq)
          have HS2 : Hid (runPd a b x (l.take (j + 1)) = addPd a b x ((z1, z2, z3), zv) (putPd a b x (some (z1, z2, z3)) (so, sp, sq))) := HS.out
          clear HS
          generalize putPd a b x (some (z1, z2, z3)) (so, sp, sq) = s2 at *
          obtain ⟨uo, up, uq⟩ := s2
          have HTL : Hid (uo.length ≤ 4000) := by have := HRL.out; dsimp only at hlen this ⊢; show _ ≤ _; omega
          clear hlen HRL
          rw [add_eq] at HS2
          have l1 : wr.cell? ⟨bl, 1, none⟩ = some (.slice (some ⟨rb, ro, none⟩) n c) := HQ.out.l.at 1 _ rfl
          obtain ⟨r0, r1, r2, r3⟩ := HR.out wr HQ.out.g
          go_upto_region 18 with (fail)
          have HZ : Hid (Pz w ⟨bl, ba, bb, br, bo, bp, B⟩ last (some ⟨rb, ro, none⟩) n c a b (wr.alloc (.cells #[.int .i64 z1, .int .i64 z2, .int .i64 z3, .int .i64 zv] 119)) (uo, up, uq) A1 d1 wr.heap.size [.int .i64 z1, .int .i64 z2, .int .i64 z3, .int .i64 zv]) := HQ.out.box [.int .i64 z1, .int .i64 z2, .int .i64 z3, .int .i64 zv] 119
          clear l1 r0 r1 r2 r3 HQ HR
          generalize (wr.alloc (.cells #[.int .i64 z1, .int .i64 z2, .int .i64 z3, .int .i64 zv] 119)) = w3 at *
          generalize wr.heap.size = K at *
          cases up
          · have CA := fun w => keepAcct_any z1 z2 z3 a.1 a.2.1 a.2.2 w
            rw [same_eq] at CA
            unfold acV at CA
            have p0 : w3.cell? ⟨bp, 0, none⟩ = some (.bool false) := HZ.out.w.p.at 0 _ rfl
            have k0 := HZ.out.k.at 0 _ rfl; have k1 := HZ.out.k.at 1 _ rfl; have k2 := HZ.out.k.at 2 _ rfl
            have q0 : w3.cell? ⟨ba, 0, none⟩ = some (.int .i64 a.1) := HZ.out.w.a.at 0 _ rfl; have q1 : w3.cell? ⟨ba, 1, none⟩ = some (.int .i64 a.2.1) := HZ.out.w.a.at 1 _ rfl; have q2 : w3.cell? ⟨ba, 2, none⟩ = some (.int .i64 a.2.2) := HZ.out.w.a.at 2 _ rfl
            by_cases hs : ((z1, z2, z3) : Ac) = a
            · rw [decide_eq_true hs] at CA
              rw [add1_yes _ _ _ _ hs] at HS2
              clear hs
              have hw1 : IntKind.i64.wrap (zv + -x) = zv + -x := by have := HZB.out; have := HXB.out; rw [IntKind.wrap_i64]; omega
              go_upto_region 21 with (go_at_call 54; ((with_reducible refine (CA _).mono ?_); rintro e w4 ⟨rfl, hg⟩; have HZb := Lib.hid (HZ.out.keep hg); clear hg CA p0 k0 k1 k2 q0 q1 q2 HZ; have p0 : w4.cell? ⟨bp, 0, none⟩ = some (.bool false) := HZb.out.w.p.at 0 _ rfl; have p1 : w4.frozen? ⟨bp, 0, none⟩ = false := HZb.out.w.p.fr 0 (by simp); have k3 := HZb.out.k.at 3 _ rfl; have f3 := HZb.out.k.fr 3 (by simp)))
              have HZn : Hid (Pz w ⟨bl, ba, bb, br, bo, bp, B⟩ last (some ⟨rb, ro, none⟩) n c a b ((w4.setCell ⟨bp, 0, none⟩ (.bool true)).setCell ⟨K, 3, none⟩ (.int .i64 (zv + -x))) (uo, true, uq) A1 d1 K [.int .i64 z1, .int .i64 z2, .int .i64 z3, .int .i64 (zv + -x)]) := HZb.out.set0.setK 3 _ (by simp)
              clear p0 p1 k3 f3 hw1 HZb
              generalize ((w4.setCell ⟨bp, 0, none⟩ (.bool true)).setCell ⟨K, 3, none⟩ (.int .i64 (zv + -x))) = w5 at *
              have HYa : Hid (-4611686018427387904 - 1152921504606846976 ≤ zv + -x ∧ zv + -x ≤ 4611686018427387904 + 1152921504606846976) := (by have := HZB.out; have := HXB.out; show _ ≤ _ ∧ _ ≤ _; omega)
              generalize zv + -x = ya at *
              have HZB := HYa
              cases uq
              · have CA := fun w => keepAcct_any z1 z2 z3 b.1 b.2.1 b.2.2 w
                rw [same_eq] at CA
                unfold acV at CA
                have p0 : w5.cell? ⟨bp, 1, none⟩ = some (.bool false) := HZn.out.w.p.at 1 _ rfl
                have k0 := HZn.out.k.at 0 _ rfl; have k1 := HZn.out.k.at 1 _ rfl; have k2 := HZn.out.k.at 2 _ rfl
                have q0 : w5.cell? ⟨bb, 0, none⟩ = some (.int .i64 b.1) := HZn.out.w.b.at 0 _ rfl; have q1 : w5.cell? ⟨bb, 1, none⟩ = some (.int .i64 b.2.1) := HZn.out.w.b.at 1 _ rfl; have q2 : w5.cell? ⟨bb, 2, none⟩ = some (.int .i64 b.2.2) := HZn.out.w.b.at 2 _ rfl
                by_cases hs : ((z1, z2, z3) : Ac) = b
                · rw [decide_eq_true hs] at CA
                  rw [add1_yes _ _ _ _ hs] at HS2
                  clear hs
                  have hw1 : IntKind.i64.wrap (ya + x) = ya + x := by have := HZB.out; have := HXB.out; rw [IntKind.wrap_i64]; omega
                  go_upto_region 24 with (go_at_call 54; ((with_reducible refine (CA _).mono ?_); rintro e w6 ⟨rfl, hg⟩; have HZnb := Lib.hid (HZn.out.keep hg); clear hg CA p0 k0 k1 k2 q0 q1 q2 HZn; have p0 : w6.cell? ⟨bp, 1, none⟩ = some (.bool false) := HZnb.out.w.p.at 1 _ rfl; have p1 : w6.frozen? ⟨bp, 1, none⟩ = false := HZnb.out.w.p.fr 1 (by simp); have k3 := HZnb.out.k.at 3 _ rfl; have f3 := HZnb.out.k.fr 3 (by simp)))
                  have HZnn : Hid (Pz w ⟨bl, ba, bb, br, bo, bp, B⟩ last (some ⟨rb, ro, none⟩) n c a b ((w6.setCell ⟨bp, 1, none⟩ (.bool true)).setCell ⟨K, 3, none⟩ (.int .i64 (ya + x))) (uo, true, true) A1 d1 K [.int .i64 z1, .int .i64 z2, .int .i64 z3, .int .i64 (ya + x)]) := HZnb.out.set1.setK 3 _ (by simp)
                  clear p0 p1 k3 f3 hw1 HZnb
                  generalize ((w6.setCell ⟨bp, 1, none⟩ (.bool true)).setCell ⟨K, 3, none⟩ (.int .i64 (ya + x))) = w9 at *
                  generalize ya + x = yb at *
                  have k3 : w9.cell? ⟨K, 3, none⟩ = some (.int .i64 yb) := HZnn.out.k.at 3 _ rfl
                  by_cases hy0 : yb = 0
                  · have HP8 : Hid (Pw w ⟨bl, ba, bb, br, bo, bp, B⟩ last (some ⟨rb, ro, none⟩) n c a b w9 (uo, true, true) A1 d1) := HZnn.out.w
                    rw [if_pos hy0] at HS2
                    go_wp2
                    go_roundw
                    case rel => exact ⟨j + 1, by go_num, by omega, A1, d1, by rw [HS2.out]; exact HP8.out⟩
                    case measure => simp only [intOf]; omega
                  · rw [if_neg hy0] at HS2
                    have k0 := HZnn.out.k.at 0 _ rfl; have k1 := HZnn.out.k.at 1 _ rfl; have k2 := HZnn.out.k.at 2 _ rfl
                    have o1 : w9.cell? ⟨bo, 1, none⟩ = some (.slice A1 uo.length d1) := HZnn.out.w.o.at 1 _ rfl
                    have HBO := Lib.hid HZnn.out.w.ok
                    have HOW : Hid (OwnE enLg (w9.alloc (.cells #[.int .i64 z1, .int .i64 z2, .int .i64 z3, .int .i64 yb] 119)) B 119 (.slice A1 uo.length d1) uo) := HZnn.out.w.v.keep (grew_alloc _ _ _)
                    have HON : Hid (RowE enLg (w9.alloc (.cells #[.int .i64 z1, .int .i64 z2, .int .i64 z3, .int .i64 yb] 119)) (some ⟨w9.heap.size, 0, none⟩) 1 [((z1, z2, z3), yb)]) := RowE.one enLg w9 ((z1, z2, z3), yb) 119 _ rfl
                    have HOS : Hid (B ≤ (w9.alloc (.cells #[.int .i64 z1, .int .i64 z2, .int .i64 z3, .int .i64 yb] 119)).heap.size) := Nat.le_trans HZnn.out.w.sz (grew_size (grew_alloc _ _ _))
                    go_upto_region 6 with (at_builtin; refine (wpList_append_E rfl _ _ 33 119 (legV 0 0 0 0) 32 rfl Tryz.underlying33 info_bal rfl B _ uo rfl HOW.out (some ⟨w9.heap.size, 0, none⟩) 1 1 [((z1, z2, z3), yb)] rfl (by intro h; cases h) HON.out (by have := HTL.out; unfold maxLen; omega) (by have := HTL.out; omega) HOS.out ?_); intro v' w7 ho hb; obtain ⟨A7, d7, rfl, -⟩ := ho.form; rw [List.length_append, List.length_singleton] at ho; have HO7 := Lib.hid ho; have HB7 := Lib.hid hb; have HX7 := Lib.hid ((HZnn.out.w.o.keep (grew_alloc w9 #[.int .i64 z1, .int .i64 z2, .int .i64 z3, .int .i64 yb] 119)).below hb (by have := HBO.out; unfold PdB.ok at this; dsimp only at this ⊢; omega)); have o2 : w7.cell? ⟨bo, 1, none⟩ = some (.slice A1 uo.length d1) := HX7.out.at 1 _ rfl; have o3 : w7.frozen? ⟨bo, 1, none⟩ = false := HX7.out.fr 1 (by show 1 < 2; omega); clear ho hb o1 k0 k1 k2 k3 HOW HON HOS)
                    have HP7 : Hid (Pw w ⟨bl, ba, bb, br, bo, bp, B⟩ last (some ⟨rb, ro, none⟩) n c a b (w7.setCell ⟨bo, 1, none⟩ (.slice A7 (uo.length + 1) d7)) (uo ++ [((z1, z2, z3), yb)], true, true) A7 d7) := (HZnn.out.w.keep (grew_alloc w9 #[.int .i64 z1, .int .i64 z2, .int .i64 z3, .int .i64 yb] 119)).app HB7.out HO7.out rfl
                    clear HO7 HB7 HX7 HZnn o2 o3 HBO
                    generalize (w7.setCell ⟨bo, 1, none⟩ (.slice A7 (uo.length + 1) d7)) = w8 at *
                    go_wp2
                    go_roundw
                    case rel => exact ⟨j + 1, by go_num, by omega, A7, d7, by rw [HS2.out]; exact HP7.out⟩
                    case measure => simp only [intOf]; omega
                · rw [decide_eq_false hs] at CA
                  rw [add1_no _ _ _ _ hs] at HS2
                  clear hs
                  go_upto_region 24 with (go_at_call 54; ((with_reducible refine (CA _).mono ?_); rintro e w6 ⟨rfl, hg⟩; have HZnn := Lib.hid (HZn.out.keep hg); clear hg CA p0 k0 k1 k2 q0 q1 q2 HZn))
                  have k3 : w6.cell? ⟨K, 3, none⟩ = some (.int .i64 ya) := HZnn.out.k.at 3 _ rfl
                  by_cases hy0 : ya = 0
                  · have HP8 : Hid (Pw w ⟨bl, ba, bb, br, bo, bp, B⟩ last (some ⟨rb, ro, none⟩) n c a b w6 (uo, true, false) A1 d1) := HZnn.out.w
                    rw [if_pos hy0] at HS2
                    go_wp2
                    go_roundw
                    case rel => exact ⟨j + 1, by go_num, by omega, A1, d1, by rw [HS2.out]; exact HP8.out⟩
                    case measure => simp only [intOf]; omega
                  · rw [if_neg hy0] at HS2
                    have k0 := HZnn.out.k.at 0 _ rfl; have k1 := HZnn.out.k.at 1 _ rfl; have k2 := HZnn.out.k.at 2 _ rfl
                    have o1 : w6.cell? ⟨bo, 1, none⟩ = some (.slice A1 uo.length d1) := HZnn.out.w.o.at 1 _ rfl
                    have HBO := Lib.hid HZnn.out.w.ok
                    have HOW : Hid (OwnE enLg (w6.alloc (.cells #[.int .i64 z1, .int .i64 z2, .int .i64 z3, .int .i64 ya] 119)) B 119 (.slice A1 uo.length d1) uo) := HZnn.out.w.v.keep (grew_alloc _ _ _)
                    have HON : Hid (RowE enLg (w6.alloc (.cells #[.int .i64 z1, .int .i64 z2, .int .i64 z3, .int .i64 ya] 119)) (some ⟨w6.heap.size, 0, none⟩) 1 [((z1, z2, z3), ya)]) := RowE.one enLg w6 ((z1, z2, z3), ya) 119 _ rfl
                    have HOS : Hid (B ≤ (w6.alloc (.cells #[.int .i64 z1, .int .i64 z2, .int .i64 z3, .int .i64 ya] 119)).heap.size) := Nat.le_trans HZnn.out.w.sz (grew_size (grew_alloc _ _ _))
                    go_upto_region 6 with (at_builtin; refine (wpList_append_E rfl _ _ 33 119 (legV 0 0 0 0) 32 rfl Tryz.underlying33 info_bal rfl B _ uo rfl HOW.out (some ⟨w6.heap.size, 0, none⟩) 1 1 [((z1, z2, z3), ya)] rfl (by intro h; cases h) HON.out (by have := HTL.out; unfold maxLen; omega) (by have := HTL.out; omega) HOS.out ?_); intro v' w7 ho hb; obtain ⟨A7, d7, rfl, -⟩ := ho.form; rw [List.length_append, List.length_singleton] at ho; have HO7 := Lib.hid ho; have HB7 := Lib.hid hb; have HX7 := Lib.hid ((HZnn.out.w.o.keep (grew_alloc w6 #[.int .i64 z1, .int .i64 z2, .int .i64 z3, .int .i64 ya] 119)).below hb (by have := HBO.out; unfold PdB.ok at this; dsimp only at this ⊢; omega)); have o2 : w7.cell? ⟨bo, 1, none⟩ = some (.slice A1 uo.length d1) := HX7.out.at 1 _ rfl; have o3 : w7.frozen? ⟨bo, 1, none⟩ = false := HX7.out.fr 1 (by show 1 < 2; omega); clear ho hb o1 k0 k1 k2 k3 HOW HON HOS)
                    have HP7 : Hid (Pw w ⟨bl, ba, bb, br, bo, bp, B⟩ last (some ⟨rb, ro, none⟩) n c a b (w7.setCell ⟨bo, 1, none⟩ (.slice A7 (uo.length + 1) d7)) (uo ++ [((z1, z2, z3), ya)], true, false) A7 d7) := (HZnn.out.w.keep (grew_alloc w6 #[.int .i64 z1, .int .i64 z2, .int .i64 z3, .int .i64 ya] 119)).app HB7.out HO7.out rfl
                    clear HO7 HB7 HX7 HZnn o2 o3 HBO
                    generalize (w7.setCell ⟨bo, 1, none⟩ (.slice A7 (uo.length + 1) d7)) = w8 at *
                    go_wp2
                    go_roundw
                    case rel => exact ⟨j + 1, by go_num, by omega, A7, d7, by rw [HS2.out]; exact HP7.out⟩
                    case measure => simp only [intOf]; omega
              · rw [add1_done] at HS2
                have p0 : w5.cell? ⟨bp, 1, none⟩ = some (.bool true) := HZn.out.w.p.at 1 _ rfl
                go_upto_region 24 with (fail)
                clear p0
                have k3 : w5.cell? ⟨K, 3, none⟩ = some (.int .i64 ya) := HZn.out.k.at 3 _ rfl
                by_cases hy0 : ya = 0
                · have HP8 : Hid (Pw w ⟨bl, ba, bb, br, bo, bp, B⟩ last (some ⟨rb, ro, none⟩) n c a b w5 (uo, true, true) A1 d1) := HZn.out.w
                  rw [if_pos hy0] at HS2
                  go_wp2
                  go_roundw
                  case rel => exact ⟨j + 1, by go_num, by omega, A1, d1, by rw [HS2.out]; exact HP8.out⟩
                  case measure => simp only [intOf]; omega
                · rw [if_neg hy0] at HS2
                  have k0 := HZn.out.k.at 0 _ rfl; have k1 := HZn.out.k.at 1 _ rfl; have k2 := HZn.out.k.at 2 _ rfl
                  have o1 : w5.cell? ⟨bo, 1, none⟩ = some (.slice A1 uo.length d1) := HZn.out.w.o.at 1 _ rfl
                  have HBO := Lib.hid HZn.out.w.ok
                  have HOW : Hid (OwnE enLg (w5.alloc (.cells #[.int .i64 z1, .int .i64 z2, .int .i64 z3, .int .i64 ya] 119)) B 119 (.slice A1 uo.length d1) uo) := HZn.out.w.v.keep (grew_alloc _ _ _)
                  have HON : Hid (RowE enLg (w5.alloc (.cells #[.int .i64 z1, .int .i64 z2, .int .i64 z3, .int .i64 ya] 119)) (some ⟨w5.heap.size, 0, none⟩) 1 [((z1, z2, z3), ya)]) := RowE.one enLg w5 ((z1, z2, z3), ya) 119 _ rfl
                  have HOS : Hid (B ≤ (w5.alloc (.cells #[.int .i64 z1, .int .i64 z2, .int .i64 z3, .int .i64 ya] 119)).heap.size) := Nat.le_trans HZn.out.w.sz (grew_size (grew_alloc _ _ _))
                  go_upto_region 6 with (at_builtin; refine (wpList_append_E rfl _ _ 33 119 (legV 0 0 0 0) 32 rfl Tryz.underlying33 info_bal rfl B _ uo rfl HOW.out (some ⟨w5.heap.size, 0, none⟩) 1 1 [((z1, z2, z3), ya)] rfl (by intro h; cases h) HON.out (by have := HTL.out; unfold maxLen; omega) (by have := HTL.out; omega) HOS.out ?_); intro v' w7 ho hb; obtain ⟨A7, d7, rfl, -⟩ := ho.form; rw [List.length_append, List.length_singleton] at ho; have HO7 := Lib.hid ho; have HB7 := Lib.hid hb; have HX7 := Lib.hid ((HZn.out.w.o.keep (grew_alloc w5 #[.int .i64 z1, .int .i64 z2, .int .i64 z3, .int .i64 ya] 119)).below hb (by have := HBO.out; unfold PdB.ok at this; dsimp only at this ⊢; omega)); have o2 : w7.cell? ⟨bo, 1, none⟩ = some (.slice A1 uo.length d1) := HX7.out.at 1 _ rfl; have o3 : w7.frozen? ⟨bo, 1, none⟩ = false := HX7.out.fr 1 (by show 1 < 2; omega); clear ho hb o1 k0 k1 k2 k3 HOW HON HOS)
                  have HP7 : Hid (Pw w ⟨bl, ba, bb, br, bo, bp, B⟩ last (some ⟨rb, ro, none⟩) n c a b (w7.setCell ⟨bo, 1, none⟩ (.slice A7 (uo.length + 1) d7)) (uo ++ [((z1, z2, z3), ya)], true, true) A7 d7) := (HZn.out.w.keep (grew_alloc w5 #[.int .i64 z1, .int .i64 z2, .int .i64 z3, .int .i64 ya] 119)).app HB7.out HO7.out rfl
                  clear HO7 HB7 HX7 HZn o2 o3 HBO
                  generalize (w7.setCell ⟨bo, 1, none⟩ (.slice A7 (uo.length + 1) d7)) = w8 at *
                  go_wp2
                  go_roundw
                  case rel => exact ⟨j + 1, by go_num, by omega, A7, d7, by rw [HS2.out]; exact HP7.out⟩
                  case measure => simp only [intOf]; omega
            · rw [decide_eq_false hs] at CA
              rw [add1_no _ _ _ _ hs] at HS2
              clear hs
              go_upto_region 21 with (go_at_call 54; ((with_reducible refine (CA _).mono ?_); rintro e w4 ⟨rfl, hg⟩; have HZn := Lib.hid (HZ.out.keep hg); clear hg CA p0 k0 k1 k2 q0 q1 q2 HZ))
              cases uq
              · have CA := fun w => keepAcct_any z1 z2 z3 b.1 b.2.1 b.2.2 w
                rw [same_eq] at CA
                unfold acV at CA
                have p0 : w4.cell? ⟨bp, 1, none⟩ = some (.bool false) := HZn.out.w.p.at 1 _ rfl
                have k0 := HZn.out.k.at 0 _ rfl; have k1 := HZn.out.k.at 1 _ rfl; have k2 := HZn.out.k.at 2 _ rfl
                have q0 : w4.cell? ⟨bb, 0, none⟩ = some (.int .i64 b.1) := HZn.out.w.b.at 0 _ rfl; have q1 : w4.cell? ⟨bb, 1, none⟩ = some (.int .i64 b.2.1) := HZn.out.w.b.at 1 _ rfl; have q2 : w4.cell? ⟨bb, 2, none⟩ = some (.int .i64 b.2.2) := HZn.out.w.b.at 2 _ rfl
                by_cases hs : ((z1, z2, z3) : Ac) = b
                · rw [decide_eq_true hs] at CA
                  rw [add1_yes _ _ _ _ hs] at HS2
                  clear hs
                  have hw1 : IntKind.i64.wrap (zv + x) = zv + x := by have := HZB.out; have := HXB.out; rw [IntKind.wrap_i64]; omega
                  go_upto_region 24 with (go_at_call 54; ((with_reducible refine (CA _).mono ?_); rintro e w6 ⟨rfl, hg⟩; have HZnb := Lib.hid (HZn.out.keep hg); clear hg CA p0 k0 k1 k2 q0 q1 q2 HZn; have p0 : w6.cell? ⟨bp, 1, none⟩ = some (.bool false) := HZnb.out.w.p.at 1 _ rfl; have p1 : w6.frozen? ⟨bp, 1, none⟩ = false := HZnb.out.w.p.fr 1 (by simp); have k3 := HZnb.out.k.at 3 _ rfl; have f3 := HZnb.out.k.fr 3 (by simp)))
                  have HZnn : Hid (Pz w ⟨bl, ba, bb, br, bo, bp, B⟩ last (some ⟨rb, ro, none⟩) n c a b ((w6.setCell ⟨bp, 1, none⟩ (.bool true)).setCell ⟨K, 3, none⟩ (.int .i64 (zv + x))) (uo, false, true) A1 d1 K [.int .i64 z1, .int .i64 z2, .int .i64 z3, .int .i64 (zv + x)]) := HZnb.out.set1.setK 3 _ (by simp)
                  clear p0 p1 k3 f3 hw1 HZnb
                  generalize ((w6.setCell ⟨bp, 1, none⟩ (.bool true)).setCell ⟨K, 3, none⟩ (.int .i64 (zv + x))) = w9 at *
                  generalize zv + x = yb at *
                  have k3 : w9.cell? ⟨K, 3, none⟩ = some (.int .i64 yb) := HZnn.out.k.at 3 _ rfl
                  by_cases hy0 : yb = 0
                  · have HP8 : Hid (Pw w ⟨bl, ba, bb, br, bo, bp, B⟩ last (some ⟨rb, ro, none⟩) n c a b w9 (uo, false, true) A1 d1) := HZnn.out.w
                    rw [if_pos hy0] at HS2
                    go_wp2
                    go_roundw
                    case rel => exact ⟨j + 1, by go_num, by omega, A1, d1, by rw [HS2.out]; exact HP8.out⟩
                    case measure => simp only [intOf]; omega
                  · rw [if_neg hy0] at HS2
                    have k0 := HZnn.out.k.at 0 _ rfl; have k1 := HZnn.out.k.at 1 _ rfl; have k2 := HZnn.out.k.at 2 _ rfl
                    have o1 : w9.cell? ⟨bo, 1, none⟩ = some (.slice A1 uo.length d1) := HZnn.out.w.o.at 1 _ rfl
                    have HBO := Lib.hid HZnn.out.w.ok
                    have HOW : Hid (OwnE enLg (w9.alloc (.cells #[.int .i64 z1, .int .i64 z2, .int .i64 z3, .int .i64 yb] 119)) B 119 (.slice A1 uo.length d1) uo) := HZnn.out.w.v.keep (grew_alloc _ _ _)
                    have HON : Hid (RowE enLg (w9.alloc (.cells #[.int .i64 z1, .int .i64 z2, .int .i64 z3, .int .i64 yb] 119)) (some ⟨w9.heap.size, 0, none⟩) 1 [((z1, z2, z3), yb)]) := RowE.one enLg w9 ((z1, z2, z3), yb) 119 _ rfl
                    have HOS : Hid (B ≤ (w9.alloc (.cells #[.int .i64 z1, .int .i64 z2, .int .i64 z3, .int .i64 yb] 119)).heap.size) := Nat.le_trans HZnn.out.w.sz (grew_size (grew_alloc _ _ _))
                    go_upto_region 6 with (at_builtin; refine (wpList_append_E rfl _ _ 33 119 (legV 0 0 0 0) 32 rfl Tryz.underlying33 info_bal rfl B _ uo rfl HOW.out (some ⟨w9.heap.size, 0, none⟩) 1 1 [((z1, z2, z3), yb)] rfl (by intro h; cases h) HON.out (by have := HTL.out; unfold maxLen; omega) (by have := HTL.out; omega) HOS.out ?_); intro v' w7 ho hb; obtain ⟨A7, d7, rfl, -⟩ := ho.form; rw [List.length_append, List.length_singleton] at ho; have HO7 := Lib.hid ho; have HB7 := Lib.hid hb; have HX7 := Lib.hid ((HZnn.out.w.o.keep (grew_alloc w9 #[.int .i64 z1, .int .i64 z2, .int .i64 z3, .int .i64 yb] 119)).below hb (by have := HBO.out; unfold PdB.ok at this; dsimp only at this ⊢; omega)); have o2 : w7.cell? ⟨bo, 1, none⟩ = some (.slice A1 uo.length d1) := HX7.out.at 1 _ rfl; have o3 : w7.frozen? ⟨bo, 1, none⟩ = false := HX7.out.fr 1 (by show 1 < 2; omega); clear ho hb o1 k0 k1 k2 k3 HOW HON HOS)
                    have HP7 : Hid (Pw w ⟨bl, ba, bb, br, bo, bp, B⟩ last (some ⟨rb, ro, none⟩) n c a b (w7.setCell ⟨bo, 1, none⟩ (.slice A7 (uo.length + 1) d7)) (uo ++ [((z1, z2, z3), yb)], false, true) A7 d7) := (HZnn.out.w.keep (grew_alloc w9 #[.int .i64 z1, .int .i64 z2, .int .i64 z3, .int .i64 yb] 119)).app HB7.out HO7.out rfl
                    clear HO7 HB7 HX7 HZnn o2 o3 HBO
                    generalize (w7.setCell ⟨bo, 1, none⟩ (.slice A7 (uo.length + 1) d7)) = w8 at *
                    go_wp2
                    go_roundw
                    case rel => exact ⟨j + 1, by go_num, by omega, A7, d7, by rw [HS2.out]; exact HP7.out⟩
                    case measure => simp only [intOf]; omega
                · rw [decide_eq_false hs] at CA
                  rw [add1_no _ _ _ _ hs] at HS2
                  clear hs
                  go_upto_region 24 with (go_at_call 54; ((with_reducible refine (CA _).mono ?_); rintro e w6 ⟨rfl, hg⟩; have HZnn := Lib.hid (HZn.out.keep hg); clear hg CA p0 k0 k1 k2 q0 q1 q2 HZn))
                  have k3 : w6.cell? ⟨K, 3, none⟩ = some (.int .i64 zv) := HZnn.out.k.at 3 _ rfl
                  by_cases hy0 : zv = 0
                  · have HP8 : Hid (Pw w ⟨bl, ba, bb, br, bo, bp, B⟩ last (some ⟨rb, ro, none⟩) n c a b w6 (uo, false, false) A1 d1) := HZnn.out.w
                    rw [if_pos hy0] at HS2
                    go_wp2
                    go_roundw
                    case rel => exact ⟨j + 1, by go_num, by omega, A1, d1, by rw [HS2.out]; exact HP8.out⟩
                    case measure => simp only [intOf]; omega
                  · rw [if_neg hy0] at HS2
                    have k0 := HZnn.out.k.at 0 _ rfl; have k1 := HZnn.out.k.at 1 _ rfl; have k2 := HZnn.out.k.at 2 _ rfl
                    have o1 : w6.cell? ⟨bo, 1, none⟩ = some (.slice A1 uo.length d1) := HZnn.out.w.o.at 1 _ rfl
                    have HBO := Lib.hid HZnn.out.w.ok
                    have HOW : Hid (OwnE enLg (w6.alloc (.cells #[.int .i64 z1, .int .i64 z2, .int .i64 z3, .int .i64 zv] 119)) B 119 (.slice A1 uo.length d1) uo) := HZnn.out.w.v.keep (grew_alloc _ _ _)
                    have HON : Hid (RowE enLg (w6.alloc (.cells #[.int .i64 z1, .int .i64 z2, .int .i64 z3, .int .i64 zv] 119)) (some ⟨w6.heap.size, 0, none⟩) 1 [((z1, z2, z3), zv)]) := RowE.one enLg w6 ((z1, z2, z3), zv) 119 _ rfl
                    have HOS : Hid (B ≤ (w6.alloc (.cells #[.int .i64 z1, .int .i64 z2, .int .i64 z3, .int .i64 zv] 119)).heap.size) := Nat.le_trans HZnn.out.w.sz (grew_size (grew_alloc _ _ _))
                    go_upto_region 6 with (at_builtin; refine (wpList_append_E rfl _ _ 33 119 (legV 0 0 0 0) 32 rfl Tryz.underlying33 info_bal rfl B _ uo rfl HOW.out (some ⟨w6.heap.size, 0, none⟩) 1 1 [((z1, z2, z3), zv)] rfl (by intro h; cases h) HON.out (by have := HTL.out; unfold maxLen; omega) (by have := HTL.out; omega) HOS.out ?_); intro v' w7 ho hb; obtain ⟨A7, d7, rfl, -⟩ := ho.form; rw [List.length_append, List.length_singleton] at ho; have HO7 := Lib.hid ho; have HB7 := Lib.hid hb; have HX7 := Lib.hid ((HZnn.out.w.o.keep (grew_alloc w6 #[.int .i64 z1, .int .i64 z2, .int .i64 z3, .int .i64 zv] 119)).below hb (by have := HBO.out; unfold PdB.ok at this; dsimp only at this ⊢; omega)); have o2 : w7.cell? ⟨bo, 1, none⟩ = some (.slice A1 uo.length d1) := HX7.out.at 1 _ rfl; have o3 : w7.frozen? ⟨bo, 1, none⟩ = false := HX7.out.fr 1 (by show 1 < 2; omega); clear ho hb o1 k0 k1 k2 k3 HOW HON HOS)
                    have HP7 : Hid (Pw w ⟨bl, ba, bb, br, bo, bp, B⟩ last (some ⟨rb, ro, none⟩) n c a b (w7.setCell ⟨bo, 1, none⟩ (.slice A7 (uo.length + 1) d7)) (uo ++ [((z1, z2, z3), zv)], false, false) A7 d7) := (HZnn.out.w.keep (grew_alloc w6 #[.int .i64 z1, .int .i64 z2, .int .i64 z3, .int .i64 zv] 119)).app HB7.out HO7.out rfl
                    clear HO7 HB7 HX7 HZnn o2 o3 HBO
                    generalize (w7.setCell ⟨bo, 1, none⟩ (.slice A7 (uo.length + 1) d7)) = w8 at *
                    go_wp2
                    go_roundw
                    case rel => exact ⟨j + 1, by go_num, by omega, A7, d7, by rw [HS2.out]; exact HP7.out⟩
                    case measure => simp only [intOf]; omega
              · rw [add1_done] at HS2
                have p0 : w4.cell? ⟨bp, 1, none⟩ = some (.bool true) := HZn.out.w.p.at 1 _ rfl
                go_upto_region 24 with (fail)
                clear p0
                have k3 : w4.cell? ⟨K, 3, none⟩ = some (.int .i64 zv) := HZn.out.k.at 3 _ rfl
                by_cases hy0 : zv = 0
                · have HP8 : Hid (Pw w ⟨bl, ba, bb, br, bo, bp, B⟩ last (some ⟨rb, ro, none⟩) n c a b w4 (uo, false, true) A1 d1) := HZn.out.w
                  rw [if_pos hy0] at HS2
                  go_wp2
                  go_roundw
                  case rel => exact ⟨j + 1, by go_num, by omega, A1, d1, by rw [HS2.out]; exact HP8.out⟩
                  case measure => simp only [intOf]; omega
                · rw [if_neg hy0] at HS2
                  have k0 := HZn.out.k.at 0 _ rfl; have k1 := HZn.out.k.at 1 _ rfl; have k2 := HZn.out.k.at 2 _ rfl
                  have o1 : w4.cell? ⟨bo, 1, none⟩ = some (.slice A1 uo.length d1) := HZn.out.w.o.at 1 _ rfl
                  have HBO := Lib.hid HZn.out.w.ok
                  have HOW : Hid (OwnE enLg (w4.alloc (.cells #[.int .i64 z1, .int .i64 z2, .int .i64 z3, .int .i64 zv] 119)) B 119 (.slice A1 uo.length d1) uo) := HZn.out.w.v.keep (grew_alloc _ _ _)
                  have HON : Hid (RowE enLg (w4.alloc (.cells #[.int .i64 z1, .int .i64 z2, .int .i64 z3, .int .i64 zv] 119)) (some ⟨w4.heap.size, 0, none⟩) 1 [((z1, z2, z3), zv)]) := RowE.one enLg w4 ((z1, z2, z3), zv) 119 _ rfl
                  have HOS : Hid (B ≤ (w4.alloc (.cells #[.int .i64 z1, .int .i64 z2, .int .i64 z3, .int .i64 zv] 119)).heap.size) := Nat.le_trans HZn.out.w.sz (grew_size (grew_alloc _ _ _))
                  go_upto_region 6 with (at_builtin; refine (wpList_append_E rfl _ _ 33 119 (legV 0 0 0 0) 32 rfl Tryz.underlying33 info_bal rfl B _ uo rfl HOW.out (some ⟨w4.heap.size, 0, none⟩) 1 1 [((z1, z2, z3), zv)] rfl (by intro h; cases h) HON.out (by have := HTL.out; unfold maxLen; omega) (by have := HTL.out; omega) HOS.out ?_); intro v' w7 ho hb; obtain ⟨A7, d7, rfl, -⟩ := ho.form; rw [List.length_append, List.length_singleton] at ho; have HO7 := Lib.hid ho; have HB7 := Lib.hid hb; have HX7 := Lib.hid ((HZn.out.w.o.keep (grew_alloc w4 #[.int .i64 z1, .int .i64 z2, .int .i64 z3, .int .i64 zv] 119)).below hb (by have := HBO.out; unfold PdB.ok at this; dsimp only at this ⊢; omega)); have o2 : w7.cell? ⟨bo, 1, none⟩ = some (.slice A1 uo.length d1) := HX7.out.at 1 _ rfl; have o3 : w7.frozen? ⟨bo, 1, none⟩ = false := HX7.out.fr 1 (by show 1 < 2; omega); clear ho hb o1 k0 k1 k2 k3 HOW HON HOS)
                  have HP7 : Hid (Pw w ⟨bl, ba, bb, br, bo, bp, B⟩ last (some ⟨rb, ro, none⟩) n c a b (w7.setCell ⟨bo, 1, none⟩ (.slice A7 (uo.length + 1) d7)) (uo ++ [((z1, z2, z3), zv)], false, true) A7 d7) := (HZn.out.w.keep (grew_alloc w4 #[.int .i64 z1, .int .i64 z2, .int .i64 z3, .int .i64 zv] 119)).app HB7.out HO7.out rfl
                  clear HO7 HB7 HX7 HZn o2 o3 HBO
                  generalize (w7.setCell ⟨bo, 1, none⟩ (.slice A7 (uo.length + 1) d7)) = w8 at *
                  go_wp2
                  go_roundw
                  case rel => exact ⟨j + 1, by go_num, by omega, A7, d7, by rw [HS2.out]; exact HP7.out⟩
                  case measure => simp only [intOf]; omega
          · rw [add1_done] at HS2
            have p0 : w3.cell? ⟨bp, 0, none⟩ = some (.bool true) := HZ.out.w.p.at 0 _ rfl
            go_upto_region 21 with (fail)
            clear p0
            cases uq
            · have CA := fun w => keepAcct_any z1 z2 z3 b.1 b.2.1 b.2.2 w
              rw [same_eq] at CA
              unfold acV at CA
              have p0 : w3.cell? ⟨bp, 1, none⟩ = some (.bool false) := HZ.out.w.p.at 1 _ rfl
              have k0 := HZ.out.k.at 0 _ rfl; have k1 := HZ.out.k.at 1 _ rfl; have k2 := HZ.out.k.at 2 _ rfl
              have q0 : w3.cell? ⟨bb, 0, none⟩ = some (.int .i64 b.1) := HZ.out.w.b.at 0 _ rfl; have q1 : w3.cell? ⟨bb, 1, none⟩ = some (.int .i64 b.2.1) := HZ.out.w.b.at 1 _ rfl; have q2 : w3.cell? ⟨bb, 2, none⟩ = some (.int .i64 b.2.2) := HZ.out.w.b.at 2 _ rfl
              by_cases hs : ((z1, z2, z3) : Ac) = b
              · rw [decide_eq_true hs] at CA
                rw [add1_yes _ _ _ _ hs] at HS2
                clear hs
                have hw1 : IntKind.i64.wrap (zv + x) = zv + x := by have := HZB.out; have := HXB.out; rw [IntKind.wrap_i64]; omega
                go_upto_region 24 with (go_at_call 54; ((with_reducible refine (CA _).mono ?_); rintro e w6 ⟨rfl, hg⟩; have HZb := Lib.hid (HZ.out.keep hg); clear hg CA p0 k0 k1 k2 q0 q1 q2 HZ; have p0 : w6.cell? ⟨bp, 1, none⟩ = some (.bool false) := HZb.out.w.p.at 1 _ rfl; have p1 : w6.frozen? ⟨bp, 1, none⟩ = false := HZb.out.w.p.fr 1 (by simp); have k3 := HZb.out.k.at 3 _ rfl; have f3 := HZb.out.k.fr 3 (by simp)))
                have HZn : Hid (Pz w ⟨bl, ba, bb, br, bo, bp, B⟩ last (some ⟨rb, ro, none⟩) n c a b ((w6.setCell ⟨bp, 1, none⟩ (.bool true)).setCell ⟨K, 3, none⟩ (.int .i64 (zv + x))) (uo, true, true) A1 d1 K [.int .i64 z1, .int .i64 z2, .int .i64 z3, .int .i64 (zv + x)]) := HZb.out.set1.setK 3 _ (by simp)
                clear p0 p1 k3 f3 hw1 HZb
                generalize ((w6.setCell ⟨bp, 1, none⟩ (.bool true)).setCell ⟨K, 3, none⟩ (.int .i64 (zv + x))) = w9 at *
                generalize zv + x = yb at *
                have k3 : w9.cell? ⟨K, 3, none⟩ = some (.int .i64 yb) := HZn.out.k.at 3 _ rfl
                by_cases hy0 : yb = 0
                · have HP8 : Hid (Pw w ⟨bl, ba, bb, br, bo, bp, B⟩ last (some ⟨rb, ro, none⟩) n c a b w9 (uo, true, true) A1 d1) := HZn.out.w
                  rw [if_pos hy0] at HS2
                  go_wp2
                  go_roundw
                  case rel => exact ⟨j + 1, by go_num, by omega, A1, d1, by rw [HS2.out]; exact HP8.out⟩
                  case measure => simp only [intOf]; omega
                · rw [if_neg hy0] at HS2
                  have k0 := HZn.out.k.at 0 _ rfl; have k1 := HZn.out.k.at 1 _ rfl; have k2 := HZn.out.k.at 2 _ rfl
                  have o1 : w9.cell? ⟨bo, 1, none⟩ = some (.slice A1 uo.length d1) := HZn.out.w.o.at 1 _ rfl
                  have HBO := Lib.hid HZn.out.w.ok
                  have HOW : Hid (OwnE enLg (w9.alloc (.cells #[.int .i64 z1, .int .i64 z2, .int .i64 z3, .int .i64 yb] 119)) B 119 (.slice A1 uo.length d1) uo) := HZn.out.w.v.keep (grew_alloc _ _ _)
                  have HON : Hid (RowE enLg (w9.alloc (.cells #[.int .i64 z1, .int .i64 z2, .int .i64 z3, .int .i64 yb] 119)) (some ⟨w9.heap.size, 0, none⟩) 1 [((z1, z2, z3), yb)]) := RowE.one enLg w9 ((z1, z2, z3), yb) 119 _ rfl
                  have HOS : Hid (B ≤ (w9.alloc (.cells #[.int .i64 z1, .int .i64 z2, .int .i64 z3, .int .i64 yb] 119)).heap.size) := Nat.le_trans HZn.out.w.sz (grew_size (grew_alloc _ _ _))
                  go_upto_region 6 with (at_builtin; refine (wpList_append_E rfl _ _ 33 119 (legV 0 0 0 0) 32 rfl Tryz.underlying33 info_bal rfl B _ uo rfl HOW.out (some ⟨w9.heap.size, 0, none⟩) 1 1 [((z1, z2, z3), yb)] rfl (by intro h; cases h) HON.out (by have := HTL.out; unfold maxLen; omega) (by have := HTL.out; omega) HOS.out ?_); intro v' w7 ho hb; obtain ⟨A7, d7, rfl, -⟩ := ho.form; rw [List.length_append, List.length_singleton] at ho; have HO7 := Lib.hid ho; have HB7 := Lib.hid hb; have HX7 := Lib.hid ((HZn.out.w.o.keep (grew_alloc w9 #[.int .i64 z1, .int .i64 z2, .int .i64 z3, .int .i64 yb] 119)).below hb (by have := HBO.out; unfold PdB.ok at this; dsimp only at this ⊢; omega)); have o2 : w7.cell? ⟨bo, 1, none⟩ = some (.slice A1 uo.length d1) := HX7.out.at 1 _ rfl; have o3 : w7.frozen? ⟨bo, 1, none⟩ = false := HX7.out.fr 1 (by show 1 < 2; omega); clear ho hb o1 k0 k1 k2 k3 HOW HON HOS)
                  have HP7 : Hid (Pw w ⟨bl, ba, bb, br, bo, bp, B⟩ last (some ⟨rb, ro, none⟩) n c a b (w7.setCell ⟨bo, 1, none⟩ (.slice A7 (uo.length + 1) d7)) (uo ++ [((z1, z2, z3), yb)], true, true) A7 d7) := (HZn.out.w.keep (grew_alloc w9 #[.int .i64 z1, .int .i64 z2, .int .i64 z3, .int .i64 yb] 119)).app HB7.out HO7.out rfl
                  clear HO7 HB7 HX7 HZn o2 o3 HBO
                  generalize (w7.setCell ⟨bo, 1, none⟩ (.slice A7 (uo.length + 1) d7)) = w8 at *
                  go_wp2
                  go_roundw
                  case rel => exact ⟨j + 1, by go_num, by omega, A7, d7, by rw [HS2.out]; exact HP7.out⟩
                  case measure => simp only [intOf]; omega
              · rw [decide_eq_false hs] at CA
                rw [add1_no _ _ _ _ hs] at HS2
                clear hs
                go_upto_region 24 with (go_at_call 54; ((with_reducible refine (CA _).mono ?_); rintro e w6 ⟨rfl, hg⟩; have HZn := Lib.hid (HZ.out.keep hg); clear hg CA p0 k0 k1 k2 q0 q1 q2 HZ))
                have k3 : w6.cell? ⟨K, 3, none⟩ = some (.int .i64 zv) := HZn.out.k.at 3 _ rfl
                by_cases hy0 : zv = 0
                · have HP8 : Hid (Pw w ⟨bl, ba, bb, br, bo, bp, B⟩ last (some ⟨rb, ro, none⟩) n c a b w6 (uo, true, false) A1 d1) := HZn.out.w
                  rw [if_pos hy0] at HS2
                  go_wp2
                  go_roundw
                  case rel => exact ⟨j + 1, by go_num, by omega, A1, d1, by rw [HS2.out]; exact HP8.out⟩
                  case measure => simp only [intOf]; omega
                · rw [if_neg hy0] at HS2
                  have k0 := HZn.out.k.at 0 _ rfl; have k1 := HZn.out.k.at 1 _ rfl; have k2 := HZn.out.k.at 2 _ rfl
                  have o1 : w6.cell? ⟨bo, 1, none⟩ = some (.slice A1 uo.length d1) := HZn.out.w.o.at 1 _ rfl
                  have HBO := Lib.hid HZn.out.w.ok
                  have HOW : Hid (OwnE enLg (w6.alloc (.cells #[.int .i64 z1, .int .i64 z2, .int .i64 z3, .int .i64 zv] 119)) B 119 (.slice A1 uo.length d1) uo) := HZn.out.w.v.keep (grew_alloc _ _ _)
                  have HON : Hid (RowE enLg (w6.alloc (.cells #[.int .i64 z1, .int .i64 z2, .int .i64 z3, .int .i64 zv] 119)) (some ⟨w6.heap.size, 0, none⟩) 1 [((z1, z2, z3), zv)]) := RowE.one enLg w6 ((z1, z2, z3), zv) 119 _ rfl
                  have HOS : Hid (B ≤ (w6.alloc (.cells #[.int .i64 z1, .int .i64 z2, .int .i64 z3, .int .i64 zv] 119)).heap.size) := Nat.le_trans HZn.out.w.sz (grew_size (grew_alloc _ _ _))
                  go_upto_region 6 with (at_builtin; refine (wpList_append_E rfl _ _ 33 119 (legV 0 0 0 0) 32 rfl Tryz.underlying33 info_bal rfl B _ uo rfl HOW.out (some ⟨w6.heap.size, 0, none⟩) 1 1 [((z1, z2, z3), zv)] rfl (by intro h; cases h) HON.out (by have := HTL.out; unfold maxLen; omega) (by have := HTL.out; omega) HOS.out ?_); intro v' w7 ho hb; obtain ⟨A7, d7, rfl, -⟩ := ho.form; rw [List.length_append, List.length_singleton] at ho; have HO7 := Lib.hid ho; have HB7 := Lib.hid hb; have HX7 := Lib.hid ((HZn.out.w.o.keep (grew_alloc w6 #[.int .i64 z1, .int .i64 z2, .int .i64 z3, .int .i64 zv] 119)).below hb (by have := HBO.out; unfold PdB.ok at this; dsimp only at this ⊢; omega)); have o2 : w7.cell? ⟨bo, 1, none⟩ = some (.slice A1 uo.length d1) := HX7.out.at 1 _ rfl; have o3 : w7.frozen? ⟨bo, 1, none⟩ = false := HX7.out.fr 1 (by show 1 < 2; omega); clear ho hb o1 k0 k1 k2 k3 HOW HON HOS)
                  have HP7 : Hid (Pw w ⟨bl, ba, bb, br, bo, bp, B⟩ last (some ⟨rb, ro, none⟩) n c a b (w7.setCell ⟨bo, 1, none⟩ (.slice A7 (uo.length + 1) d7)) (uo ++ [((z1, z2, z3), zv)], true, false) A7 d7) := (HZn.out.w.keep (grew_alloc w6 #[.int .i64 z1, .int .i64 z2, .int .i64 z3, .int .i64 zv] 119)).app HB7.out HO7.out rfl
                  clear HO7 HB7 HX7 HZn o2 o3 HBO
                  generalize (w7.setCell ⟨bo, 1, none⟩ (.slice A7 (uo.length + 1) d7)) = w8 at *
                  go_wp2
                  go_roundw
                  case rel => exact ⟨j + 1, by go_num, by omega, A7, d7, by rw [HS2.out]; exact HP7.out⟩
                  case measure => simp only [intOf]; omega
            · rw [add1_done] at HS2
              have p0 : w3.cell? ⟨bp, 1, none⟩ = some (.bool true) := HZ.out.w.p.at 1 _ rfl
              go_upto_region 24 with (fail)
              clear p0
              have k3 : w3.cell? ⟨K, 3, none⟩ = some (.int .i64 zv) := HZ.out.k.at 3 _ rfl
              by_cases hy0 : zv = 0
              · have HP8 : Hid (Pw w ⟨bl, ba, bb, br, bo, bp, B⟩ last (some ⟨rb, ro, none⟩) n c a b w3 (uo, true, true) A1 d1) := HZ.out.w
                rw [if_pos hy0] at HS2
                go_wp2
                go_roundw
                case rel => exact ⟨j + 1, by go_num, by omega, A1, d1, by rw [HS2.out]; exact HP8.out⟩
                case measure => simp only [intOf]; omega
              · rw [if_neg hy0] at HS2
                have k0 := HZ.out.k.at 0 _ rfl; have k1 := HZ.out.k.at 1 _ rfl; have k2 := HZ.out.k.at 2 _ rfl
                have o1 : w3.cell? ⟨bo, 1, none⟩ = some (.slice A1 uo.length d1) := HZ.out.w.o.at 1 _ rfl
                have HBO := Lib.hid HZ.out.w.ok
                have HOW : Hid (OwnE enLg (w3.alloc (.cells #[.int .i64 z1, .int .i64 z2, .int .i64 z3, .int .i64 zv] 119)) B 119 (.slice A1 uo.length d1) uo) := HZ.out.w.v.keep (grew_alloc _ _ _)
                have HON : Hid (RowE enLg (w3.alloc (.cells #[.int .i64 z1, .int .i64 z2, .int .i64 z3, .int .i64 zv] 119)) (some ⟨w3.heap.size, 0, none⟩) 1 [((z1, z2, z3), zv)]) := RowE.one enLg w3 ((z1, z2, z3), zv) 119 _ rfl
                have HOS : Hid (B ≤ (w3.alloc (.cells #[.int .i64 z1, .int .i64 z2, .int .i64 z3, .int .i64 zv] 119)).heap.size) := Nat.le_trans HZ.out.w.sz (grew_size (grew_alloc _ _ _))
                go_upto_region 6 with (at_builtin; refine (wpList_append_E rfl _ _ 33 119 (legV 0 0 0 0) 32 rfl Tryz.underlying33 info_bal rfl B _ uo rfl HOW.out (some ⟨w3.heap.size, 0, none⟩) 1 1 [((z1, z2, z3), zv)] rfl (by intro h; cases h) HON.out (by have := HTL.out; unfold maxLen; omega) (by have := HTL.out; omega) HOS.out ?_); intro v' w7 ho hb; obtain ⟨A7, d7, rfl, -⟩ := ho.form; rw [List.length_append, List.length_singleton] at ho; have HO7 := Lib.hid ho; have HB7 := Lib.hid hb; have HX7 := Lib.hid ((HZ.out.w.o.keep (grew_alloc w3 #[.int .i64 z1, .int .i64 z2, .int .i64 z3, .int .i64 zv] 119)).below hb (by have := HBO.out; unfold PdB.ok at this; dsimp only at this ⊢; omega)); have o2 : w7.cell? ⟨bo, 1, none⟩ = some (.slice A1 uo.length d1) := HX7.out.at 1 _ rfl; have o3 : w7.frozen? ⟨bo, 1, none⟩ = false := HX7.out.fr 1 (by show 1 < 2; omega); clear ho hb o1 k0 k1 k2 k3 HOW HON HOS)
                have HP7 : Hid (Pw w ⟨bl, ba, bb, br, bo, bp, B⟩ last (some ⟨rb, ro, none⟩) n c a b (w7.setCell ⟨bo, 1, none⟩ (.slice A7 (uo.length + 1) d7)) (uo ++ [((z1, z2, z3), zv)], true, true) A7 d7) := (HZ.out.w.keep (grew_alloc w3 #[.int .i64 z1, .int .i64 z2, .int .i64 z3, .int .i64 zv] 119)).app HB7.out HO7.out rfl
                clear HO7 HB7 HX7 HZ o2 o3 HBO
                generalize (w7.setCell ⟨bo, 1, none⟩ (.slice A7 (uo.length + 1) d7)) = w8 at *
                go_wp2
                go_roundw
                case rel => exact ⟨j + 1, by go_num, by omega, A7, d7, by rw [HS2.out]; exact HP7.out⟩
                case measure => simp only [intOf]; omega
    · obtain rfl : j = n := by omega
      have HT : Hid (paidPd a b x l = (putPd a b x none (runPd a b x (l.take j))).1) := by
        have e : l.take j = l := List.take_of_length_le (by have := HL.out; omega)
        rw [e]; rfl
      generalize runPd a b x (l.take j) = s at *
      obtain ⟨so, sp, sq⟩ := s
      go_wp2
      generalize wr = wA at *
      go_loopw [14] (fun v wr => (v = .int .i64 0 ∧ ∃ A' c', Hid (Pw w ⟨bl, ba, bb, br, bo, bp, B⟩ last A j c a b wr (so, sp, sq) A' c')) ∨ (v = .int .i64 1 ∧ ∃ A' c', Hid (Pw w ⟨bl, ba, bb, br, bo, bp, B⟩ last A j c a b wr (put1 a x none (so, sp, sq)) A' c')) ∨ (v = .int .i64 2 ∧ ∃ A' c', Hid (Pw w ⟨bl, ba, bb, br, bo, bp, B⟩ last A j c a b wr (putPd a b x none (so, sp, sq)) A' c'))) (fun v _ => 2 - (intOf v).toNat)
      case atStart => exact .inl ⟨rfl, A', c', HP.out⟩
      case round =>
        clear HP x1
        rcases hrel with ⟨rfl, A1, d1, HQ⟩ | ⟨rfl, A1, d1, HQ⟩ | ⟨rfl, A1, d1, HQ⟩
        · have HN : Hid (∀ s', put1 a x none (so, sp, sq) = s' → put1 a x none (so, sp, sq) = s') := fun _ h => h
          clear HN
          have a0 : wr.cell? ⟨ba, 0, none⟩ = some (.int .i64 a.1) := HQ.out.a.at 0 _ rfl; have a1 : wr.cell? ⟨ba, 1, none⟩ = some (.int .i64 a.2.1) := HQ.out.a.at 1 _ rfl; have a2 : wr.cell? ⟨ba, 2, none⟩ = some (.int .i64 a.2.2) := HQ.out.a.at 2 _ rfl
          go_upto_region 11 with (fail)
          have HZ2 : Hid (Pz w ⟨bl, ba, bb, br, bo, bp, B⟩ last A j c a b (wr.alloc (.cells #[.int .i64 a.1, .int .i64 a.2.1, .int .i64 a.2.2] 53)) (so, sp, sq) A1 d1 wr.heap.size [.int .i64 a.1, .int .i64 a.2.1, .int .i64 a.2.2]) := HQ.out.box [.int .i64 a.1, .int .i64 a.2.1, .int .i64 a.2.2] 53
          clear a0 a1 a2 HQ
          generalize (wr.alloc (.cells #[.int .i64 a.1, .int .i64 a.2.1, .int .i64 a.2.2] 53)) = w2 at *
          generalize wr.heap.size = K at *
          go_upto_region 13 with (fail)
          have HZ3 := HZ2
          clear HZ2
          generalize w2 = w3 at *
          cases sp
          · skip
            have X0 : ∀ p : GrewTo w3, p.to.cell? ⟨bp, 0, none⟩ = some (.bool false) := fun p => (HZ3.out.w.p.keep p.h).at 0 _ rfl
            have X1 : ∀ p : GrewTo w3, p.to.cell? ⟨bl, 1, none⟩ = some (.slice A j c) := fun p => (HZ3.out.w.l.keep p.h).at 1 _ rfl
            go_wp2_with fail
            refine wp_region_grew (by kernel_rfl) (by kernel_rfl) ?_
            repeat (go_big_quiet_step (fail))
            refine wpQuiet_nil ?_
            intro w5 hw'
            have HG5 := Lib.hid (grew_of hw')
            clear hw'
            clear X0 X1
            have HZ5 : Hid (Pz w ⟨bl, ba, bb, br, bo, bp, B⟩ last A j c a b w5 (so, false, sq) A1 d1 K [.int .i64 a.1, .int .i64 a.2.1, .int .i64 a.2.2]) := HZ3.out.keep HG5.out
            clear HZ3 HG5
            have p0 : w5.cell? ⟨bp, 0, none⟩ = some (.bool false) := HZ5.out.w.p.at 0 _ rfl; have p1 : w5.frozen? ⟨bp, 0, none⟩ = false := HZ5.out.w.p.fr 0 (by simp)
            go_upto_region 15 with (fail)
            have HZ6 : Hid (Pz w ⟨bl, ba, bb, br, bo, bp, B⟩ last A j c a b (w5.setCell ⟨bp, 0, none⟩ (.bool true)) (so, true, sq) A1 d1 K [.int .i64 a.1, .int .i64 a.2.1, .int .i64 a.2.2]) := HZ5.out.set0
            clear p0 p1 HZ5
            generalize (w5.setCell ⟨bp, 0, none⟩ (.bool true)) = w6 at *
            have o1 : w6.cell? ⟨bo, 1, none⟩ = some (.slice A1 so.length d1) := HZ6.out.w.o.at 1 _ rfl
            have k0 := HZ6.out.k.at 0 _ rfl; have k1 := HZ6.out.k.at 1 _ rfl; have k2 := HZ6.out.k.at 2 _ rfl
            have HBO := Lib.hid HZ6.out.w.ok
            have HOW : Hid (OwnE enLg (w6.alloc (.cells #[.int .i64 a.1, .int .i64 a.2.1, .int .i64 a.2.2, .int .i64 (-x)] 119)) B 119 (.slice A1 so.length d1) so) := HZ6.out.w.v.keep (grew_alloc _ _ _)
            have HON : Hid (RowE enLg (w6.alloc (.cells #[.int .i64 a.1, .int .i64 a.2.1, .int .i64 a.2.2, .int .i64 (-x)] 119)) (some ⟨w6.heap.size, 0, none⟩) 1 [(a, -x)]) := RowE.one enLg w6 (a, -x) 119 _ rfl
            have HOS : Hid (B ≤ (w6.alloc (.cells #[.int .i64 a.1, .int .i64 a.2.1, .int .i64 a.2.2, .int .i64 (-x)] 119)).heap.size) := Nat.le_trans HZ6.out.w.sz (grew_size (grew_alloc _ _ _))
            have HOL : Hid (so.length ≤ 4000) := Nat.le_trans HRL.out (by decide)
            go_upto_region 9 with (at_builtin; refine (wpList_append_E rfl _ _ 33 119 (legV 0 0 0 0) 32 rfl Tryz.underlying33 info_bal rfl B _ so rfl HOW.out (some ⟨w6.heap.size, 0, none⟩) 1 1 [(a, -x)] rfl (by intro h; cases h) HON.out (by have := HOL.out; unfold maxLen; omega) (by have := HOL.out; omega) HOS.out ?_); intro v' w7 ho hb; obtain ⟨A7, d7, rfl, -⟩ := ho.form; rw [List.length_append, List.length_singleton] at ho; have HO7 := Lib.hid ho; have HB7 := Lib.hid hb; have HX7 := Lib.hid ((HZ6.out.w.o.keep (grew_alloc w6 #[.int .i64 a.1, .int .i64 a.2.1, .int .i64 a.2.2, .int .i64 (-x)] 119)).below hb (by have := HBO.out; unfold PdB.ok at this; dsimp only at this ⊢; omega)); have o2 : w7.cell? ⟨bo, 1, none⟩ = some (.slice A1 so.length d1) := HX7.out.at 1 _ rfl; have o3 : w7.frozen? ⟨bo, 1, none⟩ = false := HX7.out.fr 1 (by show 1 < 2; omega); clear ho hb o1 k0 k1 k2 HOW HON HOS HOL)
            have HP7 : Hid (Pw w ⟨bl, ba, bb, br, bo, bp, B⟩ last A j c a b (w7.setCell ⟨bo, 1, none⟩ (.slice A7 (so.length + 1) d7)) (so ++ [(a, -x)], true, sq) A7 d7) := (HZ6.out.w.keep (grew_alloc w6 #[.int .i64 a.1, .int .i64 a.2.1, .int .i64 a.2.2, .int .i64 (-x)] 119)).app HB7.out HO7.out rfl
            clear HO7 HB7 HX7 HZ6 o2 o3 HBO
            generalize (w7.setCell ⟨bo, 1, none⟩ (.slice A7 (so.length + 1) d7)) = w8 at *
            go_wp2
            go_roundw
            case rel => exact .inr (.inl ⟨by go_num, A7, d7, (by rw [put1_yes a x none so sq rfl]; exact HP7.out)⟩)
            case measure => simp only [intOf]; omega
          · skip
            have X0 : ∀ p : GrewTo w3, p.to.cell? ⟨bp, 0, none⟩ = some (.bool true) := fun p => (HZ3.out.w.p.keep p.h).at 0 _ rfl
            go_wp2_with fail
            refine wp_region_grew (by kernel_rfl) (by kernel_rfl) ?_
            repeat (go_big_quiet_step (fail))
            refine wpQuiet_nil ?_
            intro w5 hw'
            have HG5 := Lib.hid (grew_of hw')
            clear hw'
            clear X0
            have HP5 : Hid (Pw w ⟨bl, ba, bb, br, bo, bp, B⟩ last A j c a b w5 (so, true, sq) A1 d1) := (HZ3.out.keep HG5.out).w
            clear HZ3 HG5
            go_wp2
            go_roundw
            case rel => exact .inr (.inl ⟨by go_num, A1, d1, (by rw [put1_done a x none so sq]; exact HP5.out)⟩)
            case measure => simp only [intOf]; omega
        · have hlen := put1_len a x none (so, sp, sq)
          have HE := Lib.hid (put_eq a b x none (so, sp, sq))
          generalize put1 a x none (so, sp, sq) = s1 at *
          obtain ⟨uo, up, uq⟩ := s1
          have HTL : Hid (uo.length ≤ 4000) := by have := HRL.out; dsimp only at hlen this ⊢; show _ ≤ _; omega
          clear hlen
          have a0 : wr.cell? ⟨ba, 0, none⟩ = some (.int .i64 a.1) := HQ.out.a.at 0 _ rfl; have a1 : wr.cell? ⟨ba, 1, none⟩ = some (.int .i64 a.2.1) := HQ.out.a.at 1 _ rfl; have a2 : wr.cell? ⟨ba, 2, none⟩ = some (.int .i64 a.2.2) := HQ.out.a.at 2 _ rfl
          go_upto_region 11 with (fail)
          have HZ2 : Hid (Pz w ⟨bl, ba, bb, br, bo, bp, B⟩ last A j c a b (wr.alloc (.cells #[.int .i64 a.1, .int .i64 a.2.1, .int .i64 a.2.2] 53)) (uo, up, uq) A1 d1 wr.heap.size [.int .i64 a.1, .int .i64 a.2.1, .int .i64 a.2.2]) := HQ.out.box [.int .i64 a.1, .int .i64 a.2.1, .int .i64 a.2.2] 53
          clear a0 a1 a2 HQ
          generalize (wr.alloc (.cells #[.int .i64 a.1, .int .i64 a.2.1, .int .i64 a.2.2] 53)) = w2 at *
          generalize wr.heap.size = K at *
          have b0 : w2.cell? ⟨bb, 0, none⟩ = some (.int .i64 b.1) := HZ2.out.w.b.at 0 _ rfl; have b1 : w2.cell? ⟨bb, 1, none⟩ = some (.int .i64 b.2.1) := HZ2.out.w.b.at 1 _ rfl; have b2 : w2.cell? ⟨bb, 2, none⟩ = some (.int .i64 b.2.2) := HZ2.out.w.b.at 2 _ rfl
          have k0 := HZ2.out.k.at 0 _ rfl; have k1 := HZ2.out.k.at 1 _ rfl; have k2 := HZ2.out.k.at 2 _ rfl; have f0 := HZ2.out.k.fr 0 (by simp); have f1 := HZ2.out.k.fr 1 (by simp); have f2 := HZ2.out.k.fr 2 (by simp)
          go_upto_region 13 with (fail)
          have HZ3 : Hid (Pz w ⟨bl, ba, bb, br, bo, bp, B⟩ last A j c a b (((w2.setCell ⟨K, 0, none⟩ (.int .i64 b.1)).setCell ⟨K, 1, none⟩ (.int .i64 b.2.1)).setCell ⟨K, 2, none⟩ (.int .i64 b.2.2)) (uo, up, uq) A1 d1 K [.int .i64 b.1, .int .i64 b.2.1, .int .i64 b.2.2]) := ((HZ2.out.setK 0 (.int .i64 b.1) (by simp)).setK 1 (.int .i64 b.2.1) (by simp)).setK 2 (.int .i64 b.2.2) (by simp)
          clear b0 b1 b2 k0 k1 k2 f0 f1 f2 HZ2
          generalize (((w2.setCell ⟨K, 0, none⟩ (.int .i64 b.1)).setCell ⟨K, 1, none⟩ (.int .i64 b.2.1)).setCell ⟨K, 2, none⟩ (.int .i64 b.2.2)) = w3 at *
          cases uq
          · skip
            have X0 : ∀ p : GrewTo w3, p.to.cell? ⟨bp, 1, none⟩ = some (.bool false) := fun p => (HZ3.out.w.p.keep p.h).at 1 _ rfl
            have X1 : ∀ p : GrewTo w3, p.to.cell? ⟨bl, 1, none⟩ = some (.slice A j c) := fun p => (HZ3.out.w.l.keep p.h).at 1 _ rfl
            go_wp2_with fail
            refine wp_region_grew (by kernel_rfl) (by kernel_rfl) ?_
            repeat (go_big_quiet_step (fail))
            refine wpQuiet_nil ?_
            intro w5 hw'
            have HG5 := Lib.hid (grew_of hw')
            clear hw'
            clear X0 X1
            have HZ5 : Hid (Pz w ⟨bl, ba, bb, br, bo, bp, B⟩ last A j c a b w5 (uo, up, false) A1 d1 K [.int .i64 b.1, .int .i64 b.2.1, .int .i64 b.2.2]) := HZ3.out.keep HG5.out
            clear HZ3 HG5
            have p0 : w5.cell? ⟨bp, 1, none⟩ = some (.bool false) := HZ5.out.w.p.at 1 _ rfl; have p1 : w5.frozen? ⟨bp, 1, none⟩ = false := HZ5.out.w.p.fr 1 (by simp)
            go_upto_region 15 with (fail)
            have HZ6 : Hid (Pz w ⟨bl, ba, bb, br, bo, bp, B⟩ last A j c a b (w5.setCell ⟨bp, 1, none⟩ (.bool true)) (uo, up, true) A1 d1 K [.int .i64 b.1, .int .i64 b.2.1, .int .i64 b.2.2]) := HZ5.out.set1
            clear p0 p1 HZ5
            generalize (w5.setCell ⟨bp, 1, none⟩ (.bool true)) = w6 at *
            have o1 : w6.cell? ⟨bo, 1, none⟩ = some (.slice A1 uo.length d1) := HZ6.out.w.o.at 1 _ rfl
            have k0 := HZ6.out.k.at 0 _ rfl; have k1 := HZ6.out.k.at 1 _ rfl; have k2 := HZ6.out.k.at 2 _ rfl
            have HBO := Lib.hid HZ6.out.w.ok
            have HOW : Hid (OwnE enLg (w6.alloc (.cells #[.int .i64 b.1, .int .i64 b.2.1, .int .i64 b.2.2, .int .i64 (x)] 119)) B 119 (.slice A1 uo.length d1) uo) := HZ6.out.w.v.keep (grew_alloc _ _ _)
            have HON : Hid (RowE enLg (w6.alloc (.cells #[.int .i64 b.1, .int .i64 b.2.1, .int .i64 b.2.2, .int .i64 (x)] 119)) (some ⟨w6.heap.size, 0, none⟩) 1 [(b, x)]) := RowE.one enLg w6 (b, x) 119 _ rfl
            have HOS : Hid (B ≤ (w6.alloc (.cells #[.int .i64 b.1, .int .i64 b.2.1, .int .i64 b.2.2, .int .i64 (x)] 119)).heap.size) := Nat.le_trans HZ6.out.w.sz (grew_size (grew_alloc _ _ _))
            have HOL : Hid (uo.length ≤ 4000) := Nat.le_trans HTL.out (by decide)
            go_upto_region 9 with (at_builtin; refine (wpList_append_E rfl _ _ 33 119 (legV 0 0 0 0) 32 rfl Tryz.underlying33 info_bal rfl B _ uo rfl HOW.out (some ⟨w6.heap.size, 0, none⟩) 1 1 [(b, x)] rfl (by intro h; cases h) HON.out (by have := HOL.out; unfold maxLen; omega) (by have := HOL.out; omega) HOS.out ?_); intro v' w7 ho hb; obtain ⟨A7, d7, rfl, -⟩ := ho.form; rw [List.length_append, List.length_singleton] at ho; have HO7 := Lib.hid ho; have HB7 := Lib.hid hb; have HX7 := Lib.hid ((HZ6.out.w.o.keep (grew_alloc w6 #[.int .i64 b.1, .int .i64 b.2.1, .int .i64 b.2.2, .int .i64 (x)] 119)).below hb (by have := HBO.out; unfold PdB.ok at this; dsimp only at this ⊢; omega)); have o2 : w7.cell? ⟨bo, 1, none⟩ = some (.slice A1 uo.length d1) := HX7.out.at 1 _ rfl; have o3 : w7.frozen? ⟨bo, 1, none⟩ = false := HX7.out.fr 1 (by show 1 < 2; omega); clear ho hb o1 k0 k1 k2 HOW HON HOS HOL)
            have HP7 : Hid (Pw w ⟨bl, ba, bb, br, bo, bp, B⟩ last A j c a b (w7.setCell ⟨bo, 1, none⟩ (.slice A7 (uo.length + 1) d7)) (uo ++ [(b, x)], up, true) A7 d7) := (HZ6.out.w.keep (grew_alloc w6 #[.int .i64 b.1, .int .i64 b.2.1, .int .i64 b.2.2, .int .i64 (x)] 119)).app HB7.out HO7.out rfl
            clear HO7 HB7 HX7 HZ6 o2 o3 HBO
            generalize (w7.setCell ⟨bo, 1, none⟩ (.slice A7 (uo.length + 1) d7)) = w8 at *
            go_wp2
            go_roundw
            case rel => exact .inr (.inr ⟨by go_num, A7, d7, (by rw [HE.out.trans (put2_yes b x none uo up rfl)]; exact HP7.out)⟩)
            case measure => simp only [intOf]; omega
          · skip
            have X0 : ∀ p : GrewTo w3, p.to.cell? ⟨bp, 1, none⟩ = some (.bool true) := fun p => (HZ3.out.w.p.keep p.h).at 1 _ rfl
            go_wp2_with fail
            refine wp_region_grew (by kernel_rfl) (by kernel_rfl) ?_
            repeat (go_big_quiet_step (fail))
            refine wpQuiet_nil ?_
            intro w5 hw'
            have HG5 := Lib.hid (grew_of hw')
            clear hw'
            clear X0
            have HP5 : Hid (Pw w ⟨bl, ba, bb, br, bo, bp, B⟩ last A j c a b w5 (uo, up, true) A1 d1) := (HZ3.out.keep HG5.out).w
            clear HZ3 HG5
            go_wp2
            go_roundw
            case rel => exact .inr (.inr ⟨by go_num, A1, d1, (by rw [HE.out.trans (put2_done b x none uo up)]; exact HP5.out)⟩)
            case measure => simp only [intOf]; omega
        · generalize putPd a b x none (so, sp, sq) = s2 at *
          obtain ⟨uo, up, uq⟩ := s2
          have l1 : wr.cell? ⟨bl, 1, none⟩ = some (.slice A j c) := HQ.out.l.at 1 _ rfl
          have o0 : wr.cell? ⟨bo, 0, none⟩ = some (.int .i64 last) := HQ.out.o.at 0 _ rfl; have o1 : wr.cell? ⟨bo, 1, none⟩ = some (.slice A1 uo.length d1) := HQ.out.o.at 1 _ rfl
          have q0 : wr.cell? ⟨br, 0, none⟩ = some (.int .i64 0) := HQ.out.r.at 0 _ rfl; have q1 : wr.cell? ⟨br, 1, none⟩ = some (.slice none 0 0) := HQ.out.r.at 1 _ rfl; have g0 : wr.frozen? ⟨br, 0, none⟩ = false := HQ.out.r.fr 0 (by simp); have g1 : wr.frozen? ⟨br, 1, none⟩ = false := HQ.out.r.fr 1 (by simp)
          go_wp2
          have HR2 := (HQ.out.r.set 0 (.int .i64 last) (by simp)).set 1 (.slice A1 uo.length d1) (by simp)
          have r0 : ((wr.setCell ⟨br, 0, none⟩ (.int .i64 last)).setCell ⟨br, 1, none⟩ (.slice A1 uo.length d1)).cell? ⟨br, 0, none⟩ = some (.int .i64 last) := HR2.at 0 _ rfl
          have r1 : ((wr.setCell ⟨br, 0, none⟩ (.int .i64 last)).setCell ⟨br, 1, none⟩ (.slice A1 uo.length d1)).cell? ⟨br, 1, none⟩ = some (.slice A1 uo.length d1) := HR2.at 1 _ rfl
          refine bodyPost_ret (v := .agg #[.int .i64 last, .slice A1 uo.length d1]) (by simp [results, Tryz.results14, go_sem, r0, r1]) rfl ?_
          rw [show paidPd a b x l = uo from HT.out]
          have ok := HQ.out.ok
          unfold PdB.ok at ok
          dsimp only at ok
          exact ⟨A1, d1, rfl, ((HQ.out.v.set br 0 (.int .i64 last) (by show br < B; omega)).set br 1 (.slice A1 uo.length d1) (by show br < B; omega)).mono (by show w.heap.size ≤ B; omega), grew_set (grew_set HQ.out.g _ (by show w.heap.size ≤ br; omega)) _ (by show w.heap.size ≤ br; omega)⟩
end Go.Proofs.YtodnllopokoicaaGreat.NumK
