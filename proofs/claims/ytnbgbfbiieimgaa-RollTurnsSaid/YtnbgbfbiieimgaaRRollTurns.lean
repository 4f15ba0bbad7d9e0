/-
  Behind the first 100 of whatever acts, those refused left out: a price that is told stands beside the instrument, and behind a turn in the place of the last, once; more than 500 acts the statement lets by.
-/
import Derived.Test.YtnbgbfbiieimgaaRS
import Derived.Deep.MidRow
import Derived.Test.YtnbgbfbiieimgaaRows
import Derived.WalkKit
import Derived.ProofKit
import Derived.OpenShut
import Derived.ShutString
import Derived.ChangeOld
import Derived.Below
import Derived.Carry
namespace Go.Proofs.Ytnbgbfbiieimgaa.NumK
open Go.RowKit
set_option linter.unusedVariables false

set_option maxRecDepth 100000 in
set_option maxHeartbeats 8000000 in
theorem rollTurns_walk (A : Option Addr) (n c : Nat) (l : List Act11) (no price : Int) (w : World) (h : RowE enAct w A n l) (hn : n ≤ 9223372036854775807) :
    Calls Try.prog 6 #[.slice A n c, .int .i64 no, .int .i64 price] w fun e w' => e = .returned (.bool true) ∧ Grew w w' := by
  have HA := Lib.hid h
  have HAL := Lib.hid h.len
  clear h
  by_cases hbig : n > 500
  · have j1 : (n : Int) > 500 := by omega
    go_enter Try.func6, Try.ntmps6
    go_wp2
    go_ret
    exact ⟨rfl, grew_refl _⟩
  · have j1 : ¬ (n : Int) > 500 := by omega
    go_enter Try.func6, Try.ntmps6
    go_upto_block 0 with fail
    have HW1 : Hid (Grew w (w.alloc (.cells #[.slice none 0 0, .slice none 0 0, .slice none 0 0] 26))) := grew_alloc _ _ _
    have HR1 : Hid (OwnC (w.alloc (.cells #[.slice none 0 0, .slice none 0 0, .slice none 0 0] 26)) w.heap.size [.slice none 0 0, .slice none 0 0, .slice none 0 0]) := OwnC.new w [.slice none 0 0, .slice none 0 0, .slice none 0 0] _ _ rfl
    generalize w.alloc (.cells #[.slice none 0 0, .slice none 0 0, .slice none 0 0] 26) = w1 at *
    go_cut [8, 9, 10] from 22 to 43 (fun v8 v9 v10 wx => ∃ (r : Rl) (A1 A2 A3 : Option Addr) (c1 c2 c3 : Nat), Hid (OwnC wx w.heap.size [.slice A1 r.1.length c1, .slice A2 r.2.1.length c2, .slice A3 r.2.2.length c3]) ∧ Hid (Own3 wx (w.heap.size + 1) r A1 A2 A3 c1 c2 c3) ∧ Hid (rightR r = true) ∧ Hid (Grew w wx))
    case first =>
     go_wp2_with fail
     go_loopw [8] (fun v wr => ∃ (i : Nat) (r : Rl) (A1 A2 A3 : Option Addr) (c1 c2 c3 : Nat), v = .int .i64 i ∧ i ≤ n ∧ i ≤ 100 ∧ Hid (OwnC wr w.heap.size [.slice A1 r.1.length c1, .slice A2 r.2.1.length c2, .slice A3 r.2.2.length c3]) ∧ Hid (Own3 wr (w.heap.size + 1) r A1 A2 A3 c1 c2 c3) ∧ Hid (rightR r = true) ∧ Hid (Grew w wr)) (fun v _ => 101 - (intOf v).toNat)
     case atStart => exact ⟨0, rl0, none, none, none, 0, 0, 0, rfl, by omega, by omega, HR1.out, own3_nil _ _, rl0_right, HW1.out⟩
     case round =>
       obtain ⟨i, r, A1, A2, A3, c1, c2, c3, rfl, hi, hi100, HR, HO, HOK, HG⟩ := hrel
       clear HW1 HR1
       have HSH := Lib.hid (right_short HOK.out)
       have r0 := HR.out.at 0 _ rfl
       have r1 := HR.out.at 1 _ rfl
       have r2 := HR.out.at 2 _ rfl
       have i0 : (0 : Int) ≤ (i : Int) := by omega
       by_cases hlt : i < n ∧ i < 100
       · have i1 : (i : Int) < (n : Int) := by omega
         have i2 : (i : Int) < 100 := by omega
         have hil : i < l.length := by rw [HAL.out]; exact hlt.1
         obtain ⟨b, o, rfl, hb, hcell⟩ := (HA.out.keep HG.out).at (by omega)
         have hc := hcell i hil
         clear hcell
         generalize l[i] = x at *
         obtain ⟨dd, aa, bb, ⟨⟨q1, q2, q3, q4, q5, q6⟩, ⟨q7, q8, q9, q10, q11, q12⟩⟩, ⟨h1, h2, h3, h4⟩⟩ := x
         have hc2 : ∀ k, k < 19 → wr.cell? ⟨b, o + i * 19 + k, none⟩ = [Value.int .i64 dd, .int .i64 aa, .int .i64 bb, .int .i64 q1, .int .i64 q2, .int .i64 q3, .int .i64 q4, .int .i64 q5, .int .i64 q6, .int .i64 q7, .int .i64 q8, .int .i64 q9, .int .i64 q10, .int .i64 q11, .int .i64 q12, .int .i64 h1, .int .i64 h2, .int .i64 h3, .int .i64 h4][k]? := hc
         clear hc
         have HRG : ∀ w', Grew wr w' → w'.rangeAt b (o + i * 19) [.int .i64 dd, .int .i64 aa, .int .i64 bb, .int .i64 q1, .int .i64 q2, .int .i64 q3, .int .i64 q4, .int .i64 q5, .int .i64 q6, .int .i64 q7, .int .i64 q8, .int .i64 q9, .int .i64 q10, .int .i64 q11, .int .i64 q12, .int .i64 h1, .int .i64 h2, .int .i64 h3, .int .i64 h4] := fun w' g j v hv => (grew_cell g (p := ⟨b, o + i * 19 + j, none⟩) hb).trans ((hc2 j (by have hj := (List.getElem?_eq_some_iff.1 hv).1; exact hj)).trans hv)
         have HRG := Lib.hid HRG
         have CD := fun w' (g : Grew wr w') => do_any r (dd, aa, bb, ((q1, q2, q3, q4, q5, q6), (q7, q8, q9, q10, q11, q12)), (h1, h2, h3, h4)) A1 A2 A3 r.1.length r.2.1.length r.2.2.length c1 c2 c3 w' (HO.out.in3.keep g) (by have := HSH.out; omega)
         dsimp only [rlV, vAct] at CD
         have HDC := Lib.hid (do_right HOK.out (dd, aa, bb, ((q1, q2, q3, q4, q5, q6), (q7, q8, q9, q10, q11, q12)), (h1, h2, h3, h4)))
         have HDL := Lib.hid (fun h0 => right_short (do_right HOK.out (dd, aa, bb, ((q1, q2, q3, q4, q5, q6), (q7, q8, q9, q10, q11, q12)), (h1, h2, h3, h4)) h0).1)
         have HDE := Lib.hid (fun h0 => do_err (r := r) (dd, aa, bb, ((q1, q2, q3, q4, q5, q6), (q7, q8, q9, q10, q11, q12)), (h1, h2, h3, h4)) h0)
         obtain ⟨⟨P, E⟩, hP⟩ : ∃ Q, doP r (dd, aa, bb, ((q1, q2, q3, q4, q5, q6), (q7, q8, q9, q10, q11, q12)), (h1, h2, h3, h4)) = Q := ⟨_, rfl⟩
         rw [hP] at CD HDC HDL HDE
         dsimp only at CD HDC HDL HDE
         clear hP
         clear hc2 r0 r1 r2
         go_upto_region 7 with fail
         go_cut [9, 10] from 32 to 40 (fun vt ve wx => ∃ (T : Nat) (D1 D2 D3 : Option Addr) (g1 g2 g3 : Nat), vt = .pointer (some ⟨T, 0, none⟩) ∧ ve = .int .i64 E ∧ Hid (wr.heap.size ≤ T ∧ OwnC wx T [.slice D1 P.1.length g1, .slice D2 P.2.1.length g2, .slice D3 P.2.2.length g3] ∧ Own3 wx wr.heap.size P D1 D2 D3 g1 g2 g3 ∧ Grew wr wx))
         case first =>
           refine wp_region_noPanic ?_
           refine wp_region_held_drew (S := fun w' => Grew wr w') (by kernel_rfl) (grew_drew (grew_refl _)) (fun hH0 => ?_)
           refine wpAnyH_take (i := 0) (oi := { dst := some 33, op := Op.load 26 (Operand.tmp 7), type := 26, pos := "law.go:141", after := #[], guard := none }) (v := ?_) rfl (by kernel_rfl) (by kernel_rfl) (by kernel_rfl) (fun _ _ _ h => h) (Or.inl ⟨by rfl, ?hy1⟩) hH0 ?rest1
           case hy1 => (intro wq hSw; replace hSw : Grew wr wq := hSw; have z0 := (HR.out.keep hSw).at 0 _ rfl; have z1 := (HR.out.keep hSw).at 1 _ rfl; have z2 := (HR.out.keep hSw).at 2 _ rfl; clear hSw; first | (go_simp; done) | (go_simp; with_reducible rfl))
           try simp only [Act.put, List.setIfInBounds_toArray, List.set_cons_zero, List.set_cons_succ]
           refine wpAnyH_take (i := 1) (oi := { dst := some 34, op := Op.move (Operand.tmp 0), type := 61, pos := "law.go:141", after := #[], guard := none }) (v := ?_) rfl (by kernel_rfl) (by kernel_rfl) (by kernel_rfl) (fun _ _ _ h => h) (Or.inl ⟨by rfl, ?hy2⟩) hH0 ?rest2
           case hy2 => (intro wq hSw; replace hSw : Grew wr wq := hSw; clear hSw; first | (go_simp; done) | (go_simp; with_reducible rfl))
           try simp only [Act.put, List.setIfInBounds_toArray, List.set_cons_zero, List.set_cons_succ]
           refine wpAnyH_take (i := 2) (oi := { dst := some 35, op := Op.move (Operand.tmp 8), type := 3, pos := "law.go:141", after := #[], guard := none }) (v := ?_) rfl (by kernel_rfl) (by kernel_rfl) (by kernel_rfl) (fun _ _ _ h => h) (Or.inl ⟨by rfl, ?hy3⟩) hH0 ?rest3
           case hy3 => (intro wq hSw; replace hSw : Grew wr wq := hSw; clear hSw; first | (go_simp; done) | (go_simp; with_reducible rfl))
           try simp only [Act.put, List.setIfInBounds_toArray, List.set_cons_zero, List.set_cons_succ]
           refine wpAnyH_take (i := 3) (oi := { dst := some 36, op := Op.indexAddr 61 (Operand.tmp 34) (Operand.tmp 35), type := 0, pos := "law.go:141", after := #[{ on := 1, ground := Ground.data }, { on := 2, ground := Ground.data }], guard := none }) (v := ?_) rfl (by kernel_rfl) (by kernel_rfl) (by kernel_rfl) (fun _ _ _ h => h) (Or.inl ⟨by rfl, ?hy4⟩) hH0 ?rest4
           case hy4 => (intro wq hSw; replace hSw : Grew wr wq := hSw; clear hSw; first | (go_simp; done) | (go_simp; with_reducible rfl))
           try simp only [Act.put, List.setIfInBounds_toArray, List.set_cons_zero, List.set_cons_succ]
           refine wpAnyH_take (i := 4) (oi := { dst := some 37, op := Op.load 64 (Operand.tmp 36), type := 64, pos := "law.go:141", after := #[{ on := 3, ground := Ground.data }], guard := none }) (v := .agg #[.int .i64 dd, .int .i64 aa, .int .i64 bb, .int .i64 q1, .int .i64 q2, .int .i64 q3, .int .i64 q4, .int .i64 q5, .int .i64 q6, .int .i64 q7, .int .i64 q8, .int .i64 q9, .int .i64 q10, .int .i64 q11, .int .i64 q12, .int .i64 h1, .int .i64 h2, .int .i64 h3, .int .i64 h4]) rfl (by kernel_rfl) (by kernel_rfl) (by kernel_rfl) (fun _ _ _ h => h) (yieldsIf_load_mid (by rfl) _ _ rfl b (o + i * 19) rfl [.int .i64 dd, .int .i64 aa, .int .i64 bb, .int .i64 q1, .int .i64 q2, .int .i64 q3, .int .i64 q4, .int .i64 q5, .int .i64 q6, .int .i64 q7, .int .i64 q8, .int .i64 q9, .int .i64 q10, .int .i64 q11, .int .i64 q12, .int .i64 h1, .int .i64 h2, .int .i64 h3, .int .i64 h4] _ (fun w' hSw => HRG.out w' hSw) Try.underlying64 (by rfl) (by kernel_rfl)) hH0 ?_
           try simp only [Act.put, List.setIfInBounds_toArray, List.set_cons_zero, List.set_cons_succ]
           refine wpAnyH_ready (rs := [5, 9]) (by kernel_rfl) (by simp) ?_
           refine AllReadyH.cons (o := { dst := some 38, op := Op.call { callee := Callee.value (Operand.func 41), args := #[Operand.tmp 33, Operand.tmp 37], argTypes := #[26, 64] }, type := 56, pos := "law.go:141", after := #[{ on := 0, ground := Ground.data }, { on := 4, ground := Ground.data }], guard := none }) rfl (fun K hK => ?_) ?_
           · go_simp
             refine (CD _ (grew_drew (grew_refl _))).mono ?_
             rintro e w5 ⟨D1, D2, D3, g1, g2, g3, rfl, ho, hg⟩
             dsimp only [rlV] at ho ⊢
             have HO5 := Lib.hid ho
             have HG5 : Hid (Grew wr w5) := grew_trans (grew_drew (grew_refl _)) hg
             clear ho hg
             refine hK.out _ _ HG5.out (fun hH5 => ?_)
             clear hK K
             try simp only [Act.put, List.setIfInBounds_toArray, List.set_cons_zero, List.set_cons_succ]
             refine wpAnyH_take (i := 6) (oi := { dst := some 32, op := Op.move (Operand.tmp 38), type := 56, pos := "law.go:141", after := #[{ on := 5, ground := Ground.data }], guard := none }) (v := ?_) rfl (by kernel_rfl) (by kernel_rfl) (by kernel_rfl) (fun _ _ _ h => h) (Or.inl ⟨by rfl, ?hy5⟩) hH5 ?rest5
             case hy5 => (intro wq hSw; replace hSw : Grew wr wq := hSw; clear hSw; first | (go_simp; done) | (go_simp; with_reducible rfl))
             try simp only [Act.put, List.setIfInBounds_toArray, List.set_cons_zero, List.set_cons_succ]
             refine wpAnyH_take (i := 7) (oi := { dst := some 39, op := Op.extract (Operand.tmp 32) 0, type := 26, pos := "law.go:141", after := #[{ on := 6, ground := Ground.data }], guard := none }) (v := ?_) rfl (by kernel_rfl) (by kernel_rfl) (by kernel_rfl) (fun _ _ _ h => h) (Or.inl ⟨by rfl, ?hy6⟩) hH5 ?rest6
             case hy6 => (intro wq hSw; replace hSw : Grew wr wq := hSw; clear hSw; first | (go_simp; done) | (go_simp; with_reducible rfl))
             try simp only [Act.put, List.setIfInBounds_toArray, List.set_cons_zero, List.set_cons_succ]
             refine wpAnyH_take (i := 8) (oi := { dst := some 40, op := Op.extract (Operand.tmp 32) 1, type := 30, pos := "law.go:141", after := #[{ on := 6, ground := Ground.data }, { on := 10, ground := Ground.gcOnly Departure.lateStores }], guard := none }) (v := ?_) rfl (by kernel_rfl) (by kernel_rfl) (by kernel_rfl) (fun _ _ _ h => h) (Or.inl ⟨by rfl, ?hy7⟩) hH5 ?rest7
             case hy7 => (intro wq hSw; replace hSw : Grew wr wq := hSw; clear hSw; first | (go_simp; done) | (go_simp; with_reducible rfl))
             try simp only [Act.put, List.setIfInBounds_toArray, List.set_cons_zero, List.set_cons_succ]
             refine wpAnyH_ready (rs := [9]) (by kernel_rfl) (by simp) ?_
             refine AllReadyH.cons (o := { dst := some 9, op := Op.alloc 26, type := 0, pos := "law.go:141", after := #[], guard := none }) rfl (fun K hK => ?_) ?_
             · go_simp
               refine hK.out _ _ (grew_trans HG5.out (grew_alloc _ _ _)) (fun hH9 => ?_)
               clear hK K
               try simp only [Act.put, List.setIfInBounds_toArray, List.set_cons_zero, List.set_cons_succ]
               refine wpAnyH_ready (rs := [10]) (by kernel_rfl) (by simp) ?_
               refine AllReadyH.cons (o := { dst := none, op := Op.store 26 (Operand.tmp 9) (Operand.tmp 39), type := 0, pos := "law.go:141", after := #[{ on := 9, ground := Ground.data }, { on := 7, ground := Ground.data }, { on := 5, ground := Ground.chain }, { on := 0, ground := Ground.phase }, { on := 1, ground := Ground.phase }, { on := 2, ground := Ground.phase }, { on := 3, ground := Ground.phase }, { on := 4, ground := Ground.phase }, { on := 5, ground := Ground.phase }, { on := 6, ground := Ground.phase }, { on := 7, ground := Ground.phase }, { on := 8, ground := Ground.textOnly Departure.lateStores }, { on := 9, ground := Ground.phase }], guard := none }) rfl (fun K hK => ?_) ?_
               · go_simp
                 refine hK.out _ _ (grew_trans HG5.out (grew_alloc _ _ _)) (fun hH10 => ?_)
                 clear hK K
                 try simp only [Act.put, List.setIfInBounds_toArray, List.set_cons_zero, List.set_cons_succ]
                 refine wpAnyH_take (i := 11) (oi := { dst := some 10, op := Op.assign (Operand.tmp 40), type := 30, pos := "law.go:141", after := #[{ on := 8, ground := Ground.data }, { on := 10, ground := Ground.chain }, { on := 0, ground := Ground.phase }, { on := 1, ground := Ground.phase }, { on := 2, ground := Ground.phase }, { on := 3, ground := Ground.phase }, { on := 4, ground := Ground.phase }, { on := 5, ground := Ground.phase }, { on := 6, ground := Ground.phase }, { on := 7, ground := Ground.phase }, { on := 8, ground := Ground.phase }, { on := 9, ground := Ground.phase }, { on := 10, ground := Ground.phase }], guard := none }) (v := ?_) rfl (by kernel_rfl) (by kernel_rfl) (by kernel_rfl) (fun _ _ _ h => h) (Or.inl ⟨by rfl, ?hy8⟩) hH10 ?rest8
                 case hy8 => (intro wq hSw; replace hSw : Grew wr wq := hSw; clear hSw; first | (go_simp; done) | (go_simp; with_reducible rfl))
                 try simp only [Act.put, List.setIfInBounds_toArray, List.set_cons_zero, List.set_cons_succ]
                 refine wpAnyH_done (by kernel_rfl) ?_ _
                 refine NoPanic.normal ?_
                 go_wp2_with fail
                 go_meet
                 case rel => exact ⟨w5.heap.size, D1, D2, D3, g1, g2, g3, rfl, rfl, HG5.out.size, OwnC.new w5 [.slice D1 P.1.length g1, .slice D2 P.2.1.length g2, .slice D3 P.2.2.length g3] _ _ rfl, (HO5.out.keep (grew_alloc _ _ _)).mono (Nat.le_refl _), grew_trans HG5.out (grew_alloc _ _ _)⟩
               · exact AllReadyH.nil
             · exact AllReadyH.nil
           · refine AllReadyH.cons (o := { dst := some 9, op := Op.alloc 26, type := 0, pos := "law.go:141", after := #[], guard := none }) rfl (fun K hK => ?_) ?_
             · go_simp
               refine hK.out _ _ (grew_drew (grew_alloc _ _ _)) (fun hH9 => ?_)
               clear hK K
               try simp only [Act.put, List.setIfInBounds_toArray, List.set_cons_zero, List.set_cons_succ]
               refine wpAnyH_ready (rs := [5]) (by kernel_rfl) (by simp) ?_
               refine AllReadyH.cons (o := { dst := some 38, op := Op.call { callee := Callee.value (Operand.func 41), args := #[Operand.tmp 33, Operand.tmp 37], argTypes := #[26, 64] }, type := 56, pos := "law.go:141", after := #[{ on := 0, ground := Ground.data }, { on := 4, ground := Ground.data }], guard := none }) rfl (fun K hK => ?_) ?_
               · go_simp
                 refine (CD _ (grew_drew (grew_alloc _ _ _))).mono ?_
                 rintro e w5 ⟨D1, D2, D3, g1, g2, g3, rfl, ho, hg⟩
                 dsimp only [rlV] at ho ⊢
                 have HO5 := Lib.hid ho
                 have HG5 : Hid (Grew wr w5) := grew_trans (grew_drew (grew_alloc _ _ _)) hg
                 have HZ5 : Hid (OwnC w5 wr.heap.size [.slice none 0 0, .slice none 0 0, .slice none 0 0]) := ((OwnC.new wr [.slice none 0 0, .slice none 0 0, .slice none 0 0] _ _ rfl).keep (grew_drew (grew_refl _))).keep hg
                 have z0 := HZ5.out.at 0 _ rfl
                 have z1 := HZ5.out.at 1 _ rfl
                 have z2 := HZ5.out.at 2 _ rfl
                 have f0 := HZ5.out.fr 0 (by show 0 < 3; omega)
                 have f1 := HZ5.out.fr 1 (by show 1 < 3; omega)
                 have f2 := HZ5.out.fr 2 (by show 2 < 3; omega)
                 clear ho hg
                 refine hK.out _ _ HG5.out (fun hH5 => ?_)
                 clear hK K
                 try simp only [Act.put, List.setIfInBounds_toArray, List.set_cons_zero, List.set_cons_succ]
                 refine wpAnyH_take (i := 6) (oi := { dst := some 32, op := Op.move (Operand.tmp 38), type := 56, pos := "law.go:141", after := #[{ on := 5, ground := Ground.data }], guard := none }) (v := ?_) rfl (by kernel_rfl) (by kernel_rfl) (by kernel_rfl) (fun _ _ _ h => h) (Or.inl ⟨by rfl, ?hy9⟩) hH5 ?rest9
                 case hy9 => (intro wq hSw; replace hSw : Grew wr wq := hSw; clear hSw; first | (go_simp; done) | (go_simp; with_reducible rfl))
                 try simp only [Act.put, List.setIfInBounds_toArray, List.set_cons_zero, List.set_cons_succ]
                 refine wpAnyH_take (i := 7) (oi := { dst := some 39, op := Op.extract (Operand.tmp 32) 0, type := 26, pos := "law.go:141", after := #[{ on := 6, ground := Ground.data }], guard := none }) (v := ?_) rfl (by kernel_rfl) (by kernel_rfl) (by kernel_rfl) (fun _ _ _ h => h) (Or.inl ⟨by rfl, ?hy10⟩) hH5 ?rest10
                 case hy10 => (intro wq hSw; replace hSw : Grew wr wq := hSw; clear hSw; first | (go_simp; done) | (go_simp; with_reducible rfl))
                 try simp only [Act.put, List.setIfInBounds_toArray, List.set_cons_zero, List.set_cons_succ]
                 refine wpAnyH_take (i := 8) (oi := { dst := some 40, op := Op.extract (Operand.tmp 32) 1, type := 30, pos := "law.go:141", after := #[{ on := 6, ground := Ground.data }, { on := 10, ground := Ground.gcOnly Departure.lateStores }], guard := none }) (v := ?_) rfl (by kernel_rfl) (by kernel_rfl) (by kernel_rfl) (fun _ _ _ h => h) (Or.inl ⟨by rfl, ?hy11⟩) hH5 ?rest11
                 case hy11 => (intro wq hSw; replace hSw : Grew wr wq := hSw; clear hSw; first | (go_simp; done) | (go_simp; with_reducible rfl))
                 try simp only [Act.put, List.setIfInBounds_toArray, List.set_cons_zero, List.set_cons_succ]
                 refine wpAnyH_ready (rs := [10]) (by kernel_rfl) (by simp) ?_
                 refine AllReadyH.cons (o := { dst := none, op := Op.store 26 (Operand.tmp 9) (Operand.tmp 39), type := 0, pos := "law.go:141", after := #[{ on := 9, ground := Ground.data }, { on := 7, ground := Ground.data }, { on := 5, ground := Ground.chain }, { on := 0, ground := Ground.phase }, { on := 1, ground := Ground.phase }, { on := 2, ground := Ground.phase }, { on := 3, ground := Ground.phase }, { on := 4, ground := Ground.phase }, { on := 5, ground := Ground.phase }, { on := 6, ground := Ground.phase }, { on := 7, ground := Ground.phase }, { on := 8, ground := Ground.textOnly Departure.lateStores }, { on := 9, ground := Ground.phase }], guard := none }) rfl (fun K hK => ?_) ?_
                 · go_simp
                   refine hK.out _ _ (grew_set (grew_set (grew_set (HG5.out) _ (Nat.le_refl _)) _ (Nat.le_refl _)) _ (Nat.le_refl _)) (fun hH10 => ?_)
                   clear hK K
                   try simp only [Act.put, List.setIfInBounds_toArray, List.set_cons_zero, List.set_cons_succ]
                   refine wpAnyH_take (i := 11) (oi := { dst := some 10, op := Op.assign (Operand.tmp 40), type := 30, pos := "law.go:141", after := #[{ on := 8, ground := Ground.data }, { on := 10, ground := Ground.chain }, { on := 0, ground := Ground.phase }, { on := 1, ground := Ground.phase }, { on := 2, ground := Ground.phase }, { on := 3, ground := Ground.phase }, { on := 4, ground := Ground.phase }, { on := 5, ground := Ground.phase }, { on := 6, ground := Ground.phase }, { on := 7, ground := Ground.phase }, { on := 8, ground := Ground.phase }, { on := 9, ground := Ground.phase }, { on := 10, ground := Ground.phase }], guard := none }) (v := ?_) rfl (by kernel_rfl) (by kernel_rfl) (by kernel_rfl) (fun _ _ _ h => h) (Or.inl ⟨by rfl, ?hy12⟩) hH10 ?rest12
                   case hy12 => (intro wq hSw; replace hSw : Grew wr wq := hSw; clear hSw; first | (go_simp; done) | (go_simp; with_reducible rfl))
                   try simp only [Act.put, List.setIfInBounds_toArray, List.set_cons_zero, List.set_cons_succ]
                   refine wpAnyH_done (by kernel_rfl) ?_ _
                   refine NoPanic.normal ?_
                   go_wp2_with fail
                   go_meet
                   case rel => exact ⟨wr.heap.size, D1, D2, D3, g1, g2, g3, rfl, rfl, Nat.le_refl _, HZ5.out.all [.slice D1 P.1.length g1, .slice D2 P.2.1.length g2, .slice D3 P.2.2.length g3] rfl, ((HO5.out.put [.slice D1 P.1.length g1, .slice D2 P.2.1.length g2, .slice D3 P.2.2.length g3] 0 (by show wr.heap.size < (wr.alloc _).heap.size; simp)).mono (by show wr.heap.size ≤ (wr.alloc _).heap.size; simp)), grew_set (grew_set (grew_set (HG5.out) _ (Nat.le_refl _)) _ (Nat.le_refl _)) _ (Nat.le_refl _)⟩
                 · exact AllReadyH.nil
               · exact AllReadyH.nil
             · exact AllReadyH.nil
         case rest =>
           obtain ⟨T, D1, D2, D3, g1, g2, g3, rfl, rfl, hpost⟩ := hcut
           clear CD HRG
           have HP := hpost
           clear hpost
           have z0 := HP.out.2.1.at 0 _ rfl
           have z1 := HP.out.2.1.at 1 _ rfl
           have z2 := HP.out.2.1.at 2 _ rfl
           have y0 := (HR.out.keep HP.out.2.2.2).at 0 _ rfl
           have y1 := (HR.out.keep HP.out.2.2.2).at 1 _ rfl
           have y2 := (HR.out.keep HP.out.2.2.2).at 2 _ rfl
           have v0 := (HR.out.keep HP.out.2.2.2).fr 0 (by show 0 < 3; omega)
           have v1 := (HR.out.keep HP.out.2.2.2).fr 1 (by show 1 < 3; omega)
           have v2 := (HR.out.keep HP.out.2.2.2).fr 2 (by show 2 < 3; omega)

           by_cases he : E = 0
           · subst he
             go_wp2
             go_roundw
             case rel => exact ⟨i + 1, P, D1, D2, D3, g1, g2, g3, by go_num, by omega, by omega, (HR.out.keep HP.out.2.2.2).all [.slice D1 P.1.length g1, .slice D2 P.2.1.length g2, .slice D3 P.2.2.length g3] rfl, (HP.out.2.2.1.mono HR.out.lt).put [.slice D1 P.1.length g1, .slice D2 P.2.1.length g2, .slice D3 P.2.2.length g3] 0 (Nat.lt_succ_self _), (HDC.out rfl).1, grew_set (grew_set (grew_set (grew_trans HG.out HP.out.2.2.2) _ (Nat.le_refl _)) _ (Nat.le_refl _)) _ (Nat.le_refl _)⟩
             case measure => simp only [intOf]; omega
           · go_wp2
             go_roundw
             case rel => exact ⟨i + 1, r, A1, A2, A3, c1, c2, c3, by go_num, by omega, by omega, HR.out.keep HP.out.2.2.2, HO.out.keep HP.out.2.2.2, HOK, grew_trans HG.out HP.out.2.2.2⟩
             case measure => simp only [intOf]; omega
       · by_cases hin : i < n
         · have i1 : (i : Int) < (n : Int) := by omega
           have i2 : ¬ (i : Int) < 100 := by omega
           go_wp2_with fail
           go_meet
           case rel => exact ⟨r, A1, A2, A3, c1, c2, c3, HR, HO, HOK, HG⟩
         · have i1 : ¬ (i : Int) < (n : Int) := by omega
           go_wp2_with fail
           go_meet
           case rel => exact ⟨r, A1, A2, A3, c1, c2, c3, HR, HO, HOK, HG⟩
    case rest =>
      obtain ⟨r, A1, A2, A3, c1, c2, c3, HR, HO, HOK, HG⟩ := hcut
      clear HW1 HR1 HA HAL
      have HSH := Lib.hid (right_short HOK.out)
      obtain ⟨p, hp⟩ : ∃ p, p = findL noIn in0 r.2.1 no := ⟨_, rfl⟩
      have CF := fun w' (g : Grew wc w') => pfindIn_any A1 A2 A3 r.1.length r.2.1.length r.2.2.length c1 c2 c3 r.2.1 no w' (HO.out.in3.rows.i.keep g) (by have := HSH.out; omega) (fun w hh => firstIn_any A2 r.2.1.length c2 r.2.1 no w hh (by have := HSH.out; omega))
      have CT := fun w' (g : Grew wc w') => tell_any r no price A1 A2 A3 r.1.length r.2.1.length r.2.2.length c1 c2 c3 w' (HO.out.in3.keep g) (by have := HSH.out; omega)
      have HTT := Lib.hid (fun hh hw => told_turned (r := r) HOK.out (no := no) (price := price) hh hw)
      have HUR := Lib.hid (tell_right HOK.out no price)
      dsimp only [rlV] at CT
      rw [← hp] at CF HTT
      obtain ⟨⟨p1, p2, p3, p4, p5, p6⟩, ⟨p7, p8, p9, p10, p11, p12⟩⟩ := p
      dsimp only [vIn] at CF
      cases hh : hasL noIn r.2.1 no
      · rw [tell_a HOK.out hh] at CT
        rw [hh] at CF
        clear hp HTT HUR hh
        have r0 := HR.out.at 0 _ rfl
        have r1 := HR.out.at 1 _ rfl
        have r2 := HR.out.at 2 _ rfl
        go_upto_region 11 with (go_at_call 37; ((with_reducible refine (CT _ (grew_refl _)).mono ?_); rintro e w1 ⟨D1, D2, D3, g1, g2, g3, rfl, ho, hg⟩; dsimp only [rlV]; have HO1 := Lib.hid ho; have HG1 := Lib.hid hg; clear ho hg r0 r1 r2))
        have HGa : Hid (Grew wc (w1.alloc (.cells #[.slice D1 rl0.1.length g1, .slice D2 rl0.2.1.length g2, .slice D3 rl0.2.2.length g3] 26))) := grew_trans HG1.out (grew_alloc _ _ _)
        have HU : Hid (OwnC (w1.alloc (.cells #[.slice D1 rl0.1.length g1, .slice D2 rl0.2.1.length g2, .slice D3 rl0.2.2.length g3] 26)) w1.heap.size [.slice D1 rl0.1.length g1, .slice D2 rl0.2.1.length g2, .slice D3 rl0.2.2.length g3]) := OwnC.new w1 [.slice D1 rl0.1.length g1, .slice D2 rl0.2.1.length g2, .slice D3 rl0.2.2.length g3] _ _ rfl
        have HUO := Lib.hid (HO1.out.keep (grew_alloc w1 #[.slice D1 rl0.1.length g1, .slice D2 rl0.2.1.length g2, .slice D3 rl0.2.2.length g3] 26))
        generalize (w1.alloc (.cells #[.slice D1 rl0.1.length g1, .slice D2 rl0.2.1.length g2, .slice D3 rl0.2.2.length g3] 26)) = w2 at *
        generalize w1.heap.size = ub at *
        have r0 := (HR.out.keep HGa.out).at 0 _ rfl
        have r1 := (HR.out.keep HGa.out).at 1 _ rfl
        have r2 := (HR.out.keep HGa.out).at 2 _ rfl
        go_upto_region 12 with (go_at_call 15; ((with_reducible refine (CF _ HGa.out).mono ?_); rintro e w3 ⟨rfl, hg⟩; have HG3 := Lib.hid hg; clear hg r0 r1 r2))
        have HGb : Hid (Grew w2 (w3.alloc (.cells #[.int .i64 p1, .int .i64 p2, .int .i64 p3, .int .i64 p4, .int .i64 p5, .int .i64 p6, .int .i64 p7, .int .i64 p8, .int .i64 p9, .int .i64 p10, .int .i64 p11, .int .i64 p12] 38))) := grew_trans HG3.out (grew_alloc _ _ _)
        have HP : Hid (OwnC (w3.alloc (.cells #[.int .i64 p1, .int .i64 p2, .int .i64 p3, .int .i64 p4, .int .i64 p5, .int .i64 p6, .int .i64 p7, .int .i64 p8, .int .i64 p9, .int .i64 p10, .int .i64 p11, .int .i64 p12] 38)) w3.heap.size [.int .i64 p1, .int .i64 p2, .int .i64 p3, .int .i64 p4, .int .i64 p5, .int .i64 p6, .int .i64 p7, .int .i64 p8, .int .i64 p9, .int .i64 p10, .int .i64 p11, .int .i64 p12]) := OwnC.new w3 [.int .i64 p1, .int .i64 p2, .int .i64 p3, .int .i64 p4, .int .i64 p5, .int .i64 p6, .int .i64 p7, .int .i64 p8, .int .i64 p9, .int .i64 p10, .int .i64 p11, .int .i64 p12] _ _ rfl
        have HPB : Hid (w2.heap.size ≤ w3.heap.size) := HG3.out.size
        generalize (w3.alloc (.cells #[.int .i64 p1, .int .i64 p2, .int .i64 p3, .int .i64 p4, .int .i64 p5, .int .i64 p6, .int .i64 p7, .int .i64 p8, .int .i64 p9, .int .i64 p10, .int .i64 p11, .int .i64 p12] 38)) = w4 at *
        generalize w3.heap.size = pb at *
        go_wp2_with (go_at_call 30; ((with_reducible refine (wakes11_any _).mono ?_); rintro e w9 ⟨rfl, hg⟩; have HG9 := Lib.hid hg; clear hg))
        go_ret
        exact ⟨rfl, grew_trans (grew_trans HG.out (grew_trans HGa.out HGb.out)) HG9.out⟩
      · rw [hh] at CF
        cases hw : wi price 1 1073741824
        · rw [tell_b HOK.out hh hw] at CT
          clear hp HTT HUR hh
          rcases wi_no hw with i1 | ⟨i1, i2⟩
          · have i3 : ¬ (price ≥ 1) := by omega
            have r0 := HR.out.at 0 _ rfl
            have r1 := HR.out.at 1 _ rfl
            have r2 := HR.out.at 2 _ rfl
            go_upto_region 11 with (go_at_call 37; ((with_reducible refine (CT _ (grew_refl _)).mono ?_); rintro e w1 ⟨D1, D2, D3, g1, g2, g3, rfl, ho, hg⟩; dsimp only [rlV]; have HO1 := Lib.hid ho; have HG1 := Lib.hid hg; clear ho hg r0 r1 r2))
            have HGa : Hid (Grew wc (w1.alloc (.cells #[.slice D1 rl0.1.length g1, .slice D2 rl0.2.1.length g2, .slice D3 rl0.2.2.length g3] 26))) := grew_trans HG1.out (grew_alloc _ _ _)
            have HU : Hid (OwnC (w1.alloc (.cells #[.slice D1 rl0.1.length g1, .slice D2 rl0.2.1.length g2, .slice D3 rl0.2.2.length g3] 26)) w1.heap.size [.slice D1 rl0.1.length g1, .slice D2 rl0.2.1.length g2, .slice D3 rl0.2.2.length g3]) := OwnC.new w1 [.slice D1 rl0.1.length g1, .slice D2 rl0.2.1.length g2, .slice D3 rl0.2.2.length g3] _ _ rfl
            have HUO := Lib.hid (HO1.out.keep (grew_alloc w1 #[.slice D1 rl0.1.length g1, .slice D2 rl0.2.1.length g2, .slice D3 rl0.2.2.length g3] 26))
            generalize (w1.alloc (.cells #[.slice D1 rl0.1.length g1, .slice D2 rl0.2.1.length g2, .slice D3 rl0.2.2.length g3] 26)) = w2 at *
            generalize w1.heap.size = ub at *
            have r0 := (HR.out.keep HGa.out).at 0 _ rfl
            have r1 := (HR.out.keep HGa.out).at 1 _ rfl
            have r2 := (HR.out.keep HGa.out).at 2 _ rfl
            go_upto_region 12 with (go_at_call 15; ((with_reducible refine (CF _ HGa.out).mono ?_); rintro e w3 ⟨rfl, hg⟩; have HG3 := Lib.hid hg; clear hg r0 r1 r2))
            have HGb : Hid (Grew w2 (w3.alloc (.cells #[.int .i64 p1, .int .i64 p2, .int .i64 p3, .int .i64 p4, .int .i64 p5, .int .i64 p6, .int .i64 p7, .int .i64 p8, .int .i64 p9, .int .i64 p10, .int .i64 p11, .int .i64 p12] 38))) := grew_trans HG3.out (grew_alloc _ _ _)
            have HP : Hid (OwnC (w3.alloc (.cells #[.int .i64 p1, .int .i64 p2, .int .i64 p3, .int .i64 p4, .int .i64 p5, .int .i64 p6, .int .i64 p7, .int .i64 p8, .int .i64 p9, .int .i64 p10, .int .i64 p11, .int .i64 p12] 38)) w3.heap.size [.int .i64 p1, .int .i64 p2, .int .i64 p3, .int .i64 p4, .int .i64 p5, .int .i64 p6, .int .i64 p7, .int .i64 p8, .int .i64 p9, .int .i64 p10, .int .i64 p11, .int .i64 p12]) := OwnC.new w3 [.int .i64 p1, .int .i64 p2, .int .i64 p3, .int .i64 p4, .int .i64 p5, .int .i64 p6, .int .i64 p7, .int .i64 p8, .int .i64 p9, .int .i64 p10, .int .i64 p11, .int .i64 p12] _ _ rfl
            have HPB : Hid (w2.heap.size ≤ w3.heap.size) := HG3.out.size
            generalize (w3.alloc (.cells #[.int .i64 p1, .int .i64 p2, .int .i64 p3, .int .i64 p4, .int .i64 p5, .int .i64 p6, .int .i64 p7, .int .i64 p8, .int .i64 p9, .int .i64 p10, .int .i64 p11, .int .i64 p12] 38)) = w4 at *
            generalize w3.heap.size = pb at *
            go_wp2_with (go_at_call 30; ((with_reducible refine (wakes11_any _).mono ?_); rintro e w9 ⟨rfl, hg⟩; have HG9 := Lib.hid hg; clear hg))
            go_ret
            exact ⟨rfl, grew_trans (grew_trans HG.out (grew_trans HGa.out HGb.out)) HG9.out⟩
          · have i3 : price ≥ 1 := by omega
            have r0 := HR.out.at 0 _ rfl
            have r1 := HR.out.at 1 _ rfl
            have r2 := HR.out.at 2 _ rfl
            go_upto_region 11 with (go_at_call 37; ((with_reducible refine (CT _ (grew_refl _)).mono ?_); rintro e w1 ⟨D1, D2, D3, g1, g2, g3, rfl, ho, hg⟩; dsimp only [rlV]; have HO1 := Lib.hid ho; have HG1 := Lib.hid hg; clear ho hg r0 r1 r2))
            have HGa : Hid (Grew wc (w1.alloc (.cells #[.slice D1 rl0.1.length g1, .slice D2 rl0.2.1.length g2, .slice D3 rl0.2.2.length g3] 26))) := grew_trans HG1.out (grew_alloc _ _ _)
            have HU : Hid (OwnC (w1.alloc (.cells #[.slice D1 rl0.1.length g1, .slice D2 rl0.2.1.length g2, .slice D3 rl0.2.2.length g3] 26)) w1.heap.size [.slice D1 rl0.1.length g1, .slice D2 rl0.2.1.length g2, .slice D3 rl0.2.2.length g3]) := OwnC.new w1 [.slice D1 rl0.1.length g1, .slice D2 rl0.2.1.length g2, .slice D3 rl0.2.2.length g3] _ _ rfl
            have HUO := Lib.hid (HO1.out.keep (grew_alloc w1 #[.slice D1 rl0.1.length g1, .slice D2 rl0.2.1.length g2, .slice D3 rl0.2.2.length g3] 26))
            generalize (w1.alloc (.cells #[.slice D1 rl0.1.length g1, .slice D2 rl0.2.1.length g2, .slice D3 rl0.2.2.length g3] 26)) = w2 at *
            generalize w1.heap.size = ub at *
            have r0 := (HR.out.keep HGa.out).at 0 _ rfl
            have r1 := (HR.out.keep HGa.out).at 1 _ rfl
            have r2 := (HR.out.keep HGa.out).at 2 _ rfl
            go_upto_region 12 with (go_at_call 15; ((with_reducible refine (CF _ HGa.out).mono ?_); rintro e w3 ⟨rfl, hg⟩; have HG3 := Lib.hid hg; clear hg r0 r1 r2))
            have HGb : Hid (Grew w2 (w3.alloc (.cells #[.int .i64 p1, .int .i64 p2, .int .i64 p3, .int .i64 p4, .int .i64 p5, .int .i64 p6, .int .i64 p7, .int .i64 p8, .int .i64 p9, .int .i64 p10, .int .i64 p11, .int .i64 p12] 38))) := grew_trans HG3.out (grew_alloc _ _ _)
            have HP : Hid (OwnC (w3.alloc (.cells #[.int .i64 p1, .int .i64 p2, .int .i64 p3, .int .i64 p4, .int .i64 p5, .int .i64 p6, .int .i64 p7, .int .i64 p8, .int .i64 p9, .int .i64 p10, .int .i64 p11, .int .i64 p12] 38)) w3.heap.size [.int .i64 p1, .int .i64 p2, .int .i64 p3, .int .i64 p4, .int .i64 p5, .int .i64 p6, .int .i64 p7, .int .i64 p8, .int .i64 p9, .int .i64 p10, .int .i64 p11, .int .i64 p12]) := OwnC.new w3 [.int .i64 p1, .int .i64 p2, .int .i64 p3, .int .i64 p4, .int .i64 p5, .int .i64 p6, .int .i64 p7, .int .i64 p8, .int .i64 p9, .int .i64 p10, .int .i64 p11, .int .i64 p12] _ _ rfl
            have HPB : Hid (w2.heap.size ≤ w3.heap.size) := HG3.out.size
            generalize (w3.alloc (.cells #[.int .i64 p1, .int .i64 p2, .int .i64 p3, .int .i64 p4, .int .i64 p5, .int .i64 p6, .int .i64 p7, .int .i64 p8, .int .i64 p9, .int .i64 p10, .int .i64 p11, .int .i64 p12] 38)) = w4 at *
            generalize w3.heap.size = pb at *
            go_wp2_with (go_at_call 30; ((with_reducible refine (wakes11_any _).mono ?_); rintro e w9 ⟨rfl, hg⟩; have HG9 := Lib.hid hg; clear hg))
            go_ret
            exact ⟨rfl, grew_trans (grew_trans HG.out (grew_trans HGa.out HGb.out)) HG9.out⟩
        · obtain ⟨i1, i2⟩ := (wi_iff _ _ _).1 hw
          have i3 : price ≥ 1 := by omega
          rw [tell_c HOK.out hh hw, ← hp] at CT HUR
          replace HTT := Lib.hid (HTT.out hh hw)
          generalize ((r.1, putL noIn r.2.1 (setIn ((p1, p2, p3, p4, p5, p6), (p7, p8, p9, p10, p11, p12)) price), r.2.2) : Rl) = U at *
          have HURR := HUR.out rfl
          have HULN := Lib.hid (right_short HURR)
          have HXLN := Lib.hid (right_short (turn_right HURR))
          clear hp hh HUR
          have r0 := HR.out.at 0 _ rfl
          have r1 := HR.out.at 1 _ rfl
          have r2 := HR.out.at 2 _ rfl
          go_upto_region 11 with (go_at_call 37; ((with_reducible refine (CT _ (grew_refl _)).mono ?_); rintro e w1 ⟨D1, D2, D3, g1, g2, g3, rfl, ho, hg⟩; dsimp only [rlV]; have HO1 := Lib.hid ho; have HG1 := Lib.hid hg; clear ho hg r0 r1 r2))
          have HGa : Hid (Grew wc (w1.alloc (.cells #[.slice D1 U.1.length g1, .slice D2 U.2.1.length g2, .slice D3 U.2.2.length g3] 26))) := grew_trans HG1.out (grew_alloc _ _ _)
          have HU : Hid (OwnC (w1.alloc (.cells #[.slice D1 U.1.length g1, .slice D2 U.2.1.length g2, .slice D3 U.2.2.length g3] 26)) w1.heap.size [.slice D1 U.1.length g1, .slice D2 U.2.1.length g2, .slice D3 U.2.2.length g3]) := OwnC.new w1 [.slice D1 U.1.length g1, .slice D2 U.2.1.length g2, .slice D3 U.2.2.length g3] _ _ rfl
          have HUO := Lib.hid (HO1.out.keep (grew_alloc w1 #[.slice D1 U.1.length g1, .slice D2 U.2.1.length g2, .slice D3 U.2.2.length g3] 26))
          generalize (w1.alloc (.cells #[.slice D1 U.1.length g1, .slice D2 U.2.1.length g2, .slice D3 U.2.2.length g3] 26)) = w2 at *
          generalize w1.heap.size = ub at *
          have r0 := (HR.out.keep HGa.out).at 0 _ rfl
          have r1 := (HR.out.keep HGa.out).at 1 _ rfl
          have r2 := (HR.out.keep HGa.out).at 2 _ rfl
          go_upto_region 12 with (go_at_call 15; ((with_reducible refine (CF _ HGa.out).mono ?_); rintro e w3 ⟨rfl, hg⟩; have HG3 := Lib.hid hg; clear hg r0 r1 r2))
          have HGb : Hid (Grew w2 (w3.alloc (.cells #[.int .i64 p1, .int .i64 p2, .int .i64 p3, .int .i64 p4, .int .i64 p5, .int .i64 p6, .int .i64 p7, .int .i64 p8, .int .i64 p9, .int .i64 p10, .int .i64 p11, .int .i64 p12] 38))) := grew_trans HG3.out (grew_alloc _ _ _)
          have HP : Hid (OwnC (w3.alloc (.cells #[.int .i64 p1, .int .i64 p2, .int .i64 p3, .int .i64 p4, .int .i64 p5, .int .i64 p6, .int .i64 p7, .int .i64 p8, .int .i64 p9, .int .i64 p10, .int .i64 p11, .int .i64 p12] 38)) w3.heap.size [.int .i64 p1, .int .i64 p2, .int .i64 p3, .int .i64 p4, .int .i64 p5, .int .i64 p6, .int .i64 p7, .int .i64 p8, .int .i64 p9, .int .i64 p10, .int .i64 p11, .int .i64 p12]) := OwnC.new w3 [.int .i64 p1, .int .i64 p2, .int .i64 p3, .int .i64 p4, .int .i64 p5, .int .i64 p6, .int .i64 p7, .int .i64 p8, .int .i64 p9, .int .i64 p10, .int .i64 p11, .int .i64 p12] _ _ rfl
          have HPB : Hid (w2.heap.size ≤ w3.heap.size) := HG3.out.size
          generalize (w3.alloc (.cells #[.int .i64 p1, .int .i64 p2, .int .i64 p3, .int .i64 p4, .int .i64 p5, .int .i64 p6, .int .i64 p7, .int .i64 p8, .int .i64 p9, .int .i64 p10, .int .i64 p11, .int .i64 p12] 38)) = w4 at *
          generalize w3.heap.size = pb at *
          have f4 : w4.frozen? ⟨pb, 4, none⟩ = false := HP.out.fr 4 (by show 4 < 12; omega)
          have u0 := (HU.out.keep HGb.out).at 0 _ rfl
          have u1 := (HU.out.keep HGb.out).at 1 _ rfl
          have u2 := (HU.out.keep HGb.out).at 2 _ rfl
          have HUO4 := Lib.hid (HUO.out.keep HGb.out)
          have CX := fun w' (g : Grew w4 w') => turn_any U D1 D2 D3 U.1.length U.2.1.length U.2.2.length g1 g2 g3 w' (HUO4.out.in3.keep g) (by have := HULN.out; omega)
          dsimp only [rlV] at CX
          go_upto_region 17 with (go_at_call 22; ((with_reducible refine (CX _ (grew_refl _)).mono ?_); rintro e w5 ⟨E1, E2, E3, e1, e2, e3, rfl, ho, hg⟩; dsimp only [rlV]; have HO5 := Lib.hid ho; have HG5 := Lib.hid hg; clear ho hg u0 u1 u2))
          have HGc : Hid (Grew w4 (w5.alloc (.cells #[.slice E1 (turnF U).1.length e1, .slice E2 (turnF U).2.1.length e2, .slice E3 (turnF U).2.2.length e3] 26))) := grew_trans HG5.out (grew_alloc _ _ _)
          have HX : Hid (OwnC (w5.alloc (.cells #[.slice E1 (turnF U).1.length e1, .slice E2 (turnF U).2.1.length e2, .slice E3 (turnF U).2.2.length e3] 26)) w5.heap.size [.slice E1 (turnF U).1.length e1, .slice E2 (turnF U).2.1.length e2, .slice E3 (turnF U).2.2.length e3]) := OwnC.new w5 [.slice E1 (turnF U).1.length e1, .slice E2 (turnF U).2.1.length e2, .slice E3 (turnF U).2.2.length e3] _ _ rfl
          have HXO := Lib.hid (HO5.out.keep (grew_alloc w5 #[.slice E1 (turnF U).1.length e1, .slice E2 (turnF U).2.1.length e2, .slice E3 (turnF U).2.2.length e3] 26))
          have HXB : Hid (w4.heap.size ≤ w5.heap.size) := HG5.out.size
          generalize (w5.alloc (.cells #[.slice E1 (turnF U).1.length e1, .slice E2 (turnF U).2.1.length e2, .slice E3 (turnF U).2.2.length e3] 26)) = w6 at *
          generalize w5.heap.size = xb at *
          have x0 := HX.out.at 0 _ rfl
          have x1 := HX.out.at 1 _ rfl
          have x2 := HX.out.at 2 _ rfl
          have CO := fun w' (g : Grew w6 w') => pfindIn_any E1 E2 E3 (turnF U).1.length (turnF U).2.1.length (turnF U).2.2.length e1 e2 e3 (turnF U).2.1 no w' (HXO.out.in3.rows.i.keep g) (by have := HXLN.out; omega) (fun w hh => firstIn_any E2 (turnF U).2.1.length e2 (turnF U).2.1 no w hh (by have := HXLN.out; omega))
          rw [HTT.out.1, HTT.out.2] at CO
          dsimp only [vIn] at CO
          go_upto_region 18 with (go_at_call 15; ((with_reducible refine (CO _ (grew_refl _)).mono ?_); rintro e w7 ⟨rfl, hg⟩; have HG7 := Lib.hid hg; clear hg x0 x1 x2))
          have HGd : Hid (Grew w6 (w7.alloc (.cells #[.int .i64 p1, .int .i64 p2, .int .i64 p3, .int .i64 p4, .int .i64 0, .int .i64 price, .int .i64 p7, .int .i64 p8, .int .i64 p9, .int .i64 p10, .int .i64 p11, .int .i64 p12] 38))) := grew_trans HG7.out (grew_alloc _ _ _)
          have HOB : Hid (OwnC (w7.alloc (.cells #[.int .i64 p1, .int .i64 p2, .int .i64 p3, .int .i64 p4, .int .i64 0, .int .i64 price, .int .i64 p7, .int .i64 p8, .int .i64 p9, .int .i64 p10, .int .i64 p11, .int .i64 p12] 38)) w7.heap.size [.int .i64 p1, .int .i64 p2, .int .i64 p3, .int .i64 p4, .int .i64 0, .int .i64 price, .int .i64 p7, .int .i64 p8, .int .i64 p9, .int .i64 p10, .int .i64 p11, .int .i64 p12]) := OwnC.new w7 [.int .i64 p1, .int .i64 p2, .int .i64 p3, .int .i64 p4, .int .i64 0, .int .i64 price, .int .i64 p7, .int .i64 p8, .int .i64 p9, .int .i64 p10, .int .i64 p11, .int .i64 p12] _ _ rfl
          have HOS : Hid (w6.heap.size ≤ w7.heap.size) := HG7.out.size
          generalize (w7.alloc (.cells #[.int .i64 p1, .int .i64 p2, .int .i64 p3, .int .i64 p4, .int .i64 0, .int .i64 price, .int .i64 p7, .int .i64 p8, .int .i64 p9, .int .i64 p10, .int .i64 p11, .int .i64 p12] 38)) = w8 at *
          generalize w7.heap.size = ob at *
          have HPP := Lib.hid (((HP.out.keep HGc.out).keep HGd.out))
          have p0 := HPP.out.at 4 _ rfl
          have p1' := HPP.out.at 5 _ rfl
          have ff4 := HPP.out.fr 4 (by show 4 < 12; omega)
          have ff5 := HPP.out.fr 5 (by show 5 < 12; omega)
          go_upto_region 19 with fail
          have hpx : pb < xb := Nat.lt_of_lt_of_le HP.out.lt HXB.out
          have hpo : pb < ob := Nat.lt_of_lt_of_le hpx (Nat.le_of_lt (Nat.lt_of_lt_of_le HX.out.lt HOS.out))
          have HP9 := Lib.hid ((HPP.out.set 4 (.int .i64 0) (by show 4 < 12; omega)).set 5 (.int .i64 price) (by show 5 < 12; omega))
          have HX9 := Lib.hid (((HX.out.keep HGd.out).other ⟨pb, 4, none⟩ (.int .i64 0) (Nat.ne_of_lt hpx)).other ⟨pb, 5, none⟩ (.int .i64 price) (Nat.ne_of_lt hpx))
          have HO9 := Lib.hid ((HOB.out.other ⟨pb, 4, none⟩ (.int .i64 0) (Nat.ne_of_lt hpo)).other ⟨pb, 5, none⟩ (.int .i64 price) (Nat.ne_of_lt hpo))
          have HXO9 : Hid (Own3 ((w8.setCell ⟨pb, 4, none⟩ (.int .i64 0)).setCell ⟨pb, 5, none⟩ (.int .i64 price)) w4.heap.size (turnF U) E1 E2 E3 e1 e2 e3) := Lib.hid ((HXO.out.keep HGd.out).put [.int .i64 0, .int .i64 price] 4 HP.out.lt)
          have hwp : w.heap.size ≤ pb := Nat.le_trans (Nat.le_trans HG.out.size HGa.out.size) HPB.out
          have HGW : Hid (Grew w ((w8.setCell ⟨pb, 4, none⟩ (.int .i64 0)).setCell ⟨pb, 5, none⟩ (.int .i64 price))) := grew_set (grew_set (grew_trans HG.out (grew_trans HGa.out (grew_trans HGb.out (grew_trans HGc.out HGd.out)))) _ hwp) _ hwp
          dsimp only [List.set] at HP9
          clear p0 p1' ff4 ff5 f4
          generalize (w8.setCell ⟨pb, 4, none⟩ (.int .i64 0)).setCell ⟨pb, 5, none⟩ (.int .i64 price) = wz at *
          have CI := fun w' => keepInst_yes ((p1, p2, p3, p4, 0, price), (p7, p8, p9, p10, p11, p12)) w'
          dsimp only [vIn] at CI
          have CY := fun w' (g : Grew wz w') => turn_any (turnF U) E1 E2 E3 (turnF U).1.length (turnF U).2.1.length (turnF U).2.2.length e1 e2 e3 w' (HXO9.out.in3.keep g) (by have := HXLN.out; omega)
          rw [turnF_once] at CY
          have CK := fun w' (g : Grew wz w') (F1 F2 F3 : Option Addr) (f1 f2 f3 : Nat) (hh : Rows3 w' (turnF U) F1 F2 F3 (turnF U).1.length (turnF U).2.1.length (turnF U).2.2.length) => keepRoll_yes (turnF U) F1 F2 F3 E1 E2 E3 (turnF U).1.length (turnF U).2.1.length (turnF U).2.2.length f1 f2 f3 e1 e2 e3 w' hh (HXO9.out.in3.rows.keep g) (by have := HXLN.out; omega)
          dsimp only [rlV] at CY CK
          have HK : Hid (∀ w', Grew wz w' → (w'.cell? ⟨xb, 0, none⟩ = some (.slice E1 (turnF U).1.length e1) ∧ w'.cell? ⟨xb, 1, none⟩ = some (.slice E2 (turnF U).2.1.length e2) ∧ w'.cell? ⟨xb, 2, none⟩ = some (.slice E3 (turnF U).2.2.length e3)) ∧ (w'.cell? ⟨ob, 0, none⟩ = some (.int .i64 p1) ∧ w'.cell? ⟨ob, 1, none⟩ = some (.int .i64 p2) ∧ w'.cell? ⟨ob, 2, none⟩ = some (.int .i64 p3) ∧ w'.cell? ⟨ob, 3, none⟩ = some (.int .i64 p4) ∧ w'.cell? ⟨ob, 4, none⟩ = some (.int .i64 0) ∧ w'.cell? ⟨ob, 5, none⟩ = some (.int .i64 price) ∧ w'.cell? ⟨ob, 6, none⟩ = some (.int .i64 p7) ∧ w'.cell? ⟨ob, 7, none⟩ = some (.int .i64 p8) ∧ w'.cell? ⟨ob, 8, none⟩ = some (.int .i64 p9) ∧ w'.cell? ⟨ob, 9, none⟩ = some (.int .i64 p10) ∧ w'.cell? ⟨ob, 10, none⟩ = some (.int .i64 p11) ∧ w'.cell? ⟨ob, 11, none⟩ = some (.int .i64 p12)) ∧ w'.cell? ⟨pb, 0, none⟩ = some (.int .i64 p1) ∧ w'.cell? ⟨pb, 1, none⟩ = some (.int .i64 p2) ∧ w'.cell? ⟨pb, 2, none⟩ = some (.int .i64 p3) ∧ w'.cell? ⟨pb, 3, none⟩ = some (.int .i64 p4) ∧ w'.cell? ⟨pb, 4, none⟩ = some (.int .i64 0) ∧ w'.cell? ⟨pb, 5, none⟩ = some (.int .i64 price) ∧ w'.cell? ⟨pb, 6, none⟩ = some (.int .i64 p7) ∧ w'.cell? ⟨pb, 7, none⟩ = some (.int .i64 p8) ∧ w'.cell? ⟨pb, 8, none⟩ = some (.int .i64 p9) ∧ w'.cell? ⟨pb, 9, none⟩ = some (.int .i64 p10) ∧ w'.cell? ⟨pb, 10, none⟩ = some (.int .i64 p11) ∧ w'.cell? ⟨pb, 11, none⟩ = some (.int .i64 p12)) := fun w' g =>
            ⟨⟨(HX9.out.keep g).at 0 _ rfl, (HX9.out.keep g).at 1 _ rfl, (HX9.out.keep g).at 2 _ rfl⟩, ⟨(HO9.out.keep g).at 0 _ rfl, (HO9.out.keep g).at 1 _ rfl, (HO9.out.keep g).at 2 _ rfl, (HO9.out.keep g).at 3 _ rfl, (HO9.out.keep g).at 4 _ rfl, (HO9.out.keep g).at 5 _ rfl, (HO9.out.keep g).at 6 _ rfl, (HO9.out.keep g).at 7 _ rfl, (HO9.out.keep g).at 8 _ rfl, (HO9.out.keep g).at 9 _ rfl, (HO9.out.keep g).at 10 _ rfl, (HO9.out.keep g).at 11 _ rfl⟩, (HP9.out.keep g).at 0 _ rfl, (HP9.out.keep g).at 1 _ rfl, (HP9.out.keep g).at 2 _ rfl, (HP9.out.keep g).at 3 _ rfl, (HP9.out.keep g).at 4 _ rfl, (HP9.out.keep g).at 5 _ rfl, (HP9.out.keep g).at 6 _ rfl, (HP9.out.keep g).at 7 _ rfl, (HP9.out.keep g).at 8 _ rfl, (HP9.out.keep g).at 9 _ rfl, (HP9.out.keep g).at 10 _ rfl, (HP9.out.keep g).at 11 _ rfl⟩
          go_region_held3 (fun w' => (w'.cell? ⟨xb, 0, none⟩ = some (.slice E1 (turnF U).1.length e1) ∧ w'.cell? ⟨xb, 1, none⟩ = some (.slice E2 (turnF U).2.1.length e2) ∧ w'.cell? ⟨xb, 2, none⟩ = some (.slice E3 (turnF U).2.2.length e3)) ∧ (w'.cell? ⟨ob, 0, none⟩ = some (.int .i64 p1) ∧ w'.cell? ⟨ob, 1, none⟩ = some (.int .i64 p2) ∧ w'.cell? ⟨ob, 2, none⟩ = some (.int .i64 p3) ∧ w'.cell? ⟨ob, 3, none⟩ = some (.int .i64 p4) ∧ w'.cell? ⟨ob, 4, none⟩ = some (.int .i64 0) ∧ w'.cell? ⟨ob, 5, none⟩ = some (.int .i64 price) ∧ w'.cell? ⟨ob, 6, none⟩ = some (.int .i64 p7) ∧ w'.cell? ⟨ob, 7, none⟩ = some (.int .i64 p8) ∧ w'.cell? ⟨ob, 8, none⟩ = some (.int .i64 p9) ∧ w'.cell? ⟨ob, 9, none⟩ = some (.int .i64 p10) ∧ w'.cell? ⟨ob, 10, none⟩ = some (.int .i64 p11) ∧ w'.cell? ⟨ob, 11, none⟩ = some (.int .i64 p12)) ∧ w'.cell? ⟨pb, 0, none⟩ = some (.int .i64 p1) ∧ w'.cell? ⟨pb, 1, none⟩ = some (.int .i64 p2) ∧ w'.cell? ⟨pb, 2, none⟩ = some (.int .i64 p3) ∧ w'.cell? ⟨pb, 3, none⟩ = some (.int .i64 p4) ∧ w'.cell? ⟨pb, 4, none⟩ = some (.int .i64 0) ∧ w'.cell? ⟨pb, 5, none⟩ = some (.int .i64 price) ∧ w'.cell? ⟨pb, 6, none⟩ = some (.int .i64 p7) ∧ w'.cell? ⟨pb, 7, none⟩ = some (.int .i64 p8) ∧ w'.cell? ⟨pb, 8, none⟩ = some (.int .i64 p9) ∧ w'.cell? ⟨pb, 9, none⟩ = some (.int .i64 p10) ∧ w'.cell? ⟨pb, 10, none⟩ = some (.int .i64 p11) ∧ w'.cell? ⟨pb, 11, none⟩ = some (.int .i64 p12))
            (first
              | (with_reducible exact HK.out _ (grew_drew (grew_refl _)))
              | (with_reducible exact HK.out _ HGD.out)
              | (with_reducible exact HK.out _ HGC.out)
              | (with_reducible exact HK.out _ HGB2.out)
              | (with_reducible exact HK.out _ HGA.out))
            (first
              | (go_at_call 20; ((with_reducible refine (CI _).mono ?_); rintro e wA ⟨rfl, hg⟩; have HGA : Hid (Grew wz wA) := grew_trans (grew_drew (grew_refl _)) hg; clear hg))
              | (go_at_call 22; ((with_reducible refine (CY _ HGA.out).mono ?_); rintro e wB ⟨F1, F2, F3, f1, f2, f3, rfl, ho, hg⟩; dsimp only [rlV]; have HGB2 : Hid (Grew wz wB) := grew_trans HGA.out hg; have HOW := Lib.hid ho; clear ho hg))
              | (go_at_call 23; ((with_reducible refine (CK _ HGB2.out _ _ _ _ _ _ HOW.out.in3.rows).mono ?_); rintro e wC ⟨rfl, hg⟩; have HGC : Hid (Grew wz wC) := grew_trans HGB2.out hg; clear hg))
              | (go_at_call 30; ((with_reducible refine (wakes11_any _).mono ?_); rintro e wD ⟨rfl, hg⟩; have HGD : Hid (Grew wz wD) := grew_trans HGC.out hg; clear hg)))
          all_goals
            (go_wp2_with fail
             go_ret
             exact ⟨rfl, grew_trans HGW.out HGD.out⟩)
end Go.Proofs.Ytnbgbfbiieimgaa.NumK
namespace Go.Proofs.Ytnbgbfbiieimgaa.rollTurns
open Go.ChangeShapes Go.WideShapes Go.ChangeAt Go.RowKit
set_option linter.unusedVariables false

theorem own : ownKnob Try.prog.godebug = none := by kernel_rfl
theorem laidOut : laidOutB Try.prog = true := by kernel_rfl

set_option maxRecDepth 100000 in
theorem lifted (os : Os) (started : os.Started) (H : Type) (enc : TypeId × Value → H) :
    ReturnsInHanded {} Try.checked os 6 .any (Rows.rollTurnsSpec.pre6 enc Try.prog Try.f6 Rows.rollTurnsRow.domain false) (Rows.rollTurnsSpec.post enc Try.prog Try.f6 false true false false) := by
  refine returnsInHanded_of_change (C := Try.checked) own started (by kernel_rfl) Try.func6
    (ChangeSpec.witness6 (enc := enc) (C := Try.checked) false ⟨#[], #[.slice none 0 0, .int .i64 0, .int .i64 0], []⟩ 8 (by kernel_rfl) (by kernel_rfl) (by kernel_rfl) (by kernel_rfl)) ?_
  intro W base args ds gs before hval0 hW hcnd _
  have hval : ∀ (j : Nat) t v, Try.f6.params[j]? = some t → args[j]? = some v → Value.okWide Try.prog W .any base t v := hval0
  have hW' := hW
  obtain ⟨p, q, hA0, hV, rfl, hfz, hnd⟩ := hW
  have hA : DataW.TrodAll enc Try.prog W 0 (fun _ => true) true Try.f6.params.toList args.toList ds p := hA0
  skip
  rw [Try.params6] at hA hval
  obtain ⟨v0, vs0, d0, ds0, p0, q0, hargs, rfl, rfl, h0, r0⟩ := trodAll_cons hA
  obtain ⟨v1, vs1, d1, ds1, p1, q1, rfl, rfl, rfl, h1, r1⟩ := trodAll_cons r0
  obtain ⟨v2, vs2, d2, ds2, p2, q2, rfl, rfl, rfl, h2, r2⟩ := trodAll_cons r1
  obtain ⟨rfl, rfl, rfl⟩ := trodAll_nil r2
  obtain rfl : args = #[v0, v1, v2] := by cases args; simp_all
  obtain ⟨rfl, rfl⟩ := trodVars_none hV
  have k0 := h0
  have lt0 : ∀ x ∈ p0, x.block < W.heap.size := by obtain ⟨m, hm⟩ := k0; exact DataW.trod_lt m _ _ _ hm
  obtain ⟨A0, len0, cap0, l0, rfl, ro0, n0, c0, m0⟩ := NumK.arg_slice Try.underlying61 NumK.opens_acts (hval 0 61 v0 rfl rfl) h0
  obtain ⟨a1, rfl, rfl, rfl, w1⟩ := open_int Try.underlying3 (hval 1 3 v1 rfl rfl) h1
  obtain ⟨a2, rfl, rfl, rfl, w2⟩ := open_int Try.underlying3 (hval 2 3 v2 rfl rfl) h2
  clear hA0 hval0
  refine (NumK.rollTurns_walk A0 len0 cap0 l0 a1 a2 W (NumK.acts_of ro0) (by omega)).mono fun e W' ⟨he, bel⟩ => ?_
  subst he
  exact ⟨_, rfl, _, _, _, [], _, [], hW', trodAll_mk1 (shut_bool Try.underlying4 _), (trodAll_cons_mk (Below.trod laidOut (by kernel_rfl) (of_decide_eq_true (by kernel_rfl)) k0 bel lt0) (trodAll_cons_mk (shut_int Try.underlying3 w1) (trodAll_cons_mk (shut_int Try.underlying3 w2) trodAll_mk0))), rfl, bel.frame _, fun h => by cases h⟩

theorem over : Rows.rollTurnsRow.holds Try.pinned (OpenSpec.ofChange Rows.rollTurnsSpec) :=
  OpenClaim.holds_of_wide 6 Try.f6 rfl rfl rfl rfl rfl rfl rfl ⟨rfl, rfl, rfl, rfl, rfl⟩ rfl rfl rfl rfl rfl (by kernel_rfl) Try.func6 (by kernel_rfl)
    (of_decide_eq_true (by kernel_rfl)) (by unfold Func.isWrapper; first | (rw [if_pos (by decide +kernel)]; kernel_rfl) | (rw [if_neg (by decide +kernel)]; exact ⟨rfl, rfl⟩))
    (fun os started H enc _ => lifted os started H enc)

/-! ### the statement -/
theorem proved : Rows.RollTurnsSaid := over
end Go.Proofs.Ytnbgbfbiieimgaa.rollTurns
