/-
  Behind each of the first 100 of whatever acts: what is refused tells an empty roll; what is done tells a right roll of no fewer rows; more than 500 acts the statement lets by.
-/
import Derived.Test.YtnbgbfbiieimgaaRS
import Derived.Deep.MidRow
import Derived.Test.YtnbgbfbiieimgaaRows
import Derived.WalkKit
import Derived.ProofKit
import Derived.OpenShut
import Derived.ShutString
import Derived.ChangeOld
import Derived.Below
import Derived.Carry
namespace Go.Proofs.Ytnbgbfbiieimgaa.NumK
open Go.RowKit
set_option linter.unusedVariables false

set_option maxRecDepth 100000 in
set_option maxHeartbeats 8000000 in
theorem rollSound_walk (A : Option Addr) (n c : Nat) (l : List Act11) (w : World) (h : RowE enAct w A n l) (hn : n ≤ 9223372036854775807) :
    Calls Try.prog 5 #[.slice A n c] w fun e w' => e = .returned (.bool true) ∧ Grew w w' := by
  have HA := Lib.hid h
  have HAL := Lib.hid h.len
  clear h
  by_cases hbig : n > 500
  · have j1 : (n : Int) > 500 := by omega
    go_enter Try.func5, Try.ntmps5
    go_wp2
    go_ret
    exact ⟨rfl, grew_refl _⟩
  · have j1 : ¬ (n : Int) > 500 := by omega
    go_enter Try.func5, Try.ntmps5
    go_upto_block 0 with fail
    have HW1 : Hid (Grew w (w.alloc (.cells #[.slice none 0 0, .slice none 0 0, .slice none 0 0] 26))) := grew_alloc _ _ _
    have HR1 : Hid (OwnC (w.alloc (.cells #[.slice none 0 0, .slice none 0 0, .slice none 0 0] 26)) w.heap.size [.slice none 0 0, .slice none 0 0, .slice none 0 0]) := OwnC.new w [.slice none 0 0, .slice none 0 0, .slice none 0 0] _ _ rfl
    generalize w.alloc (.cells #[.slice none 0 0, .slice none 0 0, .slice none 0 0] 26) = w1 at *
    go_cut [4, 5, 6] from 11 to 79 (fun v4 v5 v6 wx => ∃ (r : Rl) (A1 A2 A3 : Option Addr) (c1 c2 c3 : Nat), Hid (OwnC wx w.heap.size [.slice A1 r.1.length c1, .slice A2 r.2.1.length c2, .slice A3 r.2.2.length c3]) ∧ Hid (Own3 wx (w.heap.size + 1) r A1 A2 A3 c1 c2 c3) ∧ Hid (rightR r = true) ∧ Hid (Grew w wx))
    case first =>
     go_wp2_with fail
     go_loopw [4] (fun v wr => ∃ (i : Nat) (r : Rl) (A1 A2 A3 : Option Addr) (c1 c2 c3 : Nat), v = .int .i64 i ∧ i ≤ n ∧ i ≤ 100 ∧ Hid (OwnC wr w.heap.size [.slice A1 r.1.length c1, .slice A2 r.2.1.length c2, .slice A3 r.2.2.length c3]) ∧ Hid (Own3 wr (w.heap.size + 1) r A1 A2 A3 c1 c2 c3) ∧ Hid (rightR r = true) ∧ Hid (Grew w wr)) (fun v _ => 101 - (intOf v).toNat)
     case atStart => exact ⟨0, rl0, none, none, none, 0, 0, 0, rfl, by omega, by omega, HR1.out, own3_nil _ _, rl0_right, HW1.out⟩
     case round =>
       obtain ⟨i, r, A1, A2, A3, c1, c2, c3, rfl, hi, hi100, HR, HO, HOK, HG⟩ := hrel
       clear HW1 HR1
       have HSH := Lib.hid (right_short HOK.out)
       have r0 := HR.out.at 0 _ rfl
       have r1 := HR.out.at 1 _ rfl
       have r2 := HR.out.at 2 _ rfl
       have i0 : (0 : Int) ≤ (i : Int) := by omega
       by_cases hlt : i < n ∧ i < 100
       · have i1 : (i : Int) < (n : Int) := by omega
         have i2 : (i : Int) < 100 := by omega
         have hil : i < l.length := by rw [HAL.out]; exact hlt.1
         obtain ⟨b, o, rfl, hb, hcell⟩ := (HA.out.keep HG.out).at (by omega)
         have hc := hcell i hil
         clear hcell
         generalize l[i] = x at *
         obtain ⟨dd, aa, bb, ⟨⟨q1, q2, q3, q4, q5, q6⟩, ⟨q7, q8, q9, q10, q11, q12⟩⟩, ⟨h1, h2, h3, h4⟩⟩ := x
         have hc2 : ∀ k, k < 19 → wr.cell? ⟨b, o + i * 19 + k, none⟩ = [Value.int .i64 dd, .int .i64 aa, .int .i64 bb, .int .i64 q1, .int .i64 q2, .int .i64 q3, .int .i64 q4, .int .i64 q5, .int .i64 q6, .int .i64 q7, .int .i64 q8, .int .i64 q9, .int .i64 q10, .int .i64 q11, .int .i64 q12, .int .i64 h1, .int .i64 h2, .int .i64 h3, .int .i64 h4][k]? := hc
         clear hc
         have HRG : ∀ w', Grew wr w' → w'.rangeAt b (o + i * 19) [.int .i64 dd, .int .i64 aa, .int .i64 bb, .int .i64 q1, .int .i64 q2, .int .i64 q3, .int .i64 q4, .int .i64 q5, .int .i64 q6, .int .i64 q7, .int .i64 q8, .int .i64 q9, .int .i64 q10, .int .i64 q11, .int .i64 q12, .int .i64 h1, .int .i64 h2, .int .i64 h3, .int .i64 h4] := fun w' g j v hv => (grew_cell g (p := ⟨b, o + i * 19 + j, none⟩) hb).trans ((hc2 j (by have hj := (List.getElem?_eq_some_iff.1 hv).1; exact hj)).trans hv)
         have HRG := Lib.hid HRG
         have CD := fun w' (g : Grew wr w') => do_any r (dd, aa, bb, ((q1, q2, q3, q4, q5, q6), (q7, q8, q9, q10, q11, q12)), (h1, h2, h3, h4)) A1 A2 A3 r.1.length r.2.1.length r.2.2.length c1 c2 c3 w' (HO.out.in3.keep g) (by have := HSH.out; omega)
         dsimp only [rlV, vAct] at CD
         have HDC := Lib.hid (do_right HOK.out (dd, aa, bb, ((q1, q2, q3, q4, q5, q6), (q7, q8, q9, q10, q11, q12)), (h1, h2, h3, h4)))
         have HDL := Lib.hid (fun h0 => right_short (do_right HOK.out (dd, aa, bb, ((q1, q2, q3, q4, q5, q6), (q7, q8, q9, q10, q11, q12)), (h1, h2, h3, h4)) h0).1)
         have HDE := Lib.hid (fun h0 => do_err (r := r) (dd, aa, bb, ((q1, q2, q3, q4, q5, q6), (q7, q8, q9, q10, q11, q12)), (h1, h2, h3, h4)) h0)
         obtain ⟨⟨P, E⟩, hP⟩ : ∃ Q, doP r (dd, aa, bb, ((q1, q2, q3, q4, q5, q6), (q7, q8, q9, q10, q11, q12)), (h1, h2, h3, h4)) = Q := ⟨_, rfl⟩
         rw [hP] at CD HDC HDL HDE
         dsimp only at CD HDC HDL HDE
         clear hP
         clear hc2 r0 r1 r2
         go_upto_region 7 with fail
         go_cut [5, 6] from 21 to 29 (fun vt ve wx => ∃ (T : Nat) (D1 D2 D3 : Option Addr) (g1 g2 g3 : Nat), vt = .pointer (some ⟨T, 0, none⟩) ∧ ve = .int .i64 E ∧ Hid (wr.heap.size ≤ T ∧ OwnC wx T [.slice D1 P.1.length g1, .slice D2 P.2.1.length g2, .slice D3 P.2.2.length g3] ∧ Own3 wx wr.heap.size P D1 D2 D3 g1 g2 g3 ∧ Grew wr wx))
         case first =>
           refine wp_region_noPanic ?_
           refine wp_region_held_drew (S := fun w' => Grew wr w') (by kernel_rfl) (grew_drew (grew_refl _)) (fun hH0 => ?_)
           refine wpAnyH_take (i := 0) (oi := { dst := some 22, op := Op.load 26 (Operand.tmp 3), type := 26, pos := "law.go:119", after := #[], guard := none }) (v := ?_) rfl (by kernel_rfl) (by kernel_rfl) (by kernel_rfl) (fun _ _ _ h => h) (Or.inl ⟨by rfl, ?hy1⟩) hH0 ?rest1
           case hy1 => (intro wq hSw; replace hSw : Grew wr wq := hSw; have z0 := (HR.out.keep hSw).at 0 _ rfl; have z1 := (HR.out.keep hSw).at 1 _ rfl; have z2 := (HR.out.keep hSw).at 2 _ rfl; clear hSw; first | (go_simp; done) | (go_simp; with_reducible rfl))
           try simp only [Act.put, List.setIfInBounds_toArray, List.set_cons_zero, List.set_cons_succ]
           refine wpAnyH_take (i := 1) (oi := { dst := some 23, op := Op.move (Operand.tmp 0), type := 61, pos := "law.go:119", after := #[], guard := none }) (v := ?_) rfl (by kernel_rfl) (by kernel_rfl) (by kernel_rfl) (fun _ _ _ h => h) (Or.inl ⟨by rfl, ?hy2⟩) hH0 ?rest2
           case hy2 => (intro wq hSw; replace hSw : Grew wr wq := hSw; clear hSw; first | (go_simp; done) | (go_simp; with_reducible rfl))
           try simp only [Act.put, List.setIfInBounds_toArray, List.set_cons_zero, List.set_cons_succ]
           refine wpAnyH_take (i := 2) (oi := { dst := some 24, op := Op.move (Operand.tmp 4), type := 3, pos := "law.go:119", after := #[], guard := none }) (v := ?_) rfl (by kernel_rfl) (by kernel_rfl) (by kernel_rfl) (fun _ _ _ h => h) (Or.inl ⟨by rfl, ?hy3⟩) hH0 ?rest3
           case hy3 => (intro wq hSw; replace hSw : Grew wr wq := hSw; clear hSw; first | (go_simp; done) | (go_simp; with_reducible rfl))
           try simp only [Act.put, List.setIfInBounds_toArray, List.set_cons_zero, List.set_cons_succ]
           refine wpAnyH_take (i := 3) (oi := { dst := some 25, op := Op.indexAddr 61 (Operand.tmp 23) (Operand.tmp 24), type := 0, pos := "law.go:119", after := #[{ on := 1, ground := Ground.data }, { on := 2, ground := Ground.data }], guard := none }) (v := ?_) rfl (by kernel_rfl) (by kernel_rfl) (by kernel_rfl) (fun _ _ _ h => h) (Or.inl ⟨by rfl, ?hy4⟩) hH0 ?rest4
           case hy4 => (intro wq hSw; replace hSw : Grew wr wq := hSw; clear hSw; first | (go_simp; done) | (go_simp; with_reducible rfl))
           try simp only [Act.put, List.setIfInBounds_toArray, List.set_cons_zero, List.set_cons_succ]
           refine wpAnyH_take (i := 4) (oi := { dst := some 26, op := Op.load 64 (Operand.tmp 25), type := 64, pos := "law.go:119", after := #[{ on := 3, ground := Ground.data }], guard := none }) (v := .agg #[.int .i64 dd, .int .i64 aa, .int .i64 bb, .int .i64 q1, .int .i64 q2, .int .i64 q3, .int .i64 q4, .int .i64 q5, .int .i64 q6, .int .i64 q7, .int .i64 q8, .int .i64 q9, .int .i64 q10, .int .i64 q11, .int .i64 q12, .int .i64 h1, .int .i64 h2, .int .i64 h3, .int .i64 h4]) rfl (by kernel_rfl) (by kernel_rfl) (by kernel_rfl) (fun _ _ _ h => h) (yieldsIf_load_mid (by rfl) _ _ rfl b (o + i * 19) rfl [.int .i64 dd, .int .i64 aa, .int .i64 bb, .int .i64 q1, .int .i64 q2, .int .i64 q3, .int .i64 q4, .int .i64 q5, .int .i64 q6, .int .i64 q7, .int .i64 q8, .int .i64 q9, .int .i64 q10, .int .i64 q11, .int .i64 q12, .int .i64 h1, .int .i64 h2, .int .i64 h3, .int .i64 h4] _ (fun w' hSw => HRG.out w' hSw) Try.underlying64 (by rfl) (by kernel_rfl)) hH0 ?_
           try simp only [Act.put, List.setIfInBounds_toArray, List.set_cons_zero, List.set_cons_succ]
           refine wpAnyH_ready (rs := [5, 9]) (by kernel_rfl) (by simp) ?_
           refine AllReadyH.cons (o := { dst := some 27, op := Op.call { callee := Callee.value (Operand.func 41), args := #[Operand.tmp 22, Operand.tmp 26], argTypes := #[26, 64] }, type := 56, pos := "law.go:119", after := #[{ on := 0, ground := Ground.data }, { on := 4, ground := Ground.data }], guard := none }) rfl (fun K hK => ?_) ?_
           · go_simp
             refine (CD _ (grew_drew (grew_refl _))).mono ?_
             rintro e w5 ⟨D1, D2, D3, g1, g2, g3, rfl, ho, hg⟩
             dsimp only [rlV] at ho ⊢
             have HO5 := Lib.hid ho
             have HG5 : Hid (Grew wr w5) := grew_trans (grew_drew (grew_refl _)) hg
             clear ho hg
             refine hK.out _ _ HG5.out (fun hH5 => ?_)
             clear hK K
             try simp only [Act.put, List.setIfInBounds_toArray, List.set_cons_zero, List.set_cons_succ]
             refine wpAnyH_take (i := 6) (oi := { dst := some 21, op := Op.move (Operand.tmp 27), type := 56, pos := "law.go:119", after := #[{ on := 5, ground := Ground.data }], guard := none }) (v := ?_) rfl (by kernel_rfl) (by kernel_rfl) (by kernel_rfl) (fun _ _ _ h => h) (Or.inl ⟨by rfl, ?hy5⟩) hH5 ?rest5
             case hy5 => (intro wq hSw; replace hSw : Grew wr wq := hSw; clear hSw; first | (go_simp; done) | (go_simp; with_reducible rfl))
             try simp only [Act.put, List.setIfInBounds_toArray, List.set_cons_zero, List.set_cons_succ]
             refine wpAnyH_take (i := 7) (oi := { dst := some 28, op := Op.extract (Operand.tmp 21) 0, type := 26, pos := "law.go:119", after := #[{ on := 6, ground := Ground.data }], guard := none }) (v := ?_) rfl (by kernel_rfl) (by kernel_rfl) (by kernel_rfl) (fun _ _ _ h => h) (Or.inl ⟨by rfl, ?hy6⟩) hH5 ?rest6
             case hy6 => (intro wq hSw; replace hSw : Grew wr wq := hSw; clear hSw; first | (go_simp; done) | (go_simp; with_reducible rfl))
             try simp only [Act.put, List.setIfInBounds_toArray, List.set_cons_zero, List.set_cons_succ]
             refine wpAnyH_take (i := 8) (oi := { dst := some 29, op := Op.extract (Operand.tmp 21) 1, type := 30, pos := "law.go:119", after := #[{ on := 6, ground := Ground.data }, { on := 10, ground := Ground.gcOnly Departure.lateStores }], guard := none }) (v := ?_) rfl (by kernel_rfl) (by kernel_rfl) (by kernel_rfl) (fun _ _ _ h => h) (Or.inl ⟨by rfl, ?hy7⟩) hH5 ?rest7
             case hy7 => (intro wq hSw; replace hSw : Grew wr wq := hSw; clear hSw; first | (go_simp; done) | (go_simp; with_reducible rfl))
             try simp only [Act.put, List.setIfInBounds_toArray, List.set_cons_zero, List.set_cons_succ]
             refine wpAnyH_ready (rs := [9]) (by kernel_rfl) (by simp) ?_
             refine AllReadyH.cons (o := { dst := some 5, op := Op.alloc 26, type := 0, pos := "law.go:119", after := #[], guard := none }) rfl (fun K hK => ?_) ?_
             · go_simp
               refine hK.out _ _ (grew_trans HG5.out (grew_alloc _ _ _)) (fun hH9 => ?_)
               clear hK K
               try simp only [Act.put, List.setIfInBounds_toArray, List.set_cons_zero, List.set_cons_succ]
               refine wpAnyH_ready (rs := [10]) (by kernel_rfl) (by simp) ?_
               refine AllReadyH.cons (o := { dst := none, op := Op.store 26 (Operand.tmp 5) (Operand.tmp 28), type := 0, pos := "law.go:119", after := #[{ on := 9, ground := Ground.data }, { on := 7, ground := Ground.data }, { on := 5, ground := Ground.chain }, { on := 0, ground := Ground.phase }, { on := 1, ground := Ground.phase }, { on := 2, ground := Ground.phase }, { on := 3, ground := Ground.phase }, { on := 4, ground := Ground.phase }, { on := 5, ground := Ground.phase }, { on := 6, ground := Ground.phase }, { on := 7, ground := Ground.phase }, { on := 8, ground := Ground.textOnly Departure.lateStores }, { on := 9, ground := Ground.phase }], guard := none }) rfl (fun K hK => ?_) ?_
               · go_simp
                 refine hK.out _ _ (grew_trans HG5.out (grew_alloc _ _ _)) (fun hH10 => ?_)
                 clear hK K
                 try simp only [Act.put, List.setIfInBounds_toArray, List.set_cons_zero, List.set_cons_succ]
                 refine wpAnyH_take (i := 11) (oi := { dst := some 6, op := Op.assign (Operand.tmp 29), type := 30, pos := "law.go:119", after := #[{ on := 8, ground := Ground.data }, { on := 10, ground := Ground.chain }, { on := 0, ground := Ground.phase }, { on := 1, ground := Ground.phase }, { on := 2, ground := Ground.phase }, { on := 3, ground := Ground.phase }, { on := 4, ground := Ground.phase }, { on := 5, ground := Ground.phase }, { on := 6, ground := Ground.phase }, { on := 7, ground := Ground.phase }, { on := 8, ground := Ground.phase }, { on := 9, ground := Ground.phase }, { on := 10, ground := Ground.phase }], guard := none }) (v := ?_) rfl (by kernel_rfl) (by kernel_rfl) (by kernel_rfl) (fun _ _ _ h => h) (Or.inl ⟨by rfl, ?hy8⟩) hH10 ?rest8
                 case hy8 => (intro wq hSw; replace hSw : Grew wr wq := hSw; clear hSw; first | (go_simp; done) | (go_simp; with_reducible rfl))
                 try simp only [Act.put, List.setIfInBounds_toArray, List.set_cons_zero, List.set_cons_succ]
                 refine wpAnyH_done (by kernel_rfl) ?_ _
                 refine NoPanic.normal ?_
                 go_wp2_with fail
                 go_meet
                 case rel => exact ⟨w5.heap.size, D1, D2, D3, g1, g2, g3, rfl, rfl, HG5.out.size, OwnC.new w5 [.slice D1 P.1.length g1, .slice D2 P.2.1.length g2, .slice D3 P.2.2.length g3] _ _ rfl, (HO5.out.keep (grew_alloc _ _ _)).mono (Nat.le_refl _), grew_trans HG5.out (grew_alloc _ _ _)⟩
               · exact AllReadyH.nil
             · exact AllReadyH.nil
           · refine AllReadyH.cons (o := { dst := some 5, op := Op.alloc 26, type := 0, pos := "law.go:119", after := #[], guard := none }) rfl (fun K hK => ?_) ?_
             · go_simp
               refine hK.out _ _ (grew_drew (grew_alloc _ _ _)) (fun hH9 => ?_)
               clear hK K
               try simp only [Act.put, List.setIfInBounds_toArray, List.set_cons_zero, List.set_cons_succ]
               refine wpAnyH_ready (rs := [5]) (by kernel_rfl) (by simp) ?_
               refine AllReadyH.cons (o := { dst := some 27, op := Op.call { callee := Callee.value (Operand.func 41), args := #[Operand.tmp 22, Operand.tmp 26], argTypes := #[26, 64] }, type := 56, pos := "law.go:119", after := #[{ on := 0, ground := Ground.data }, { on := 4, ground := Ground.data }], guard := none }) rfl (fun K hK => ?_) ?_
               · go_simp
                 refine (CD _ (grew_drew (grew_alloc _ _ _))).mono ?_
                 rintro e w5 ⟨D1, D2, D3, g1, g2, g3, rfl, ho, hg⟩
                 dsimp only [rlV] at ho ⊢
                 have HO5 := Lib.hid ho
                 have HG5 : Hid (Grew wr w5) := grew_trans (grew_drew (grew_alloc _ _ _)) hg
                 have HZ5 : Hid (OwnC w5 wr.heap.size [.slice none 0 0, .slice none 0 0, .slice none 0 0]) := ((OwnC.new wr [.slice none 0 0, .slice none 0 0, .slice none 0 0] _ _ rfl).keep (grew_drew (grew_refl _))).keep hg
                 have z0 := HZ5.out.at 0 _ rfl
                 have z1 := HZ5.out.at 1 _ rfl
                 have z2 := HZ5.out.at 2 _ rfl
                 have f0 := HZ5.out.fr 0 (by show 0 < 3; omega)
                 have f1 := HZ5.out.fr 1 (by show 1 < 3; omega)
                 have f2 := HZ5.out.fr 2 (by show 2 < 3; omega)
                 clear ho hg
                 refine hK.out _ _ HG5.out (fun hH5 => ?_)
                 clear hK K
                 try simp only [Act.put, List.setIfInBounds_toArray, List.set_cons_zero, List.set_cons_succ]
                 refine wpAnyH_take (i := 6) (oi := { dst := some 21, op := Op.move (Operand.tmp 27), type := 56, pos := "law.go:119", after := #[{ on := 5, ground := Ground.data }], guard := none }) (v := ?_) rfl (by kernel_rfl) (by kernel_rfl) (by kernel_rfl) (fun _ _ _ h => h) (Or.inl ⟨by rfl, ?hy9⟩) hH5 ?rest9
                 case hy9 => (intro wq hSw; replace hSw : Grew wr wq := hSw; clear hSw; first | (go_simp; done) | (go_simp; with_reducible rfl))
                 try simp only [Act.put, List.setIfInBounds_toArray, List.set_cons_zero, List.set_cons_succ]
                 refine wpAnyH_take (i := 7) (oi := { dst := some 28, op := Op.extract (Operand.tmp 21) 0, type := 26, pos := "law.go:119", after := #[{ on := 6, ground := Ground.data }], guard := none }) (v := ?_) rfl (by kernel_rfl) (by kernel_rfl) (by kernel_rfl) (fun _ _ _ h => h) (Or.inl ⟨by rfl, ?hy10⟩) hH5 ?rest10
                 case hy10 => (intro wq hSw; replace hSw : Grew wr wq := hSw; clear hSw; first | (go_simp; done) | (go_simp; with_reducible rfl))
                 try simp only [Act.put, List.setIfInBounds_toArray, List.set_cons_zero, List.set_cons_succ]
                 refine wpAnyH_take (i := 8) (oi := { dst := some 29, op := Op.extract (Operand.tmp 21) 1, type := 30, pos := "law.go:119", after := #[{ on := 6, ground := Ground.data }, { on := 10, ground := Ground.gcOnly Departure.lateStores }], guard := none }) (v := ?_) rfl (by kernel_rfl) (by kernel_rfl) (by kernel_rfl) (fun _ _ _ h => h) (Or.inl ⟨by rfl, ?hy11⟩) hH5 ?rest11
                 case hy11 => (intro wq hSw; replace hSw : Grew wr wq := hSw; clear hSw; first | (go_simp; done) | (go_simp; with_reducible rfl))
                 try simp only [Act.put, List.setIfInBounds_toArray, List.set_cons_zero, List.set_cons_succ]
                 refine wpAnyH_ready (rs := [10]) (by kernel_rfl) (by simp) ?_
                 refine AllReadyH.cons (o := { dst := none, op := Op.store 26 (Operand.tmp 5) (Operand.tmp 28), type := 0, pos := "law.go:119", after := #[{ on := 9, ground := Ground.data }, { on := 7, ground := Ground.data }, { on := 5, ground := Ground.chain }, { on := 0, ground := Ground.phase }, { on := 1, ground := Ground.phase }, { on := 2, ground := Ground.phase }, { on := 3, ground := Ground.phase }, { on := 4, ground := Ground.phase }, { on := 5, ground := Ground.phase }, { on := 6, ground := Ground.phase }, { on := 7, ground := Ground.phase }, { on := 8, ground := Ground.textOnly Departure.lateStores }, { on := 9, ground := Ground.phase }], guard := none }) rfl (fun K hK => ?_) ?_
                 · go_simp
                   refine hK.out _ _ (grew_set (grew_set (grew_set (HG5.out) _ (Nat.le_refl _)) _ (Nat.le_refl _)) _ (Nat.le_refl _)) (fun hH10 => ?_)
                   clear hK K
                   try simp only [Act.put, List.setIfInBounds_toArray, List.set_cons_zero, List.set_cons_succ]
                   refine wpAnyH_take (i := 11) (oi := { dst := some 6, op := Op.assign (Operand.tmp 29), type := 30, pos := "law.go:119", after := #[{ on := 8, ground := Ground.data }, { on := 10, ground := Ground.chain }, { on := 0, ground := Ground.phase }, { on := 1, ground := Ground.phase }, { on := 2, ground := Ground.phase }, { on := 3, ground := Ground.phase }, { on := 4, ground := Ground.phase }, { on := 5, ground := Ground.phase }, { on := 6, ground := Ground.phase }, { on := 7, ground := Ground.phase }, { on := 8, ground := Ground.phase }, { on := 9, ground := Ground.phase }, { on := 10, ground := Ground.phase }], guard := none }) (v := ?_) rfl (by kernel_rfl) (by kernel_rfl) (by kernel_rfl) (fun _ _ _ h => h) (Or.inl ⟨by rfl, ?hy12⟩) hH10 ?rest12
                   case hy12 => (intro wq hSw; replace hSw : Grew wr wq := hSw; clear hSw; first | (go_simp; done) | (go_simp; with_reducible rfl))
                   try simp only [Act.put, List.setIfInBounds_toArray, List.set_cons_zero, List.set_cons_succ]
                   refine wpAnyH_done (by kernel_rfl) ?_ _
                   refine NoPanic.normal ?_
                   go_wp2_with fail
                   go_meet
                   case rel => exact ⟨wr.heap.size, D1, D2, D3, g1, g2, g3, rfl, rfl, Nat.le_refl _, HZ5.out.all [.slice D1 P.1.length g1, .slice D2 P.2.1.length g2, .slice D3 P.2.2.length g3] rfl, ((HO5.out.put [.slice D1 P.1.length g1, .slice D2 P.2.1.length g2, .slice D3 P.2.2.length g3] 0 (by show wr.heap.size < (wr.alloc _).heap.size; simp)).mono (by show wr.heap.size ≤ (wr.alloc _).heap.size; simp)), grew_set (grew_set (grew_set (HG5.out) _ (Nat.le_refl _)) _ (Nat.le_refl _)) _ (Nat.le_refl _)⟩
                 · exact AllReadyH.nil
               · exact AllReadyH.nil
             · exact AllReadyH.nil
         case rest =>
           obtain ⟨T, D1, D2, D3, g1, g2, g3, rfl, rfl, hpost⟩ := hcut
           clear CD HRG
           have HP := hpost
           clear hpost
           by_cases he : E = 0
           · subst he
             have HPR := (HDC.out rfl).1
             have HLE := (HDC.out rfl).2
             have HPL := Lib.hid (HDL.out rfl)
             have CR := fun w' (g : Grew wc w') => rroll_any P D1 D2 D3 P.1.length P.2.1.length P.2.2.length g1 g2 g3 w' (HP.out.2.2.1.in3.rows.keep g) (by have := HPL.out; omega)
             have CC := fun w' (g : Grew wc w') => check_any P D1 D2 D3 P.1.length P.2.1.length P.2.2.length g1 g2 g3 w' (HP.out.2.2.1.in3.rows.keep g) (by have := HPL.out; omega)
             rw [HPR] at CR
             rw [chkV_yes HPR] at CC
             dsimp only [rlV] at CR CC
             have HPR := Lib.hid HPR
             have l1 : ¬ ((P.1.length : Int) < (r.1.length : Int)) := by have := HLE.1; omega
             have l2 : ¬ ((P.2.1.length : Int) < (r.2.1.length : Int)) := by have := HLE.2.1; omega
             have l3 : ¬ ((P.2.2.length : Int) < (r.2.2.length : Int)) := by have := HLE.2.2; omega
             clear HLE HDC HDL HDE
             have z0 := (HP.out.2.1.keep (grew_refl _)).at 0 _ rfl; have z1 := (HP.out.2.1.keep (grew_refl _)).at 1 _ rfl; have z2 := (HP.out.2.1.keep (grew_refl _)).at 2 _ rfl; have y0 := ((HR.out.keep HP.out.2.2.2).keep (grew_refl _)).at 0 _ rfl; have y1 := ((HR.out.keep HP.out.2.2.2).keep (grew_refl _)).at 1 _ rfl; have y2 := ((HR.out.keep HP.out.2.2.2).keep (grew_refl _)).at 2 _ rfl; have v0 := ((HR.out.keep HP.out.2.2.2).keep (grew_refl _)).fr 0 (by show 0 < 3; omega); have v1 := ((HR.out.keep HP.out.2.2.2).keep (grew_refl _)).fr 1 (by show 1 < 3; omega); have v2 := ((HR.out.keep HP.out.2.2.2).keep (grew_refl _)).fr 2 (by show 2 < 3; omega)
             go_upto_region 13 with (first
               | (go_at_call 12; ((with_reducible refine (CR _ (grew_refl _)).mono ?_); rintro e w6 ⟨rfl, hg⟩; have HG6 := Lib.hid hg; clear z0 z1 z2 y0 y1 y2 v0 v1 v2; have z0 := (HP.out.2.1.keep hg).at 0 _ rfl; have z1 := (HP.out.2.1.keep hg).at 1 _ rfl; have z2 := (HP.out.2.1.keep hg).at 2 _ rfl; have y0 := ((HR.out.keep HP.out.2.2.2).keep hg).at 0 _ rfl; have y1 := ((HR.out.keep HP.out.2.2.2).keep hg).at 1 _ rfl; have y2 := ((HR.out.keep HP.out.2.2.2).keep hg).at 2 _ rfl; have v0 := ((HR.out.keep HP.out.2.2.2).keep hg).fr 0 (by show 0 < 3; omega); have v1 := ((HR.out.keep HP.out.2.2.2).keep hg).fr 1 (by show 1 < 3; omega); have v2 := ((HR.out.keep HP.out.2.2.2).keep hg).fr 2 (by show 2 < 3; omega); clear hg))
               | (go_at_call 11; ((with_reducible refine (CC _ HG6.out).mono ?_); rintro e w7 ⟨rfl, hg⟩; have HG7 := Lib.hid (grew_trans HG6.out hg); clear hg; clear z0 z1 z2 y0 y1 y2 v0 v1 v2; have z0 := (HP.out.2.1.keep HG7.out).at 0 _ rfl; have z1 := (HP.out.2.1.keep HG7.out).at 1 _ rfl; have z2 := (HP.out.2.1.keep HG7.out).at 2 _ rfl; have y0 := ((HR.out.keep HP.out.2.2.2).keep HG7.out).at 0 _ rfl; have y1 := ((HR.out.keep HP.out.2.2.2).keep HG7.out).at 1 _ rfl; have y2 := ((HR.out.keep HP.out.2.2.2).keep HG7.out).at 2 _ rfl; have v0 := ((HR.out.keep HP.out.2.2.2).keep HG7.out).fr 0 (by show 0 < 3; omega); have v1 := ((HR.out.keep HP.out.2.2.2).keep HG7.out).fr 1 (by show 1 < 3; omega); have v2 := ((HR.out.keep HP.out.2.2.2).keep HG7.out).fr 2 (by show 2 < 3; omega))))
             go_wp2
             go_roundw
             case rel => exact ⟨i + 1, P, D1, D2, D3, g1, g2, g3, by go_num, by omega, by omega, ((HR.out.keep HP.out.2.2.2).keep HG7.out).all [.slice D1 P.1.length g1, .slice D2 P.2.1.length g2, .slice D3 P.2.2.length g3] rfl, ((HP.out.2.2.1.keep HG7.out).mono HR.out.lt).put [.slice D1 P.1.length g1, .slice D2 P.2.1.length g2, .slice D3 P.2.2.length g3] 0 (Nat.lt_succ_self _), HPR, grew_set (grew_set (grew_set (grew_trans (grew_trans HG.out HP.out.2.2.2) HG7.out) _ (Nat.le_refl _)) _ (Nat.le_refl _)) _ (Nat.le_refl _)⟩
             case measure => simp only [intOf]; omega
           · have hP := HDE.out he
             clear HDC HDL HDE
             have z0 := HP.out.2.1.at 0 _ rfl
             have z1 := HP.out.2.1.at 1 _ rfl
             have z2 := HP.out.2.1.at 2 _ rfl
             rw [hP] at z0 z1 z2
             dsimp only [rl0, List.length_nil] at z0 z1 z2
             go_wp2
             go_roundw
             case rel => exact ⟨i + 1, r, A1, A2, A3, c1, c2, c3, by go_num, by omega, by omega, HR.out.keep HP.out.2.2.2, HO.out.keep HP.out.2.2.2, HOK, grew_trans HG.out HP.out.2.2.2⟩
             case measure => simp only [intOf]; omega
       · by_cases hin : i < n
         · have i1 : (i : Int) < (n : Int) := by omega
           have i2 : ¬ (i : Int) < 100 := by omega
           go_wp2_with fail
           go_meet
           case rel => exact ⟨r, A1, A2, A3, c1, c2, c3, HR, HO, HOK, HG⟩
         · have i1 : ¬ (i : Int) < (n : Int) := by omega
           go_wp2_with fail
           go_meet
           case rel => exact ⟨r, A1, A2, A3, c1, c2, c3, HR, HO, HOK, HG⟩
    case rest =>
      obtain ⟨r, A1, A2, A3, c1, c2, c3, HR, HO, HOK, HG⟩ := hcut
      clear HW1 HR1 HA HAL
      have HSH := Lib.hid (right_short HOK.out)
      go_wp2_with (go_at_call 30; ((with_reducible refine (wakes11_any _).mono ?_); rintro e w9 ⟨rfl, hg⟩; have HG9 := Lib.hid hg; clear hg))
      go_ret
      exact ⟨rfl, grew_trans HG.out HG9.out⟩
end Go.Proofs.Ytnbgbfbiieimgaa.NumK
namespace Go.Proofs.Ytnbgbfbiieimgaa.rollSound
open Go.ChangeShapes Go.WideShapes Go.ChangeAt Go.RowKit
set_option linter.unusedVariables false

theorem own : ownKnob Try.prog.godebug = none := by kernel_rfl
theorem laidOut : laidOutB Try.prog = true := by kernel_rfl

set_option maxRecDepth 100000 in
theorem lifted (os : Os) (started : os.Started) (H : Type) (enc : TypeId × Value → H) :
    ReturnsInHanded {} Try.checked os 5 .any (Rows.rollSoundSpec.pre6 enc Try.prog Try.f5 Rows.rollSoundRow.domain false) (Rows.rollSoundSpec.post enc Try.prog Try.f5 false true false false) := by
  refine returnsInHanded_of_change (C := Try.checked) own started (by kernel_rfl) Try.func5
    (ChangeSpec.witness6 (enc := enc) (C := Try.checked) false ⟨#[], #[.slice none 0 0], []⟩ 8 (by kernel_rfl) (by kernel_rfl) (by kernel_rfl) (by kernel_rfl)) ?_
  intro W base args ds gs before hval0 hW hcnd _
  have hval : ∀ (j : Nat) t v, Try.f5.params[j]? = some t → args[j]? = some v → Value.okWide Try.prog W .any base t v := hval0
  have hW' := hW
  obtain ⟨p, q, hA0, hV, rfl, hfz, hnd⟩ := hW
  have hA : DataW.TrodAll enc Try.prog W 0 (fun _ => true) true Try.f5.params.toList args.toList ds p := hA0
  skip
  rw [Try.params5] at hA hval
  obtain ⟨v0, vs0, d0, ds0, p0, q0, hargs, rfl, rfl, h0, r0⟩ := trodAll_cons hA
  obtain ⟨rfl, rfl, rfl⟩ := trodAll_nil r0
  obtain rfl : args = #[v0] := by cases args; simp_all
  obtain ⟨rfl, rfl⟩ := trodVars_none hV
  have k0 := h0
  have lt0 : ∀ x ∈ p0, x.block < W.heap.size := by obtain ⟨m, hm⟩ := k0; exact DataW.trod_lt m _ _ _ hm
  obtain ⟨A0, len0, cap0, l0, rfl, ro0, n0, c0, m0⟩ := NumK.arg_slice Try.underlying61 NumK.opens_acts (hval 0 61 v0 rfl rfl) h0
  clear hA0 hval0
  refine (NumK.rollSound_walk A0 len0 cap0 l0 W (NumK.acts_of ro0) (by omega)).mono fun e W' ⟨he, bel⟩ => ?_
  subst he
  exact ⟨_, rfl, _, _, _, [], _, [], hW', trodAll_mk1 (shut_bool Try.underlying4 _), (trodAll_cons_mk (Below.trod laidOut (by kernel_rfl) (of_decide_eq_true (by kernel_rfl)) k0 bel lt0) trodAll_mk0), rfl, bel.frame _, fun h => by cases h⟩

theorem over : Rows.rollSoundRow.holds Try.pinned (OpenSpec.ofChange Rows.rollSoundSpec) :=
  OpenClaim.holds_of_wide 5 Try.f5 rfl rfl rfl rfl rfl rfl rfl ⟨rfl, rfl, rfl, rfl, rfl⟩ rfl rfl rfl rfl rfl (by kernel_rfl) Try.func5 (by kernel_rfl)
    (of_decide_eq_true (by kernel_rfl)) (by unfold Func.isWrapper; first | (rw [if_pos (by decide +kernel)]; kernel_rfl) | (rw [if_neg (by decide +kernel)]; exact ⟨rfl, rfl⟩))
    (fun os started H enc _ => lifted os started H enc)

/-! ### the statement -/
theorem proved : Rows.RollSoundSaid := over
end Go.Proofs.Ytnbgbfbiieimgaa.rollSound
