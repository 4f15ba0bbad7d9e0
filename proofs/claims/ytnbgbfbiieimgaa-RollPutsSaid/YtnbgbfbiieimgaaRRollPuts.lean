/-
  Behind the first 100 of whatever acts: a state that is put turns that one member and nothing else, or the error is told; more than 500 acts the statement lets by.
-/
import Derived.Test.YtnbgbfbiieimgaaRS
import Derived.Deep.MidRow
import Derived.Test.YtnbgbfbiieimgaaRA
import Derived.BigQuiet
import Derived.Test.YtnbgbfbiieimgaaRows
import Derived.WalkKit
import Derived.ProofKit
import Derived.OpenShut
import Derived.ShutString
import Derived.ChangeOld
import Derived.Below
import Derived.Carry
namespace Go.Proofs.Ytnbgbfbiieimgaa.NumK
open Go.RowKit
set_option linter.unusedVariables false

theorem put_member {r : Rl} (h : rightR r = true) {who state : Int} (hh : hasL noMb r.1 who = true) :
    (putL noMb r.1 (setMb (findL noMb mb0 r.1 who) state)).length = r.1.length ∧ (hasL noMb (putL noMb r.1 (setMb (findL noMb mb0 r.1 who) state)) who = true ∧ findL noMb mb0 (putL noMb r.1 (setMb (findL noMb mb0 r.1 who) state)) who = setMb (findL noMb mb0 r.1 who) state) ∧ ∀ i, i < r.1.length → noMb (r.1.getD i mb0) ≠ who → (putL noMb r.1 (setMb (findL noMb mb0 r.1 who) state)).getD i mb0 = r.1.getD i mb0 := by
  have hn : noMb (setMb (findL noMb mb0 r.1 who) state) = who := (find_mem noMb mb0 r.1 who hh).2
  have h1 := (right_rise h).1
  obtain ⟨f1, f2⟩ := put_find (d := mb0) h1 (setMb (findL noMb mb0 r.1 who) state)
  rw [hn] at f1 f2
  refine ⟨put_len_has (d := mb0) h1 _ (by rw [hn]; exact hh), ⟨f1, f2⟩, fun i hi hne => ?_⟩
  obtain ⟨k, hk, hkv, hkn⟩ := find_at noMb mb0 r.1 who hh
  rw [put_set (d := mb0) h1 _ k hk (by rw [hkn, hn])]
  have hik : k ≠ i := fun e => hne (by rw [← e]; exact hkn)
  simp only [List.getD_eq_getElem?_getD, List.getElem?_set_ne hik]

theorem RowE.oneAt {α : Type} {E : En α} {w : World} {ad : Option Addr} {n : Nat} {l : List α} (h : RowE E w ad n l) (i : Nat) (hi : i < n) (d : α) : RowE E w (Option.map (fun x => x.add (i * E.size)) ad) 1 [l.getD i d] := by
  have hl : i < l.length := by rw [h.len]; exact hi
  have h1 := RowE.take (RowE.dropO h (k := i) (by omega)) (k := 1) (by omega)
  have e : (l.drop i).take 1 = [l.getD i d] := by
    rw [List.drop_eq_getElem_cons hl, getD_at l d i hl]; rfl
  rw [e] at h1
  exact h1

set_option maxRecDepth 100000 in
set_option maxHeartbeats 8000000 in
theorem rollPuts_walk (A : Option Addr) (n c : Nat) (l : List Act11) (who state : Int) (w : World) (h : RowE enAct w A n l) (hn : n ≤ 9223372036854775807) :
    Calls Try.prog 8 #[.slice A n c, .int .i64 who, .int .i64 state] w fun e w' => e = .returned (.bool true) ∧ Grew w w' := by
  have HA := Lib.hid h
  have HAL := Lib.hid h.len
  clear h
  by_cases hbig : n > 500
  · have j1 : (n : Int) > 500 := by omega
    go_enter Try.func8, Try.ntmps8
    go_wp2
    go_ret
    exact ⟨rfl, grew_refl _⟩
  · have j1 : ¬ (n : Int) > 500 := by omega
    go_enter Try.func8, Try.ntmps8
    go_upto_block 0 with fail
    have HW1 : Hid (Grew w (w.alloc (.cells #[.slice none 0 0, .slice none 0 0, .slice none 0 0] 26))) := grew_alloc _ _ _
    have HR1 : Hid (OwnC (w.alloc (.cells #[.slice none 0 0, .slice none 0 0, .slice none 0 0] 26)) w.heap.size [.slice none 0 0, .slice none 0 0, .slice none 0 0]) := OwnC.new w [.slice none 0 0, .slice none 0 0, .slice none 0 0] _ _ rfl
    generalize w.alloc (.cells #[.slice none 0 0, .slice none 0 0, .slice none 0 0] 26) = w1 at *
    go_cut [8, 9, 10] from 22 to 43 (fun v8 v9 v10 wx => ∃ (r : Rl) (A1 A2 A3 : Option Addr) (c1 c2 c3 : Nat), Hid (OwnC wx w.heap.size [.slice A1 r.1.length c1, .slice A2 r.2.1.length c2, .slice A3 r.2.2.length c3]) ∧ Hid (Own3 wx (w.heap.size + 1) r A1 A2 A3 c1 c2 c3) ∧ Hid (rightR r = true) ∧ Hid (Grew w wx))
    case first =>
     go_wp2_with fail
     go_loopw [8] (fun v wr => ∃ (i : Nat) (r : Rl) (A1 A2 A3 : Option Addr) (c1 c2 c3 : Nat), v = .int .i64 i ∧ i ≤ n ∧ i ≤ 100 ∧ Hid (OwnC wr w.heap.size [.slice A1 r.1.length c1, .slice A2 r.2.1.length c2, .slice A3 r.2.2.length c3]) ∧ Hid (Own3 wr (w.heap.size + 1) r A1 A2 A3 c1 c2 c3) ∧ Hid (rightR r = true) ∧ Hid (Grew w wr)) (fun v _ => 101 - (intOf v).toNat)
     case atStart => exact ⟨0, rl0, none, none, none, 0, 0, 0, rfl, by omega, by omega, HR1.out, own3_nil _ _, rl0_right, HW1.out⟩
     case round =>
       obtain ⟨i, r, A1, A2, A3, c1, c2, c3, rfl, hi, hi100, HR, HO, HOK, HG⟩ := hrel
       clear HW1 HR1
       have HSH := Lib.hid (right_short HOK.out)
       have r0 := HR.out.at 0 _ rfl
       have r1 := HR.out.at 1 _ rfl
       have r2 := HR.out.at 2 _ rfl
       have i0 : (0 : Int) ≤ (i : Int) := by omega
       by_cases hlt : i < n ∧ i < 100
       · have i1 : (i : Int) < (n : Int) := by omega
         have i2 : (i : Int) < 100 := by omega
         have hil : i < l.length := by rw [HAL.out]; exact hlt.1
         obtain ⟨b, o, rfl, hb, hcell⟩ := (HA.out.keep HG.out).at (by omega)
         have hc := hcell i hil
         clear hcell
         generalize l[i] = x at *
         obtain ⟨dd, aa, bb, ⟨⟨q1, q2, q3, q4, q5, q6⟩, ⟨q7, q8, q9, q10, q11, q12⟩⟩, ⟨h1, h2, h3, h4⟩⟩ := x
         have hc2 : ∀ k, k < 19 → wr.cell? ⟨b, o + i * 19 + k, none⟩ = [Value.int .i64 dd, .int .i64 aa, .int .i64 bb, .int .i64 q1, .int .i64 q2, .int .i64 q3, .int .i64 q4, .int .i64 q5, .int .i64 q6, .int .i64 q7, .int .i64 q8, .int .i64 q9, .int .i64 q10, .int .i64 q11, .int .i64 q12, .int .i64 h1, .int .i64 h2, .int .i64 h3, .int .i64 h4][k]? := hc
         clear hc
         have HRG : ∀ w', Grew wr w' → w'.rangeAt b (o + i * 19) [.int .i64 dd, .int .i64 aa, .int .i64 bb, .int .i64 q1, .int .i64 q2, .int .i64 q3, .int .i64 q4, .int .i64 q5, .int .i64 q6, .int .i64 q7, .int .i64 q8, .int .i64 q9, .int .i64 q10, .int .i64 q11, .int .i64 q12, .int .i64 h1, .int .i64 h2, .int .i64 h3, .int .i64 h4] := fun w' g j v hv => (grew_cell g (p := ⟨b, o + i * 19 + j, none⟩) hb).trans ((hc2 j (by have hj := (List.getElem?_eq_some_iff.1 hv).1; exact hj)).trans hv)
         have HRG := Lib.hid HRG
         have CD := fun w' (g : Grew wr w') => do_any r (dd, aa, bb, ((q1, q2, q3, q4, q5, q6), (q7, q8, q9, q10, q11, q12)), (h1, h2, h3, h4)) A1 A2 A3 r.1.length r.2.1.length r.2.2.length c1 c2 c3 w' (HO.out.in3.keep g) (by have := HSH.out; omega)
         dsimp only [rlV, vAct] at CD
         have HDC := Lib.hid (do_right HOK.out (dd, aa, bb, ((q1, q2, q3, q4, q5, q6), (q7, q8, q9, q10, q11, q12)), (h1, h2, h3, h4)))
         have HDL := Lib.hid (fun h0 => right_short (do_right HOK.out (dd, aa, bb, ((q1, q2, q3, q4, q5, q6), (q7, q8, q9, q10, q11, q12)), (h1, h2, h3, h4)) h0).1)
         have HDE := Lib.hid (fun h0 => do_err (r := r) (dd, aa, bb, ((q1, q2, q3, q4, q5, q6), (q7, q8, q9, q10, q11, q12)), (h1, h2, h3, h4)) h0)
         obtain ⟨⟨P, E⟩, hP⟩ : ∃ Q, doP r (dd, aa, bb, ((q1, q2, q3, q4, q5, q6), (q7, q8, q9, q10, q11, q12)), (h1, h2, h3, h4)) = Q := ⟨_, rfl⟩
         rw [hP] at CD HDC HDL HDE
         dsimp only at CD HDC HDL HDE
         clear hP
         clear hc2 r0 r1 r2
         go_upto_region 7 with fail
         go_cut [9, 10] from 32 to 40 (fun vt ve wx => ∃ (T : Nat) (D1 D2 D3 : Option Addr) (g1 g2 g3 : Nat), vt = .pointer (some ⟨T, 0, none⟩) ∧ ve = .int .i64 E ∧ Hid (wr.heap.size ≤ T ∧ OwnC wx T [.slice D1 P.1.length g1, .slice D2 P.2.1.length g2, .slice D3 P.2.2.length g3] ∧ Own3 wx wr.heap.size P D1 D2 D3 g1 g2 g3 ∧ Grew wr wx))
         case first =>
           refine wp_region_noPanic ?_
           refine wp_region_held_drew (S := fun w' => Grew wr w') (by kernel_rfl) (grew_drew (grew_refl _)) (fun hH0 => ?_)
           refine wpAnyH_take (i := 0) (oi := { dst := some 33, op := Op.load 26 (Operand.tmp 7), type := 26, pos := "more.go:16", after := #[], guard := none }) (v := ?_) rfl (by kernel_rfl) (by kernel_rfl) (by kernel_rfl) (fun _ _ _ h => h) (Or.inl ⟨by rfl, ?hy1⟩) hH0 ?rest1
           case hy1 => (intro wq hSw; replace hSw : Grew wr wq := hSw; have z0 := (HR.out.keep hSw).at 0 _ rfl; have z1 := (HR.out.keep hSw).at 1 _ rfl; have z2 := (HR.out.keep hSw).at 2 _ rfl; clear hSw; first | (go_simp; done) | (go_simp; with_reducible rfl))
           try simp only [Act.put, List.setIfInBounds_toArray, List.set_cons_zero, List.set_cons_succ]
           refine wpAnyH_take (i := 1) (oi := { dst := some 34, op := Op.move (Operand.tmp 0), type := 61, pos := "more.go:16", after := #[], guard := none }) (v := ?_) rfl (by kernel_rfl) (by kernel_rfl) (by kernel_rfl) (fun _ _ _ h => h) (Or.inl ⟨by rfl, ?hy2⟩) hH0 ?rest2
           case hy2 => (intro wq hSw; replace hSw : Grew wr wq := hSw; clear hSw; first | (go_simp; done) | (go_simp; with_reducible rfl))
           try simp only [Act.put, List.setIfInBounds_toArray, List.set_cons_zero, List.set_cons_succ]
           refine wpAnyH_take (i := 2) (oi := { dst := some 35, op := Op.move (Operand.tmp 8), type := 3, pos := "more.go:16", after := #[], guard := none }) (v := ?_) rfl (by kernel_rfl) (by kernel_rfl) (by kernel_rfl) (fun _ _ _ h => h) (Or.inl ⟨by rfl, ?hy3⟩) hH0 ?rest3
           case hy3 => (intro wq hSw; replace hSw : Grew wr wq := hSw; clear hSw; first | (go_simp; done) | (go_simp; with_reducible rfl))
           try simp only [Act.put, List.setIfInBounds_toArray, List.set_cons_zero, List.set_cons_succ]
           refine wpAnyH_take (i := 3) (oi := { dst := some 36, op := Op.indexAddr 61 (Operand.tmp 34) (Operand.tmp 35), type := 0, pos := "more.go:16", after := #[{ on := 1, ground := Ground.data }, { on := 2, ground := Ground.data }], guard := none }) (v := ?_) rfl (by kernel_rfl) (by kernel_rfl) (by kernel_rfl) (fun _ _ _ h => h) (Or.inl ⟨by rfl, ?hy4⟩) hH0 ?rest4
           case hy4 => (intro wq hSw; replace hSw : Grew wr wq := hSw; clear hSw; first | (go_simp; done) | (go_simp; with_reducible rfl))
           try simp only [Act.put, List.setIfInBounds_toArray, List.set_cons_zero, List.set_cons_succ]
           refine wpAnyH_take (i := 4) (oi := { dst := some 37, op := Op.load 64 (Operand.tmp 36), type := 64, pos := "more.go:16", after := #[{ on := 3, ground := Ground.data }], guard := none }) (v := .agg #[.int .i64 dd, .int .i64 aa, .int .i64 bb, .int .i64 q1, .int .i64 q2, .int .i64 q3, .int .i64 q4, .int .i64 q5, .int .i64 q6, .int .i64 q7, .int .i64 q8, .int .i64 q9, .int .i64 q10, .int .i64 q11, .int .i64 q12, .int .i64 h1, .int .i64 h2, .int .i64 h3, .int .i64 h4]) rfl (by kernel_rfl) (by kernel_rfl) (by kernel_rfl) (fun _ _ _ h => h) (yieldsIf_load_mid (by rfl) _ _ rfl b (o + i * 19) rfl [.int .i64 dd, .int .i64 aa, .int .i64 bb, .int .i64 q1, .int .i64 q2, .int .i64 q3, .int .i64 q4, .int .i64 q5, .int .i64 q6, .int .i64 q7, .int .i64 q8, .int .i64 q9, .int .i64 q10, .int .i64 q11, .int .i64 q12, .int .i64 h1, .int .i64 h2, .int .i64 h3, .int .i64 h4] _ (fun w' hSw => HRG.out w' hSw) Try.underlying64 (by rfl) (by kernel_rfl)) hH0 ?_
           try simp only [Act.put, List.setIfInBounds_toArray, List.set_cons_zero, List.set_cons_succ]
           refine wpAnyH_ready (rs := [5, 9]) (by kernel_rfl) (by simp) ?_
           refine AllReadyH.cons (o := { dst := some 38, op := Op.call { callee := Callee.value (Operand.func 41), args := #[Operand.tmp 33, Operand.tmp 37], argTypes := #[26, 64] }, type := 56, pos := "more.go:16", after := #[{ on := 0, ground := Ground.data }, { on := 4, ground := Ground.data }], guard := none }) rfl (fun K hK => ?_) ?_
           · go_simp
             refine (CD _ (grew_drew (grew_refl _))).mono ?_
             rintro e w5 ⟨D1, D2, D3, g1, g2, g3, rfl, ho, hg⟩
             dsimp only [rlV] at ho ⊢
             have HO5 := Lib.hid ho
             have HG5 : Hid (Grew wr w5) := grew_trans (grew_drew (grew_refl _)) hg
             clear ho hg
             refine hK.out _ _ HG5.out (fun hH5 => ?_)
             clear hK K
             try simp only [Act.put, List.setIfInBounds_toArray, List.set_cons_zero, List.set_cons_succ]
             refine wpAnyH_take (i := 6) (oi := { dst := some 32, op := Op.move (Operand.tmp 38), type := 56, pos := "more.go:16", after := #[{ on := 5, ground := Ground.data }], guard := none }) (v := ?_) rfl (by kernel_rfl) (by kernel_rfl) (by kernel_rfl) (fun _ _ _ h => h) (Or.inl ⟨by rfl, ?hy5⟩) hH5 ?rest5
             case hy5 => (intro wq hSw; replace hSw : Grew wr wq := hSw; clear hSw; first | (go_simp; done) | (go_simp; with_reducible rfl))
             try simp only [Act.put, List.setIfInBounds_toArray, List.set_cons_zero, List.set_cons_succ]
             refine wpAnyH_take (i := 7) (oi := { dst := some 39, op := Op.extract (Operand.tmp 32) 0, type := 26, pos := "more.go:16", after := #[{ on := 6, ground := Ground.data }], guard := none }) (v := ?_) rfl (by kernel_rfl) (by kernel_rfl) (by kernel_rfl) (fun _ _ _ h => h) (Or.inl ⟨by rfl, ?hy6⟩) hH5 ?rest6
             case hy6 => (intro wq hSw; replace hSw : Grew wr wq := hSw; clear hSw; first | (go_simp; done) | (go_simp; with_reducible rfl))
             try simp only [Act.put, List.setIfInBounds_toArray, List.set_cons_zero, List.set_cons_succ]
             refine wpAnyH_take (i := 8) (oi := { dst := some 40, op := Op.extract (Operand.tmp 32) 1, type := 30, pos := "more.go:16", after := #[{ on := 6, ground := Ground.data }, { on := 10, ground := Ground.gcOnly Departure.lateStores }], guard := none }) (v := ?_) rfl (by kernel_rfl) (by kernel_rfl) (by kernel_rfl) (fun _ _ _ h => h) (Or.inl ⟨by rfl, ?hy7⟩) hH5 ?rest7
             case hy7 => (intro wq hSw; replace hSw : Grew wr wq := hSw; clear hSw; first | (go_simp; done) | (go_simp; with_reducible rfl))
             try simp only [Act.put, List.setIfInBounds_toArray, List.set_cons_zero, List.set_cons_succ]
             refine wpAnyH_ready (rs := [9]) (by kernel_rfl) (by simp) ?_
             refine AllReadyH.cons (o := { dst := some 9, op := Op.alloc 26, type := 0, pos := "more.go:16", after := #[], guard := none }) rfl (fun K hK => ?_) ?_
             · go_simp
               refine hK.out _ _ (grew_trans HG5.out (grew_alloc _ _ _)) (fun hH9 => ?_)
               clear hK K
               try simp only [Act.put, List.setIfInBounds_toArray, List.set_cons_zero, List.set_cons_succ]
               refine wpAnyH_ready (rs := [10]) (by kernel_rfl) (by simp) ?_
               refine AllReadyH.cons (o := { dst := none, op := Op.store 26 (Operand.tmp 9) (Operand.tmp 39), type := 0, pos := "more.go:16", after := #[{ on := 9, ground := Ground.data }, { on := 7, ground := Ground.data }, { on := 5, ground := Ground.chain }, { on := 0, ground := Ground.phase }, { on := 1, ground := Ground.phase }, { on := 2, ground := Ground.phase }, { on := 3, ground := Ground.phase }, { on := 4, ground := Ground.phase }, { on := 5, ground := Ground.phase }, { on := 6, ground := Ground.phase }, { on := 7, ground := Ground.phase }, { on := 8, ground := Ground.textOnly Departure.lateStores }, { on := 9, ground := Ground.phase }], guard := none }) rfl (fun K hK => ?_) ?_
               · go_simp
                 refine hK.out _ _ (grew_trans HG5.out (grew_alloc _ _ _)) (fun hH10 => ?_)
                 clear hK K
                 try simp only [Act.put, List.setIfInBounds_toArray, List.set_cons_zero, List.set_cons_succ]
                 refine wpAnyH_take (i := 11) (oi := { dst := some 10, op := Op.assign (Operand.tmp 40), type := 30, pos := "more.go:16", after := #[{ on := 8, ground := Ground.data }, { on := 10, ground := Ground.chain }, { on := 0, ground := Ground.phase }, { on := 1, ground := Ground.phase }, { on := 2, ground := Ground.phase }, { on := 3, ground := Ground.phase }, { on := 4, ground := Ground.phase }, { on := 5, ground := Ground.phase }, { on := 6, ground := Ground.phase }, { on := 7, ground := Ground.phase }, { on := 8, ground := Ground.phase }, { on := 9, ground := Ground.phase }, { on := 10, ground := Ground.phase }], guard := none }) (v := ?_) rfl (by kernel_rfl) (by kernel_rfl) (by kernel_rfl) (fun _ _ _ h => h) (Or.inl ⟨by rfl, ?hy8⟩) hH10 ?rest8
                 case hy8 => (intro wq hSw; replace hSw : Grew wr wq := hSw; clear hSw; first | (go_simp; done) | (go_simp; with_reducible rfl))
                 try simp only [Act.put, List.setIfInBounds_toArray, List.set_cons_zero, List.set_cons_succ]
                 refine wpAnyH_done (by kernel_rfl) ?_ _
                 refine NoPanic.normal ?_
                 go_wp2_with fail
                 go_meet
                 case rel => exact ⟨w5.heap.size, D1, D2, D3, g1, g2, g3, rfl, rfl, HG5.out.size, OwnC.new w5 [.slice D1 P.1.length g1, .slice D2 P.2.1.length g2, .slice D3 P.2.2.length g3] _ _ rfl, (HO5.out.keep (grew_alloc _ _ _)).mono (Nat.le_refl _), grew_trans HG5.out (grew_alloc _ _ _)⟩
               · exact AllReadyH.nil
             · exact AllReadyH.nil
           · refine AllReadyH.cons (o := { dst := some 9, op := Op.alloc 26, type := 0, pos := "more.go:16", after := #[], guard := none }) rfl (fun K hK => ?_) ?_
             · go_simp
               refine hK.out _ _ (grew_drew (grew_alloc _ _ _)) (fun hH9 => ?_)
               clear hK K
               try simp only [Act.put, List.setIfInBounds_toArray, List.set_cons_zero, List.set_cons_succ]
               refine wpAnyH_ready (rs := [5]) (by kernel_rfl) (by simp) ?_
               refine AllReadyH.cons (o := { dst := some 38, op := Op.call { callee := Callee.value (Operand.func 41), args := #[Operand.tmp 33, Operand.tmp 37], argTypes := #[26, 64] }, type := 56, pos := "more.go:16", after := #[{ on := 0, ground := Ground.data }, { on := 4, ground := Ground.data }], guard := none }) rfl (fun K hK => ?_) ?_
               · go_simp
                 refine (CD _ (grew_drew (grew_alloc _ _ _))).mono ?_
                 rintro e w5 ⟨D1, D2, D3, g1, g2, g3, rfl, ho, hg⟩
                 dsimp only [rlV] at ho ⊢
                 have HO5 := Lib.hid ho
                 have HG5 : Hid (Grew wr w5) := grew_trans (grew_drew (grew_alloc _ _ _)) hg
                 have HZ5 : Hid (OwnC w5 wr.heap.size [.slice none 0 0, .slice none 0 0, .slice none 0 0]) := ((OwnC.new wr [.slice none 0 0, .slice none 0 0, .slice none 0 0] _ _ rfl).keep (grew_drew (grew_refl _))).keep hg
                 have z0 := HZ5.out.at 0 _ rfl
                 have z1 := HZ5.out.at 1 _ rfl
                 have z2 := HZ5.out.at 2 _ rfl
                 have f0 := HZ5.out.fr 0 (by show 0 < 3; omega)
                 have f1 := HZ5.out.fr 1 (by show 1 < 3; omega)
                 have f2 := HZ5.out.fr 2 (by show 2 < 3; omega)
                 clear ho hg
                 refine hK.out _ _ HG5.out (fun hH5 => ?_)
                 clear hK K
                 try simp only [Act.put, List.setIfInBounds_toArray, List.set_cons_zero, List.set_cons_succ]
                 refine wpAnyH_take (i := 6) (oi := { dst := some 32, op := Op.move (Operand.tmp 38), type := 56, pos := "more.go:16", after := #[{ on := 5, ground := Ground.data }], guard := none }) (v := ?_) rfl (by kernel_rfl) (by kernel_rfl) (by kernel_rfl) (fun _ _ _ h => h) (Or.inl ⟨by rfl, ?hy9⟩) hH5 ?rest9
                 case hy9 => (intro wq hSw; replace hSw : Grew wr wq := hSw; clear hSw; first | (go_simp; done) | (go_simp; with_reducible rfl))
                 try simp only [Act.put, List.setIfInBounds_toArray, List.set_cons_zero, List.set_cons_succ]
                 refine wpAnyH_take (i := 7) (oi := { dst := some 39, op := Op.extract (Operand.tmp 32) 0, type := 26, pos := "more.go:16", after := #[{ on := 6, ground := Ground.data }], guard := none }) (v := ?_) rfl (by kernel_rfl) (by kernel_rfl) (by kernel_rfl) (fun _ _ _ h => h) (Or.inl ⟨by rfl, ?hy10⟩) hH5 ?rest10
                 case hy10 => (intro wq hSw; replace hSw : Grew wr wq := hSw; clear hSw; first | (go_simp; done) | (go_simp; with_reducible rfl))
                 try simp only [Act.put, List.setIfInBounds_toArray, List.set_cons_zero, List.set_cons_succ]
                 refine wpAnyH_take (i := 8) (oi := { dst := some 40, op := Op.extract (Operand.tmp 32) 1, type := 30, pos := "more.go:16", after := #[{ on := 6, ground := Ground.data }, { on := 10, ground := Ground.gcOnly Departure.lateStores }], guard := none }) (v := ?_) rfl (by kernel_rfl) (by kernel_rfl) (by kernel_rfl) (fun _ _ _ h => h) (Or.inl ⟨by rfl, ?hy11⟩) hH5 ?rest11
                 case hy11 => (intro wq hSw; replace hSw : Grew wr wq := hSw; clear hSw; first | (go_simp; done) | (go_simp; with_reducible rfl))
                 try simp only [Act.put, List.setIfInBounds_toArray, List.set_cons_zero, List.set_cons_succ]
                 refine wpAnyH_ready (rs := [10]) (by kernel_rfl) (by simp) ?_
                 refine AllReadyH.cons (o := { dst := none, op := Op.store 26 (Operand.tmp 9) (Operand.tmp 39), type := 0, pos := "more.go:16", after := #[{ on := 9, ground := Ground.data }, { on := 7, ground := Ground.data }, { on := 5, ground := Ground.chain }, { on := 0, ground := Ground.phase }, { on := 1, ground := Ground.phase }, { on := 2, ground := Ground.phase }, { on := 3, ground := Ground.phase }, { on := 4, ground := Ground.phase }, { on := 5, ground := Ground.phase }, { on := 6, ground := Ground.phase }, { on := 7, ground := Ground.phase }, { on := 8, ground := Ground.textOnly Departure.lateStores }, { on := 9, ground := Ground.phase }], guard := none }) rfl (fun K hK => ?_) ?_
                 · go_simp
                   refine hK.out _ _ (grew_set (grew_set (grew_set (HG5.out) _ (Nat.le_refl _)) _ (Nat.le_refl _)) _ (Nat.le_refl _)) (fun hH10 => ?_)
                   clear hK K
                   try simp only [Act.put, List.setIfInBounds_toArray, List.set_cons_zero, List.set_cons_succ]
                   refine wpAnyH_take (i := 11) (oi := { dst := some 10, op := Op.assign (Operand.tmp 40), type := 30, pos := "more.go:16", after := #[{ on := 8, ground := Ground.data }, { on := 10, ground := Ground.chain }, { on := 0, ground := Ground.phase }, { on := 1, ground := Ground.phase }, { on := 2, ground := Ground.phase }, { on := 3, ground := Ground.phase }, { on := 4, ground := Ground.phase }, { on := 5, ground := Ground.phase }, { on := 6, ground := Ground.phase }, { on := 7, ground := Ground.phase }, { on := 8, ground := Ground.phase }, { on := 9, ground := Ground.phase }, { on := 10, ground := Ground.phase }], guard := none }) (v := ?_) rfl (by kernel_rfl) (by kernel_rfl) (by kernel_rfl) (fun _ _ _ h => h) (Or.inl ⟨by rfl, ?hy12⟩) hH10 ?rest12
                   case hy12 => (intro wq hSw; replace hSw : Grew wr wq := hSw; clear hSw; first | (go_simp; done) | (go_simp; with_reducible rfl))
                   try simp only [Act.put, List.setIfInBounds_toArray, List.set_cons_zero, List.set_cons_succ]
                   refine wpAnyH_done (by kernel_rfl) ?_ _
                   refine NoPanic.normal ?_
                   go_wp2_with fail
                   go_meet
                   case rel => exact ⟨wr.heap.size, D1, D2, D3, g1, g2, g3, rfl, rfl, Nat.le_refl _, HZ5.out.all [.slice D1 P.1.length g1, .slice D2 P.2.1.length g2, .slice D3 P.2.2.length g3] rfl, ((HO5.out.put [.slice D1 P.1.length g1, .slice D2 P.2.1.length g2, .slice D3 P.2.2.length g3] 0 (by show wr.heap.size < (wr.alloc _).heap.size; simp)).mono (by show wr.heap.size ≤ (wr.alloc _).heap.size; simp)), grew_set (grew_set (grew_set (HG5.out) _ (Nat.le_refl _)) _ (Nat.le_refl _)) _ (Nat.le_refl _)⟩
                 · exact AllReadyH.nil
               · exact AllReadyH.nil
             · exact AllReadyH.nil
         case rest =>
           obtain ⟨T, D1, D2, D3, g1, g2, g3, rfl, rfl, hpost⟩ := hcut
           clear CD HRG
           have HP := hpost
           clear hpost
           have z0 := HP.out.2.1.at 0 _ rfl
           have z1 := HP.out.2.1.at 1 _ rfl
           have z2 := HP.out.2.1.at 2 _ rfl
           have y0 := (HR.out.keep HP.out.2.2.2).at 0 _ rfl
           have y1 := (HR.out.keep HP.out.2.2.2).at 1 _ rfl
           have y2 := (HR.out.keep HP.out.2.2.2).at 2 _ rfl
           have v0 := (HR.out.keep HP.out.2.2.2).fr 0 (by show 0 < 3; omega)
           have v1 := (HR.out.keep HP.out.2.2.2).fr 1 (by show 1 < 3; omega)
           have v2 := (HR.out.keep HP.out.2.2.2).fr 2 (by show 2 < 3; omega)

           by_cases he : E = 0
           · subst he
             go_wp2
             go_roundw
             case rel => exact ⟨i + 1, P, D1, D2, D3, g1, g2, g3, by go_num, by omega, by omega, (HR.out.keep HP.out.2.2.2).all [.slice D1 P.1.length g1, .slice D2 P.2.1.length g2, .slice D3 P.2.2.length g3] rfl, (HP.out.2.2.1.mono HR.out.lt).put [.slice D1 P.1.length g1, .slice D2 P.2.1.length g2, .slice D3 P.2.2.length g3] 0 (Nat.lt_succ_self _), (HDC.out rfl).1, grew_set (grew_set (grew_set (grew_trans HG.out HP.out.2.2.2) _ (Nat.le_refl _)) _ (Nat.le_refl _)) _ (Nat.le_refl _)⟩
             case measure => simp only [intOf]; omega
           · go_wp2
             go_roundw
             case rel => exact ⟨i + 1, r, A1, A2, A3, c1, c2, c3, by go_num, by omega, by omega, HR.out.keep HP.out.2.2.2, HO.out.keep HP.out.2.2.2, HOK, grew_trans HG.out HP.out.2.2.2⟩
             case measure => simp only [intOf]; omega
       · by_cases hin : i < n
         · have i1 : (i : Int) < (n : Int) := by omega
           have i2 : ¬ (i : Int) < 100 := by omega
           go_wp2_with fail
           go_meet
           case rel => exact ⟨r, A1, A2, A3, c1, c2, c3, HR, HO, HOK, HG⟩
         · have i1 : ¬ (i : Int) < (n : Int) := by omega
           go_wp2_with fail
           go_meet
           case rel => exact ⟨r, A1, A2, A3, c1, c2, c3, HR, HO, HOK, HG⟩
    case rest =>
      obtain ⟨r, A1, A2, A3, c1, c2, c3, HR, HO, HOK, HG⟩ := hcut
      clear HW1 HR1 HA HAL
      have HSH := Lib.hid (right_short HOK.out)
      obtain ⟨p, hp⟩ : ∃ p, p = findL noMb mb0 r.1 who := ⟨_, rfl⟩
      have CF := fun w' (g : Grew wc w') => pfindMb_any A1 A2 A3 r.1.length r.2.1.length r.2.2.length c1 c2 c3 r.1 who w' (HO.out.in3.rows.m.keep g) (by have := HSH.out; omega) (fun w hh => firstMb_any A1 r.1.length c1 r.1 who w hh (by have := HSH.out; omega))
      have CT := fun w' (g : Grew wc w') => rollPut_any r who state A1 A2 A3 r.1.length r.2.1.length r.2.2.length c1 c2 c3 w' (HO.out.in3.keep g) (by have := HSH.out; omega)
      have HPM := Lib.hid (fun hh => put_member (r := r) HOK.out (who := who) (state := state) hh)
      dsimp only [rlV] at CT
      rw [← hp] at CF HPM
      obtain ⟨p1, p2, p3⟩ := p
      dsimp only [vMb] at CF
      cases hh : hasL noMb r.1 who
      · rw [put_a HOK.out hh] at CT
        rw [hh] at CF
        clear hp HPM hh
        have r0 := HR.out.at 0 _ rfl
        have r1 := HR.out.at 1 _ rfl
        have r2 := HR.out.at 2 _ rfl
        go_upto_region 11 with (go_at_call 39; ((with_reducible refine (CT _ (grew_refl _)).mono ?_); rintro e w1 ⟨D1, D2, D3, g1, g2, g3, rfl, ho, hg⟩; dsimp only [rlV]; have HO1 := Lib.hid ho; have HG1 := Lib.hid hg; clear ho hg r0 r1 r2))
        have HGa : Hid (Grew wc (w1.alloc (.cells #[.slice D1 rl0.1.length g1, .slice D2 rl0.2.1.length g2, .slice D3 rl0.2.2.length g3] 26))) := grew_trans HG1.out (grew_alloc _ _ _)
        have HU : Hid (OwnC (w1.alloc (.cells #[.slice D1 rl0.1.length g1, .slice D2 rl0.2.1.length g2, .slice D3 rl0.2.2.length g3] 26)) w1.heap.size [.slice D1 rl0.1.length g1, .slice D2 rl0.2.1.length g2, .slice D3 rl0.2.2.length g3]) := OwnC.new w1 [.slice D1 rl0.1.length g1, .slice D2 rl0.2.1.length g2, .slice D3 rl0.2.2.length g3] _ _ rfl
        have HUO := Lib.hid (HO1.out.keep (grew_alloc w1 #[.slice D1 rl0.1.length g1, .slice D2 rl0.2.1.length g2, .slice D3 rl0.2.2.length g3] 26))
        generalize (w1.alloc (.cells #[.slice D1 rl0.1.length g1, .slice D2 rl0.2.1.length g2, .slice D3 rl0.2.2.length g3] 26)) = w2 at *
        generalize w1.heap.size = ub at *
        have r0 := (HR.out.keep HGa.out).at 0 _ rfl
        have r1 := (HR.out.keep HGa.out).at 1 _ rfl
        have r2 := (HR.out.keep HGa.out).at 2 _ rfl
        go_upto_region 12 with (go_at_call 13; ((with_reducible refine (CF _ HGa.out).mono ?_); rintro e w3 ⟨rfl, hg⟩; have HG3 := Lib.hid hg; clear hg r0 r1 r2))
        have HGb : Hid (Grew w2 (w3.alloc (.cells #[.int .i64 p1, .int .i64 p2, .int .i64 p3] 33))) := grew_trans HG3.out (grew_alloc _ _ _)
        have HP : Hid (OwnC (w3.alloc (.cells #[.int .i64 p1, .int .i64 p2, .int .i64 p3] 33)) w3.heap.size [.int .i64 p1, .int .i64 p2, .int .i64 p3]) := OwnC.new w3 [.int .i64 p1, .int .i64 p2, .int .i64 p3] _ _ rfl
        have HPB : Hid (w2.heap.size ≤ w3.heap.size) := HG3.out.size
        generalize (w3.alloc (.cells #[.int .i64 p1, .int .i64 p2, .int .i64 p3] 33)) = w4 at *
        generalize w3.heap.size = pb at *
        go_wp2_with (go_at_call 30; ((with_reducible refine (wakes11_any _).mono ?_); rintro e w9 ⟨rfl, hg⟩; have HG9 := Lib.hid hg; clear hg))
        go_ret
        exact ⟨rfl, grew_trans (grew_trans HG.out (grew_trans HGa.out HGb.out)) HG9.out⟩
      · rw [hh] at CF
        cases hw : wi state 1 3
        · rw [put_b HOK.out hh hw] at CT
          clear hp HPM hh
          rcases wi_no hw with i1 | ⟨i1, i2⟩
          · have i3 : state < 1 := by omega
            have r0 := HR.out.at 0 _ rfl
            have r1 := HR.out.at 1 _ rfl
            have r2 := HR.out.at 2 _ rfl
            go_upto_region 11 with (go_at_call 39; ((with_reducible refine (CT _ (grew_refl _)).mono ?_); rintro e w1 ⟨D1, D2, D3, g1, g2, g3, rfl, ho, hg⟩; dsimp only [rlV]; have HO1 := Lib.hid ho; have HG1 := Lib.hid hg; clear ho hg r0 r1 r2))
            have HGa : Hid (Grew wc (w1.alloc (.cells #[.slice D1 rl0.1.length g1, .slice D2 rl0.2.1.length g2, .slice D3 rl0.2.2.length g3] 26))) := grew_trans HG1.out (grew_alloc _ _ _)
            have HU : Hid (OwnC (w1.alloc (.cells #[.slice D1 rl0.1.length g1, .slice D2 rl0.2.1.length g2, .slice D3 rl0.2.2.length g3] 26)) w1.heap.size [.slice D1 rl0.1.length g1, .slice D2 rl0.2.1.length g2, .slice D3 rl0.2.2.length g3]) := OwnC.new w1 [.slice D1 rl0.1.length g1, .slice D2 rl0.2.1.length g2, .slice D3 rl0.2.2.length g3] _ _ rfl
            have HUO := Lib.hid (HO1.out.keep (grew_alloc w1 #[.slice D1 rl0.1.length g1, .slice D2 rl0.2.1.length g2, .slice D3 rl0.2.2.length g3] 26))
            generalize (w1.alloc (.cells #[.slice D1 rl0.1.length g1, .slice D2 rl0.2.1.length g2, .slice D3 rl0.2.2.length g3] 26)) = w2 at *
            generalize w1.heap.size = ub at *
            have r0 := (HR.out.keep HGa.out).at 0 _ rfl
            have r1 := (HR.out.keep HGa.out).at 1 _ rfl
            have r2 := (HR.out.keep HGa.out).at 2 _ rfl
            go_upto_region 12 with (go_at_call 13; ((with_reducible refine (CF _ HGa.out).mono ?_); rintro e w3 ⟨rfl, hg⟩; have HG3 := Lib.hid hg; clear hg r0 r1 r2))
            have HGb : Hid (Grew w2 (w3.alloc (.cells #[.int .i64 p1, .int .i64 p2, .int .i64 p3] 33))) := grew_trans HG3.out (grew_alloc _ _ _)
            have HP : Hid (OwnC (w3.alloc (.cells #[.int .i64 p1, .int .i64 p2, .int .i64 p3] 33)) w3.heap.size [.int .i64 p1, .int .i64 p2, .int .i64 p3]) := OwnC.new w3 [.int .i64 p1, .int .i64 p2, .int .i64 p3] _ _ rfl
            have HPB : Hid (w2.heap.size ≤ w3.heap.size) := HG3.out.size
            generalize (w3.alloc (.cells #[.int .i64 p1, .int .i64 p2, .int .i64 p3] 33)) = w4 at *
            generalize w3.heap.size = pb at *
            go_wp2_with (go_at_call 30; ((with_reducible refine (wakes11_any _).mono ?_); rintro e w9 ⟨rfl, hg⟩; have HG9 := Lib.hid hg; clear hg))
            go_ret
            exact ⟨rfl, grew_trans (grew_trans HG.out (grew_trans HGa.out HGb.out)) HG9.out⟩
          · have i3 : ¬ state < 1 := by omega
            have i4 : state > 3 := by omega
            have r0 := HR.out.at 0 _ rfl
            have r1 := HR.out.at 1 _ rfl
            have r2 := HR.out.at 2 _ rfl
            go_upto_region 11 with (go_at_call 39; ((with_reducible refine (CT _ (grew_refl _)).mono ?_); rintro e w1 ⟨D1, D2, D3, g1, g2, g3, rfl, ho, hg⟩; dsimp only [rlV]; have HO1 := Lib.hid ho; have HG1 := Lib.hid hg; clear ho hg r0 r1 r2))
            have HGa : Hid (Grew wc (w1.alloc (.cells #[.slice D1 rl0.1.length g1, .slice D2 rl0.2.1.length g2, .slice D3 rl0.2.2.length g3] 26))) := grew_trans HG1.out (grew_alloc _ _ _)
            have HU : Hid (OwnC (w1.alloc (.cells #[.slice D1 rl0.1.length g1, .slice D2 rl0.2.1.length g2, .slice D3 rl0.2.2.length g3] 26)) w1.heap.size [.slice D1 rl0.1.length g1, .slice D2 rl0.2.1.length g2, .slice D3 rl0.2.2.length g3]) := OwnC.new w1 [.slice D1 rl0.1.length g1, .slice D2 rl0.2.1.length g2, .slice D3 rl0.2.2.length g3] _ _ rfl
            have HUO := Lib.hid (HO1.out.keep (grew_alloc w1 #[.slice D1 rl0.1.length g1, .slice D2 rl0.2.1.length g2, .slice D3 rl0.2.2.length g3] 26))
            generalize (w1.alloc (.cells #[.slice D1 rl0.1.length g1, .slice D2 rl0.2.1.length g2, .slice D3 rl0.2.2.length g3] 26)) = w2 at *
            generalize w1.heap.size = ub at *
            have r0 := (HR.out.keep HGa.out).at 0 _ rfl
            have r1 := (HR.out.keep HGa.out).at 1 _ rfl
            have r2 := (HR.out.keep HGa.out).at 2 _ rfl
            go_upto_region 12 with (go_at_call 13; ((with_reducible refine (CF _ HGa.out).mono ?_); rintro e w3 ⟨rfl, hg⟩; have HG3 := Lib.hid hg; clear hg r0 r1 r2))
            have HGb : Hid (Grew w2 (w3.alloc (.cells #[.int .i64 p1, .int .i64 p2, .int .i64 p3] 33))) := grew_trans HG3.out (grew_alloc _ _ _)
            have HP : Hid (OwnC (w3.alloc (.cells #[.int .i64 p1, .int .i64 p2, .int .i64 p3] 33)) w3.heap.size [.int .i64 p1, .int .i64 p2, .int .i64 p3]) := OwnC.new w3 [.int .i64 p1, .int .i64 p2, .int .i64 p3] _ _ rfl
            have HPB : Hid (w2.heap.size ≤ w3.heap.size) := HG3.out.size
            generalize (w3.alloc (.cells #[.int .i64 p1, .int .i64 p2, .int .i64 p3] 33)) = w4 at *
            generalize w3.heap.size = pb at *
            go_wp2_with (go_at_call 30; ((with_reducible refine (wakes11_any _).mono ?_); rintro e w9 ⟨rfl, hg⟩; have HG9 := Lib.hid hg; clear hg))
            go_ret
            exact ⟨rfl, grew_trans (grew_trans HG.out (grew_trans HGa.out HGb.out)) HG9.out⟩
        · obtain ⟨i1, i2⟩ := (wi_iff _ _ _).1 hw
          have i3 : ¬ state < 1 := by omega
          have i4 : ¬ state > 3 := by omega
          rw [put_c HOK.out hh hw, ← hp] at CT
          replace HPM := HPM.out hh
          dsimp only [setMb] at HPM CT
          generalize putL noMb r.1 (p1, state, p3) = Um at *
          have HUL := Lib.hid HPM.1
          have HUF := Lib.hid HPM.2.1
          have HUS := Lib.hid HPM.2.2
          clear hp hh HPM
          have r0 := HR.out.at 0 _ rfl
          have r1 := HR.out.at 1 _ rfl
          have r2 := HR.out.at 2 _ rfl
          go_upto_region 11 with (go_at_call 39; ((with_reducible refine (CT _ (grew_refl _)).mono ?_); rintro e w1 ⟨D1, D2, D3, g1, g2, g3, rfl, ho, hg⟩; dsimp only [rlV]; rw [HUL.out]; have HO1 := Lib.hid ho; have HG1 := Lib.hid hg; clear ho hg r0 r1 r2))
          have HGa : Hid (Grew wc (w1.alloc (.cells #[.slice D1 r.1.length g1, .slice D2 r.2.1.length g2, .slice D3 r.2.2.length g3] 26))) := grew_trans HG1.out (grew_alloc _ _ _)
          have HU : Hid (OwnC (w1.alloc (.cells #[.slice D1 r.1.length g1, .slice D2 r.2.1.length g2, .slice D3 r.2.2.length g3] 26)) w1.heap.size [.slice D1 r.1.length g1, .slice D2 r.2.1.length g2, .slice D3 r.2.2.length g3]) := OwnC.new w1 [.slice D1 r.1.length g1, .slice D2 r.2.1.length g2, .slice D3 r.2.2.length g3] _ _ rfl
          have HUO := Lib.hid (HO1.out.keep (grew_alloc w1 #[.slice D1 r.1.length g1, .slice D2 r.2.1.length g2, .slice D3 r.2.2.length g3] 26))
          generalize (w1.alloc (.cells #[.slice D1 r.1.length g1, .slice D2 r.2.1.length g2, .slice D3 r.2.2.length g3] 26)) = w2 at *
          generalize w1.heap.size = ub at *
          have r0 := (HR.out.keep HGa.out).at 0 _ rfl
          have r1 := (HR.out.keep HGa.out).at 1 _ rfl
          have r2 := (HR.out.keep HGa.out).at 2 _ rfl
          go_upto_region 12 with (go_at_call 13; ((with_reducible refine (CF _ HGa.out).mono ?_); rintro e w3 ⟨rfl, hg⟩; have HG3 := Lib.hid hg; clear hg r0 r1 r2))
          have HGb : Hid (Grew w2 (w3.alloc (.cells #[.int .i64 p1, .int .i64 p2, .int .i64 p3] 33))) := grew_trans HG3.out (grew_alloc _ _ _)
          have HP : Hid (OwnC (w3.alloc (.cells #[.int .i64 p1, .int .i64 p2, .int .i64 p3] 33)) w3.heap.size [.int .i64 p1, .int .i64 p2, .int .i64 p3]) := OwnC.new w3 [.int .i64 p1, .int .i64 p2, .int .i64 p3] _ _ rfl
          have HPB : Hid (w2.heap.size ≤ w3.heap.size) := HG3.out.size
          generalize (w3.alloc (.cells #[.int .i64 p1, .int .i64 p2, .int .i64 p3] 33)) = w4 at *
          generalize w3.heap.size = pb at *
          have u0 := (HU.out.keep HGb.out).at 0 _ rfl
          have u1 := (HU.out.keep HGb.out).at 1 _ rfl
          have u2 := (HU.out.keep HGb.out).at 2 _ rfl
          have HUR : Hid (∀ w', Grew w2 w' → RowE enMb w' D1 r.1.length Um) := fun w' g => by have hq := HUO.out.in3.rows.m.keep g; rw [show ((Um, r.2.1, r.2.2) : Rl).1.length = r.1.length from HUL.out] at hq; exact hq
          have CO := fun w' (g : Grew w4 w') => pfindMb_any D1 D2 D3 r.1.length r.2.1.length r.2.2.length g1 g2 g3 Um who w' (HUR.out w' (grew_trans HGb.out g)) (by have := HSH.out; omega) (fun w hh => firstMb_any D1 r.1.length g1 Um who w hh (by have := HSH.out; omega))
          rw [HUF.out.1, HUF.out.2] at CO
          dsimp only [vMb] at CO
          go_upto_region 15 with (go_at_call 13; ((with_reducible refine (CO _ (grew_refl _)).mono ?_); rintro e w7 ⟨rfl, hg⟩; have HG7 := Lib.hid hg; clear hg u0 u1 u2))
          have HGd : Hid (Grew w4 (w7.alloc (.cells #[.int .i64 p1, .int .i64 state, .int .i64 p3] 33))) := grew_trans HG7.out (grew_alloc _ _ _)
          have HOB : Hid (OwnC (w7.alloc (.cells #[.int .i64 p1, .int .i64 state, .int .i64 p3] 33)) w7.heap.size [.int .i64 p1, .int .i64 state, .int .i64 p3]) := OwnC.new w7 [.int .i64 p1, .int .i64 state, .int .i64 p3] _ _ rfl
          have HOS : Hid (w4.heap.size ≤ w7.heap.size) := HG7.out.size
          generalize (w7.alloc (.cells #[.int .i64 p1, .int .i64 state, .int .i64 p3] 33)) = w8 at *
          generalize w7.heap.size = ob at *
          have HPP := Lib.hid (HP.out.keep HGd.out)
          have p1' := HPP.out.at 1 _ rfl
          have ff1 := HPP.out.fr 1 (by show 1 < 3; omega)
          go_upto_region 16 with fail
          have hpo : pb < ob := Nat.lt_of_lt_of_le HP.out.lt HOS.out
          have HP9 := Lib.hid (HPP.out.set 1 (.int .i64 state) (by show 1 < 3; omega))
          have HO9 := Lib.hid (HOB.out.other ⟨pb, 1, none⟩ (.int .i64 state) (Nat.ne_of_lt hpo))
          have HGz : Hid (Grew w2 (w8.setCell ⟨pb, 1, none⟩ (.int .i64 state))) := grew_set (grew_trans HGb.out HGd.out) _ HPB.out
          dsimp only [List.set] at HP9
          clear p1' ff1
          generalize w8.setCell ⟨pb, 1, none⟩ (.int .i64 state) = wz at *
          have HGcz : Hid (Grew wc wz) := grew_trans HGa.out HGz.out
          have o0 := HO9.out.at 0 _ rfl
          have o1 := HO9.out.at 1 _ rfl
          have o2 := HO9.out.at 2 _ rfl
          have hb1 : Hid (Grew wz (wz.alloc (.cells #[.int .i64 p1, .int .i64 state, .int .i64 p3] 33))) := grew_alloc _ _ _
          have HPa := Lib.hid (HP9.out.keep hb1.out)
          have p0 := HPa.out.at 0 _ rfl
          have p1' := HPa.out.at 1 _ rfl
          have p2' := HPa.out.at 2 _ rfl
          have HB1 : Hid (RowE enMb (wz.alloc (.cells #[.int .i64 p1, .int .i64 state, .int .i64 p3] 33)) (some ⟨wz.heap.size, 0, none⟩) 1 [(p1, state, p3)]) := RowE.one enMb wz (p1, state, p3) 33 _ rfl
          have HB2 : Hid (RowE enMb ((wz.alloc (.cells #[.int .i64 p1, .int .i64 state, .int .i64 p3] 33)).alloc (.cells #[.int .i64 p1, .int .i64 state, .int .i64 p3] 33)) (some ⟨wz.heap.size + 1, 0, none⟩) 1 [(p1, state, p3)]) := RowE.one enMb (wz.alloc (.cells #[.int .i64 p1, .int .i64 state, .int .i64 p3] 33)) (p1, state, p3) 33 _ (by simp)
          have CM := keepMbs_yes (some ⟨wz.heap.size, 0, none⟩) (some ⟨wz.heap.size + 1, 0, none⟩) 1 1 1 [(p1, state, p3)] _ (HB1.out.keep (grew_alloc _ _ _)) HB2.out (by omega)
          have CI := fun w' (g : Grew wz w') => keepIns_yes D2 A2 r.2.1.length g2 c2 r.2.1 w' ((HUO.out.in3.rows.i.keep HGz.out).keep g) ((HO.out.in3.rows.i.keep HGcz.out).keep g) (by have := HSH.out; omega)
          have CA := fun w' (g : Grew wz w') => keepAss_yes D3 A3 r.2.2.length g3 c3 r.2.2 w' ((HUO.out.in3.rows.h.keep HGz.out).keep g) ((HO.out.in3.rows.h.keep HGcz.out).keep g) (by have := HSH.out; omega)
          go_upto_region 18 with (first
            | (go_at_call 19; ((with_reducible refine CM.mono ?_); rintro e wa ⟨rfl, hg⟩; have HGA : Hid (Grew wz wa) := grew_trans (grew_trans (grew_alloc _ _ _) (grew_alloc _ _ _)) hg; clear hg p0 p1' p2' o0 o1 o2; have u1 := (HU.out.keep (grew_trans HGz.out HGA.out)).at 1 _ rfl; have r1 := (HR.out.keep (grew_trans HGcz.out HGA.out)).at 1 _ rfl))
            | (go_at_call 42; ((with_reducible refine (CI _ HGA.out).mono ?_); rintro e wb ⟨rfl, hg⟩; have HGB2 : Hid (Grew wz wb) := grew_trans HGA.out hg; clear hg u1 r1; have u2 := (HU.out.keep (grew_trans HGz.out HGB2.out)).at 2 _ rfl; have r2 := (HR.out.keep (grew_trans HGcz.out HGB2.out)).at 2 _ rfl))
            | (go_at_call 43; ((with_reducible refine (CA _ HGB2.out).mono ?_); rintro e wd ⟨rfl, hg⟩; have HGC : Hid (Grew wz wd) := grew_trans HGB2.out hg; clear hg u2 r2; have u0 := (HU.out.keep (grew_trans HGz.out HGC.out)).at 0 _ rfl; have r0 := (HR.out.keep (grew_trans HGcz.out HGC.out)).at 0 _ rfl)))
          clear u0 r0 CM CI CA hb1 HB1 HB2 HPa HP9 HO9 HOB HPP HPB HOS
          have HGU := Lib.hid (grew_trans HGz.out HGC.out)
          have HGR := Lib.hid (grew_trans HGcz.out HGC.out)
          clear HGA HGB2
          go_wp2
          go_loopw [17] (fun v wr => ∃ (i : Nat), v = .int .i64 i ∧ i ≤ r.1.length ∧ Hid (Grew wd wr)) (fun v _ => 17 - (intOf v).toNat)
          case atStart => exact ⟨0, rfl, Nat.zero_le _, grew_refl _⟩
          case round =>
            obtain ⟨i, rfl, hi, HGw⟩ := hrel
            have HGWU := Lib.hid (grew_trans HGU.out HGw.out)
            have HGWR := Lib.hid (grew_trans HGR.out HGw.out)
            have r0 := (HR.out.keep HGWR.out).at 0 _ rfl
            by_cases hlt : i < r.1.length
            · have i5 : (i : Int) < (r.1.length : Int) := by omega
              have HRW := Lib.hid (HO.out.in3.rows.m.keep HGWR.out)
              have HUW := Lib.hid (HUR.out wr HGWU.out)
              obtain ⟨b1, o1, e1, hb1, hcell⟩ := HRW.out.at (by omega)
              have hc0 := hcell i hlt 0 (by decide)
              clear hcell
              have HVR := HUS.out i hlt
              rw [getD_at r.1 mb0 i hlt] at HVR
              have HRO := RowE.oneAt HRW.out i hlt mb0
              have HUO1 := RowE.oneAt HUW.out i hlt mb0
              rw [getD_at r.1 mb0 i hlt] at HRO
              generalize r.1[i] = q at *
              obtain ⟨m1, m2, m3⟩ := q
              replace HVR := Lib.hid HVR
              subst e1
              replace HRO : Hid (RowE enMb wr (some ⟨b1, o1 + i * 3, none⟩) 1 [(m1, m2, m3)]) := by rw [Option.map_some, Addr.add_mid] at HRO; exact HRO
              replace HUO1 : Hid (RowE enMb wr (Option.map (fun x => x.add (i * 3)) D1) 1 [Um.getD i mb0]) := HUO1
              have hc1 : wr.cell? ⟨b1, o1 + i * 3, none⟩ = some (.int .i64 m1) := hc0
              replace hb1 := Lib.hid hb1
              clear hc0
              have i0 : (0 : Int) ≤ (i : Int) := by omega
              have i8 : (i : Int) ≤ 16 := by have := HSH.out; omega
              have u0 := (HU.out.keep HGWU.out).at 0 _ rfl
              have hcg : i < g1 := by have := HUO.out.in3.l1.1; have h2 : ((Um, r.2.1, r.2.2) : Rl).1.length = r.1.length := HUL.out; omega
              have hcc : i < c1 := by have := HO.out.in3.l1.1; omega
              have HK : Hid (∀ w', Grew wr w' → (w'.cell? ⟨w.heap.size, 0, none⟩ = some (.slice (some ⟨b1, o1, none⟩) r.1.length c1) ∧ w'.cell? ⟨ub, 0, none⟩ = some (.slice D1 r.1.length g1) ∧ w'.cell? ⟨b1, o1 + i * 3, none⟩ = some (.int .i64 m1))) := fun w' g =>
                ⟨((HR.out.keep HGWR.out).keep g).at 0 _ rfl, ((HU.out.keep HGWU.out).keep g).at 0 _ rfl, (grew_cell g (p := ⟨b1, o1 + i * 3, none⟩) hb1.out).trans hc1⟩
              clear u0 hc1
              go_upto_region 21 with fail
              clear r0
              have x0 := grew_every (S := fun w' => w'.cell? ⟨w.heap.size, 0, none⟩ = some (.slice (some ⟨b1, o1, none⟩) r.1.length c1)) (fun w' g => (HK.out w' g).1)
              have x1 := grew_every (S := fun w' => w'.cell? ⟨ub, 0, none⟩ = some (.slice D1 r.1.length g1)) (fun w' g => (HK.out w' g).2.1)
              have x2 := grew_every (S := fun w' => w'.cell? ⟨b1, o1 + i * 3, none⟩ = some (.int .i64 m1)) (fun w' g => (HK.out w' g).2.2)
              by_cases hm : m1 = who
              · subst hm
                refine wp_region_grew (by kernel_rfl) (by kernel_rfl) ?_
                repeat (go_big_quiet_step (fail))
                refine wpQuiet_nil ?_
                intro wy hw'
                have HGy := Lib.hid (grew_of hw')
                clear hw' x0 x1 x2
                go_wp2
                go_roundw
                case rel => exact ⟨i + 1, by go_num, by omega, grew_trans HGw.out HGy.out⟩
                case measure => simp only [intOf]; omega
              · have CM := fun w' (g : Grew wr w') => keepMbs_yes (Option.map (fun x => x.add (i * 3)) D1) (some ⟨b1, o1 + i * 3, none⟩) 1 (g1 - i) (c1 - i) [(m1, m2, m3)] w' (by have := HUO1.out.keep g; rw [HVR.out hm] at this; exact this) (HRO.out.keep g) (by omega)
                have d1 : (m1 == who) = false := by simp [hm]
                have d3 : (m1 != who) = true := by simp [hm]
                have i6 : (i : Int) ≤ (i : Int) + 1 := by omega
                have i7 : (i : Int) + 1 ≤ (c1 : Int) := by omega
                have i9 : (i : Int) + 1 ≤ (g1 : Int) := by omega
                have i10 : g1 ≠ i := by omega
                have i11 : c1 ≠ i := by omega
                refine wp_region_grew (by kernel_rfl) (by kernel_rfl) ?_
                repeat (go_big_quiet_step (first | with_reducible exact calls_every CM))
                refine wpQuiet_nil ?_
                intro wy hw'
                have HGy := Lib.hid (grew_of hw')
                clear hw' x0 x1 x2
                go_wp2
                go_roundw
                case rel => exact ⟨i + 1, by go_num, by omega, grew_trans HGw.out HGy.out⟩
                case measure => simp only [intOf]; omega
            · have i5 : ¬ (i : Int) < (r.1.length : Int) := by omega
              go_wp2_with (go_at_call 30; ((with_reducible refine (wakes11_any _).mono ?_); rintro e w9 ⟨rfl, hg⟩; have HG9 := Lib.hid hg; clear hg))
              go_ret
              exact ⟨rfl, grew_trans (grew_trans HG.out HGWR.out) HG9.out⟩
end Go.Proofs.Ytnbgbfbiieimgaa.NumK
namespace Go.Proofs.Ytnbgbfbiieimgaa.rollPuts
open Go.ChangeShapes Go.WideShapes Go.ChangeAt Go.RowKit
set_option linter.unusedVariables false

theorem own : ownKnob Try.prog.godebug = none := by kernel_rfl
theorem laidOut : laidOutB Try.prog = true := by kernel_rfl

set_option maxRecDepth 100000 in
theorem lifted (os : Os) (started : os.Started) (H : Type) (enc : TypeId × Value → H) :
    ReturnsInHanded {} Try.checked os 8 .any (Rows.rollPutsSpec.pre6 enc Try.prog Try.f8 Rows.rollPutsRow.domain false) (Rows.rollPutsSpec.post enc Try.prog Try.f8 false true false false) := by
  refine returnsInHanded_of_change (C := Try.checked) own started (by kernel_rfl) Try.func8
    (ChangeSpec.witness6 (enc := enc) (C := Try.checked) false ⟨#[], #[.slice none 0 0, .int .i64 0, .int .i64 0], []⟩ 8 (by kernel_rfl) (by kernel_rfl) (by kernel_rfl) (by kernel_rfl)) ?_
  intro W base args ds gs before hval0 hW hcnd _
  have hval : ∀ (j : Nat) t v, Try.f8.params[j]? = some t → args[j]? = some v → Value.okWide Try.prog W .any base t v := hval0
  have hW' := hW
  obtain ⟨p, q, hA0, hV, rfl, hfz, hnd⟩ := hW
  have hA : DataW.TrodAll enc Try.prog W 0 (fun _ => true) true Try.f8.params.toList args.toList ds p := hA0
  skip
  rw [Try.params8] at hA hval
  obtain ⟨v0, vs0, d0, ds0, p0, q0, hargs, rfl, rfl, h0, r0⟩ := trodAll_cons hA
  obtain ⟨v1, vs1, d1, ds1, p1, q1, rfl, rfl, rfl, h1, r1⟩ := trodAll_cons r0
  obtain ⟨v2, vs2, d2, ds2, p2, q2, rfl, rfl, rfl, h2, r2⟩ := trodAll_cons r1
  obtain ⟨rfl, rfl, rfl⟩ := trodAll_nil r2
  obtain rfl : args = #[v0, v1, v2] := by cases args; simp_all
  obtain ⟨rfl, rfl⟩ := trodVars_none hV
  have k0 := h0
  have lt0 : ∀ x ∈ p0, x.block < W.heap.size := by obtain ⟨m, hm⟩ := k0; exact DataW.trod_lt m _ _ _ hm
  obtain ⟨A0, len0, cap0, l0, rfl, ro0, n0, c0, m0⟩ := NumK.arg_slice Try.underlying61 NumK.opens_acts (hval 0 61 v0 rfl rfl) h0
  obtain ⟨a1, rfl, rfl, rfl, w1⟩ := open_int Try.underlying3 (hval 1 3 v1 rfl rfl) h1
  obtain ⟨a2, rfl, rfl, rfl, w2⟩ := open_int Try.underlying3 (hval 2 3 v2 rfl rfl) h2
  clear hA0 hval0
  refine (NumK.rollPuts_walk A0 len0 cap0 l0 a1 a2 W (NumK.acts_of ro0) (by omega)).mono fun e W' ⟨he, bel⟩ => ?_
  subst he
  exact ⟨_, rfl, _, _, _, [], _, [], hW', trodAll_mk1 (shut_bool Try.underlying4 _), (trodAll_cons_mk (Below.trod laidOut (by kernel_rfl) (of_decide_eq_true (by kernel_rfl)) k0 bel lt0) (trodAll_cons_mk (shut_int Try.underlying3 w1) (trodAll_cons_mk (shut_int Try.underlying3 w2) trodAll_mk0))), rfl, bel.frame _, fun h => by cases h⟩

theorem over : Rows.rollPutsRow.holds Try.pinned (OpenSpec.ofChange Rows.rollPutsSpec) :=
  OpenClaim.holds_of_wide 8 Try.f8 rfl rfl rfl rfl rfl rfl rfl ⟨rfl, rfl, rfl, rfl, rfl⟩ rfl rfl rfl rfl rfl (by kernel_rfl) Try.func8 (by kernel_rfl)
    (of_decide_eq_true (by kernel_rfl)) (by unfold Func.isWrapper; first | (rw [if_pos (by decide +kernel)]; kernel_rfl) | (rw [if_neg (by decide +kernel)]; exact ⟨rfl, rfl⟩))
    (fun os started H enc _ => lifted os started H enc)

/-! ### the statement -/
theorem proved : Rows.RollPutsSaid := over
end Go.Proofs.Ytnbgbfbiieimgaa.rollPuts
