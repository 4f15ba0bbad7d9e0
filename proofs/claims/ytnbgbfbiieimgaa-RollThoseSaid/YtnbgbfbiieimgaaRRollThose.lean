/-
  Behind the first 100 of whatever acts: each member is among those of one state, and those of a slice of states are told in their order; more than 500 acts or 100 states the statement lets by.
-/
import Derived.Test.YtnbgbfbiieimgaaRS
import Derived.Deep.MidRow
import Derived.Test.YtnbgbfbiieimgaaRA
import Derived.BigQuiet
import Derived.Test.YtnbgbfbiieimgaaRows
import Derived.WalkKit
import Derived.ProofKit
import Derived.OpenShut
import Derived.ShutString
import Derived.ChangeOld
import Derived.Below
import Derived.Carry
namespace Go.Proofs.Ytnbgbfbiieimgaa.NumK
open Go.RowKit
set_option linter.unusedVariables false

/-- Those whose state is less. -/
def cntL (l : List Mb) (m : Nat) : Nat := (l.filter fun x => decide (1 ≤ x.2.1) && decide (x.2.1 < (m : Int))).length
theorem cnt_le (l : List Mb) (m : Nat) : cntL l m ≤ l.length := List.length_filter_le _ _
theorem cnt_succ (l : List Mb) (m : Nat) (hm : 1 ≤ m) : cntL l (m + 1) = cntL l m + (thoseL [(m : Int)] l).length := by
  unfold cntL thoseL
  rw [List.length_map]
  induction l with
  | nil => rfl
  | cons x l ih =>
    simp only [List.filter_cons]
    by_cases h1 : x.2.1 = (m : Int)
    · rw [if_pos (by simp [h1]; omega), if_neg (by simp [h1]), if_pos (by simp [h1])]
      simp only [List.length_cons, ih]; omega
    · rw [if_neg (show ¬ ([(m : Int)].contains x.2.1 = true) by simp [h1])]
      by_cases h2 : 1 ≤ x.2.1 ∧ x.2.1 < (m : Int)
      · rw [if_pos (by simp; omega), if_pos (by simp; omega)]
        simp only [List.length_cons, ih]; omega
      · rw [if_neg (by simp; omega), if_neg (by simp; omega)]
        exact ih
theorem cnt_one (l : List Mb) : cntL l 1 = 0 := by
  unfold cntL
  rw [List.length_eq_zero_iff, List.filter_eq_nil_iff]
  intro x _
  simp <;> omega
theorem cnt_all {r : Rl} (h : rightR r = true) : cntL r.1 4 = r.1.length := by
  unfold cntL
  rw [List.filter_eq_self.2]
  intro x hx
  have hok := ((rightL_iff _ _ _ _).1 (right_parts h).1).1 x hx
  unfold okMb wi at hok
  simp only [Bool.and_eq_true, decide_eq_true_eq] at hok ⊢
  omega
theorem contains_succ (ss : List Int) (k : Nat) (hk : k < ss.length) (q : Int) : (ss.take (k + 1)).contains q = ((ss.take k).contains q || ss.getD k 0 == q) := by
  rw [List.take_succ_eq_append_getElem hk, List.contains_eq_any_beq, List.contains_eq_any_beq, List.any_append]
  simp [List.getD, hk, Bool.beq_eq_decide_eq, eq_comm]
/-- The one at hand stands where those before it end. -/
theorem those_in (ss : List Int) (l : List Mb) (i : Nat) (h : i < l.length) : (thoseL ss (l.take (i + 1))).length = (thoseL ss (l.take i)).length + (if ss.contains l[i].2.1 = true then 1 else 0) ∧ (ss.contains l[i].2.1 = true → (thoseL ss (l.take i)).length < (thoseL ss l).length ∧ (thoseL ss l).getD (thoseL ss (l.take i)).length 0 = l[i].1) := by
  have hs := those_snoc ss l i h
  rw [getD_at l mb0 i h] at hs
  have hd : thoseL ss l = thoseL ss (l.take (i + 1)) ++ thoseL ss (l.drop (i + 1)) := by
    unfold thoseL
    rw [← List.map_append, ← List.filter_append, List.take_append_drop]
  by_cases hc : ss.contains l[i].2.1 = true
  · rw [if_pos hc] at hs ⊢
    refine ⟨by rw [hs, List.length_append]; rfl, fun _ => ?_⟩
    rw [hd, hs]
    refine ⟨by simp, ?_⟩
    simp [List.getD, List.append_assoc]
  · rw [if_neg hc] at hs ⊢
    exact ⟨by rw [hs]; rfl, fun h => absurd h hc⟩
theorem ints_alone (w : World) (x : Int) (t : TypeId) : Ints (w.alloc (.cells #[.int .i64 x] t)) (some ⟨w.heap.size, 0, none⟩) 1 [x] :=
  ⟨rfl, fun _ => ⟨w.heap.size, 0, rfl, by simp, fun j hj => by
    have h0 : j = 0 := by omega
    subst h0
    exact (OwnC.new w [.int .i64 x] t _ rfl).at 0 _ rfl⟩⟩

set_option maxRecDepth 100000 in
set_option maxHeartbeats 8000000 in
theorem rollThose_walk (A S : Option Addr) (n c m d : Nat) (l : List Act11) (ss : List Int) (w : World) (h : RowE enAct w A n l) (hS : Ints w S m ss) (hn : n ≤ 9223372036854775807) (hm : m ≤ 9223372036854775807) :
    Calls Try.prog 7 #[.slice A n c, .slice S m d] w fun e w' => e = .returned (.bool true) ∧ Grew w w' := by
  have HA := Lib.hid h
  have HAL := Lib.hid h.len
  have HS := Lib.hid hS
  have HSL := Lib.hid hS.1
  clear h hS
  by_cases hbig : n > 500
  · have j1 : (n : Int) > 500 := by omega
    go_enter Try.func7, Try.ntmps7
    go_wp2
    go_ret
    exact ⟨rfl, grew_refl _⟩
  by_cases hbig2 : m > 100
  · have j1 : ¬ (n : Int) > 500 := by omega
    have j2 : (m : Int) > 100 := by omega
    go_enter Try.func7, Try.ntmps7
    go_wp2
    go_ret
    exact ⟨rfl, grew_refl _⟩
  · have j1 : ¬ (n : Int) > 500 := by omega
    have j2 : ¬ (m : Int) > 100 := by omega
    go_enter Try.func7, Try.ntmps7
    go_upto_block 0 with fail
    have HW1 : Hid (Grew w (w.alloc (.cells #[.slice none 0 0, .slice none 0 0, .slice none 0 0] 26))) := grew_alloc _ _ _
    have HR1 : Hid (OwnC (w.alloc (.cells #[.slice none 0 0, .slice none 0 0, .slice none 0 0] 26)) w.heap.size [.slice none 0 0, .slice none 0 0, .slice none 0 0]) := OwnC.new w [.slice none 0 0, .slice none 0 0, .slice none 0 0] _ _ rfl
    generalize w.alloc (.cells #[.slice none 0 0, .slice none 0 0, .slice none 0 0] 26) = w1 at *
    go_cut [6, 7, 8] from 25 to 46 (fun v6 v7 v8 wx => ∃ (r : Rl) (A1 A2 A3 : Option Addr) (c1 c2 c3 : Nat), Hid (OwnC wx w.heap.size [.slice A1 r.1.length c1, .slice A2 r.2.1.length c2, .slice A3 r.2.2.length c3]) ∧ Hid (Own3 wx (w.heap.size + 1) r A1 A2 A3 c1 c2 c3) ∧ Hid (rightR r = true) ∧ Hid (Grew w wx))
    case first =>
     go_wp2_with fail
     go_loopw [6] (fun v wr => ∃ (i : Nat) (r : Rl) (A1 A2 A3 : Option Addr) (c1 c2 c3 : Nat), v = .int .i64 i ∧ i ≤ n ∧ i ≤ 100 ∧ Hid (OwnC wr w.heap.size [.slice A1 r.1.length c1, .slice A2 r.2.1.length c2, .slice A3 r.2.2.length c3]) ∧ Hid (Own3 wr (w.heap.size + 1) r A1 A2 A3 c1 c2 c3) ∧ Hid (rightR r = true) ∧ Hid (Grew w wr)) (fun v _ => 101 - (intOf v).toNat)
     case atStart => exact ⟨0, rl0, none, none, none, 0, 0, 0, rfl, by omega, by omega, HR1.out, own3_nil _ _, rl0_right, HW1.out⟩
     case round =>
       obtain ⟨i, r, A1, A2, A3, c1, c2, c3, rfl, hi, hi100, HR, HO, HOK, HG⟩ := hrel
       clear HW1 HR1
       have HSH := Lib.hid (right_short HOK.out)
       have r0 := HR.out.at 0 _ rfl
       have r1 := HR.out.at 1 _ rfl
       have r2 := HR.out.at 2 _ rfl
       have i0 : (0 : Int) ≤ (i : Int) := by omega
       by_cases hlt : i < n ∧ i < 100
       · have i1 : (i : Int) < (n : Int) := by omega
         have i2 : (i : Int) < 100 := by omega
         have hil : i < l.length := by rw [HAL.out]; exact hlt.1
         obtain ⟨b, o, rfl, hb, hcell⟩ := (HA.out.keep HG.out).at (by omega)
         have hc := hcell i hil
         clear hcell
         generalize l[i] = x at *
         obtain ⟨dd, aa, bb, ⟨⟨q1, q2, q3, q4, q5, q6⟩, ⟨q7, q8, q9, q10, q11, q12⟩⟩, ⟨h1, h2, h3, h4⟩⟩ := x
         have hc2 : ∀ k, k < 19 → wr.cell? ⟨b, o + i * 19 + k, none⟩ = [Value.int .i64 dd, .int .i64 aa, .int .i64 bb, .int .i64 q1, .int .i64 q2, .int .i64 q3, .int .i64 q4, .int .i64 q5, .int .i64 q6, .int .i64 q7, .int .i64 q8, .int .i64 q9, .int .i64 q10, .int .i64 q11, .int .i64 q12, .int .i64 h1, .int .i64 h2, .int .i64 h3, .int .i64 h4][k]? := hc
         clear hc
         have HRG : ∀ w', Grew wr w' → w'.rangeAt b (o + i * 19) [.int .i64 dd, .int .i64 aa, .int .i64 bb, .int .i64 q1, .int .i64 q2, .int .i64 q3, .int .i64 q4, .int .i64 q5, .int .i64 q6, .int .i64 q7, .int .i64 q8, .int .i64 q9, .int .i64 q10, .int .i64 q11, .int .i64 q12, .int .i64 h1, .int .i64 h2, .int .i64 h3, .int .i64 h4] := fun w' g j v hv => (grew_cell g (p := ⟨b, o + i * 19 + j, none⟩) hb).trans ((hc2 j (by have hj := (List.getElem?_eq_some_iff.1 hv).1; exact hj)).trans hv)
         have HRG := Lib.hid HRG
         have CD := fun w' (g : Grew wr w') => do_any r (dd, aa, bb, ((q1, q2, q3, q4, q5, q6), (q7, q8, q9, q10, q11, q12)), (h1, h2, h3, h4)) A1 A2 A3 r.1.length r.2.1.length r.2.2.length c1 c2 c3 w' (HO.out.in3.keep g) (by have := HSH.out; omega)
         dsimp only [rlV, vAct] at CD
         have HDC := Lib.hid (do_right HOK.out (dd, aa, bb, ((q1, q2, q3, q4, q5, q6), (q7, q8, q9, q10, q11, q12)), (h1, h2, h3, h4)))
         have HDL := Lib.hid (fun h0 => right_short (do_right HOK.out (dd, aa, bb, ((q1, q2, q3, q4, q5, q6), (q7, q8, q9, q10, q11, q12)), (h1, h2, h3, h4)) h0).1)
         have HDE := Lib.hid (fun h0 => do_err (r := r) (dd, aa, bb, ((q1, q2, q3, q4, q5, q6), (q7, q8, q9, q10, q11, q12)), (h1, h2, h3, h4)) h0)
         obtain ⟨⟨P, E⟩, hP⟩ : ∃ Q, doP r (dd, aa, bb, ((q1, q2, q3, q4, q5, q6), (q7, q8, q9, q10, q11, q12)), (h1, h2, h3, h4)) = Q := ⟨_, rfl⟩
         rw [hP] at CD HDC HDL HDE
         dsimp only at CD HDC HDL HDE
         clear hP
         clear hc2 r0 r1 r2
         go_upto_region 7 with fail
         go_cut [7, 8] from 35 to 43 (fun vt ve wx => ∃ (T : Nat) (D1 D2 D3 : Option Addr) (g1 g2 g3 : Nat), vt = .pointer (some ⟨T, 0, none⟩) ∧ ve = .int .i64 E ∧ Hid (wr.heap.size ≤ T ∧ OwnC wx T [.slice D1 P.1.length g1, .slice D2 P.2.1.length g2, .slice D3 P.2.2.length g3] ∧ Own3 wx wr.heap.size P D1 D2 D3 g1 g2 g3 ∧ Grew wr wx))
         case first =>
           refine wp_region_noPanic ?_
           refine wp_region_held_drew (S := fun w' => Grew wr w') (by kernel_rfl) (grew_drew (grew_refl _)) (fun hH0 => ?_)
           refine wpAnyH_take (i := 0) (oi := { dst := some 36, op := Op.load 26 (Operand.tmp 5), type := 26, pos := "law.go:167", after := #[], guard := none }) (v := ?_) rfl (by kernel_rfl) (by kernel_rfl) (by kernel_rfl) (fun _ _ _ h => h) (Or.inl ⟨by rfl, ?hy1⟩) hH0 ?rest1
           case hy1 => (intro wq hSw; replace hSw : Grew wr wq := hSw; have z0 := (HR.out.keep hSw).at 0 _ rfl; have z1 := (HR.out.keep hSw).at 1 _ rfl; have z2 := (HR.out.keep hSw).at 2 _ rfl; clear hSw; first | (go_simp; done) | (go_simp; with_reducible rfl))
           try simp only [Act.put, List.setIfInBounds_toArray, List.set_cons_zero, List.set_cons_succ]
           refine wpAnyH_take (i := 1) (oi := { dst := some 37, op := Op.move (Operand.tmp 0), type := 61, pos := "law.go:167", after := #[], guard := none }) (v := ?_) rfl (by kernel_rfl) (by kernel_rfl) (by kernel_rfl) (fun _ _ _ h => h) (Or.inl ⟨by rfl, ?hy2⟩) hH0 ?rest2
           case hy2 => (intro wq hSw; replace hSw : Grew wr wq := hSw; clear hSw; first | (go_simp; done) | (go_simp; with_reducible rfl))
           try simp only [Act.put, List.setIfInBounds_toArray, List.set_cons_zero, List.set_cons_succ]
           refine wpAnyH_take (i := 2) (oi := { dst := some 38, op := Op.move (Operand.tmp 6), type := 3, pos := "law.go:167", after := #[], guard := none }) (v := ?_) rfl (by kernel_rfl) (by kernel_rfl) (by kernel_rfl) (fun _ _ _ h => h) (Or.inl ⟨by rfl, ?hy3⟩) hH0 ?rest3
           case hy3 => (intro wq hSw; replace hSw : Grew wr wq := hSw; clear hSw; first | (go_simp; done) | (go_simp; with_reducible rfl))
           try simp only [Act.put, List.setIfInBounds_toArray, List.set_cons_zero, List.set_cons_succ]
           refine wpAnyH_take (i := 3) (oi := { dst := some 39, op := Op.indexAddr 61 (Operand.tmp 37) (Operand.tmp 38), type := 0, pos := "law.go:167", after := #[{ on := 1, ground := Ground.data }, { on := 2, ground := Ground.data }], guard := none }) (v := ?_) rfl (by kernel_rfl) (by kernel_rfl) (by kernel_rfl) (fun _ _ _ h => h) (Or.inl ⟨by rfl, ?hy4⟩) hH0 ?rest4
           case hy4 => (intro wq hSw; replace hSw : Grew wr wq := hSw; clear hSw; first | (go_simp; done) | (go_simp; with_reducible rfl))
           try simp only [Act.put, List.setIfInBounds_toArray, List.set_cons_zero, List.set_cons_succ]
           refine wpAnyH_take (i := 4) (oi := { dst := some 40, op := Op.load 64 (Operand.tmp 39), type := 64, pos := "law.go:167", after := #[{ on := 3, ground := Ground.data }], guard := none }) (v := .agg #[.int .i64 dd, .int .i64 aa, .int .i64 bb, .int .i64 q1, .int .i64 q2, .int .i64 q3, .int .i64 q4, .int .i64 q5, .int .i64 q6, .int .i64 q7, .int .i64 q8, .int .i64 q9, .int .i64 q10, .int .i64 q11, .int .i64 q12, .int .i64 h1, .int .i64 h2, .int .i64 h3, .int .i64 h4]) rfl (by kernel_rfl) (by kernel_rfl) (by kernel_rfl) (fun _ _ _ h => h) (yieldsIf_load_mid (by rfl) _ _ rfl b (o + i * 19) rfl [.int .i64 dd, .int .i64 aa, .int .i64 bb, .int .i64 q1, .int .i64 q2, .int .i64 q3, .int .i64 q4, .int .i64 q5, .int .i64 q6, .int .i64 q7, .int .i64 q8, .int .i64 q9, .int .i64 q10, .int .i64 q11, .int .i64 q12, .int .i64 h1, .int .i64 h2, .int .i64 h3, .int .i64 h4] _ (fun w' hSw => HRG.out w' hSw) Try.underlying64 (by rfl) (by kernel_rfl)) hH0 ?_
           try simp only [Act.put, List.setIfInBounds_toArray, List.set_cons_zero, List.set_cons_succ]
           refine wpAnyH_ready (rs := [5, 9]) (by kernel_rfl) (by simp) ?_
           refine AllReadyH.cons (o := { dst := some 41, op := Op.call { callee := Callee.value (Operand.func 41), args := #[Operand.tmp 36, Operand.tmp 40], argTypes := #[26, 64] }, type := 56, pos := "law.go:167", after := #[{ on := 0, ground := Ground.data }, { on := 4, ground := Ground.data }], guard := none }) rfl (fun K hK => ?_) ?_
           · go_simp
             refine (CD _ (grew_drew (grew_refl _))).mono ?_
             rintro e w5 ⟨D1, D2, D3, g1, g2, g3, rfl, ho, hg⟩
             dsimp only [rlV] at ho ⊢
             have HO5 := Lib.hid ho
             have HG5 : Hid (Grew wr w5) := grew_trans (grew_drew (grew_refl _)) hg
             clear ho hg
             refine hK.out _ _ HG5.out (fun hH5 => ?_)
             clear hK K
             try simp only [Act.put, List.setIfInBounds_toArray, List.set_cons_zero, List.set_cons_succ]
             refine wpAnyH_take (i := 6) (oi := { dst := some 35, op := Op.move (Operand.tmp 41), type := 56, pos := "law.go:167", after := #[{ on := 5, ground := Ground.data }], guard := none }) (v := ?_) rfl (by kernel_rfl) (by kernel_rfl) (by kernel_rfl) (fun _ _ _ h => h) (Or.inl ⟨by rfl, ?hy5⟩) hH5 ?rest5
             case hy5 => (intro wq hSw; replace hSw : Grew wr wq := hSw; clear hSw; first | (go_simp; done) | (go_simp; with_reducible rfl))
             try simp only [Act.put, List.setIfInBounds_toArray, List.set_cons_zero, List.set_cons_succ]
             refine wpAnyH_take (i := 7) (oi := { dst := some 42, op := Op.extract (Operand.tmp 35) 0, type := 26, pos := "law.go:167", after := #[{ on := 6, ground := Ground.data }], guard := none }) (v := ?_) rfl (by kernel_rfl) (by kernel_rfl) (by kernel_rfl) (fun _ _ _ h => h) (Or.inl ⟨by rfl, ?hy6⟩) hH5 ?rest6
             case hy6 => (intro wq hSw; replace hSw : Grew wr wq := hSw; clear hSw; first | (go_simp; done) | (go_simp; with_reducible rfl))
             try simp only [Act.put, List.setIfInBounds_toArray, List.set_cons_zero, List.set_cons_succ]
             refine wpAnyH_take (i := 8) (oi := { dst := some 43, op := Op.extract (Operand.tmp 35) 1, type := 30, pos := "law.go:167", after := #[{ on := 6, ground := Ground.data }, { on := 10, ground := Ground.gcOnly Departure.lateStores }], guard := none }) (v := ?_) rfl (by kernel_rfl) (by kernel_rfl) (by kernel_rfl) (fun _ _ _ h => h) (Or.inl ⟨by rfl, ?hy7⟩) hH5 ?rest7
             case hy7 => (intro wq hSw; replace hSw : Grew wr wq := hSw; clear hSw; first | (go_simp; done) | (go_simp; with_reducible rfl))
             try simp only [Act.put, List.setIfInBounds_toArray, List.set_cons_zero, List.set_cons_succ]
             refine wpAnyH_ready (rs := [9]) (by kernel_rfl) (by simp) ?_
             refine AllReadyH.cons (o := { dst := some 7, op := Op.alloc 26, type := 0, pos := "law.go:167", after := #[], guard := none }) rfl (fun K hK => ?_) ?_
             · go_simp
               refine hK.out _ _ (grew_trans HG5.out (grew_alloc _ _ _)) (fun hH9 => ?_)
               clear hK K
               try simp only [Act.put, List.setIfInBounds_toArray, List.set_cons_zero, List.set_cons_succ]
               refine wpAnyH_ready (rs := [10]) (by kernel_rfl) (by simp) ?_
               refine AllReadyH.cons (o := { dst := none, op := Op.store 26 (Operand.tmp 7) (Operand.tmp 42), type := 0, pos := "law.go:167", after := #[{ on := 9, ground := Ground.data }, { on := 7, ground := Ground.data }, { on := 5, ground := Ground.chain }, { on := 0, ground := Ground.phase }, { on := 1, ground := Ground.phase }, { on := 2, ground := Ground.phase }, { on := 3, ground := Ground.phase }, { on := 4, ground := Ground.phase }, { on := 5, ground := Ground.phase }, { on := 6, ground := Ground.phase }, { on := 7, ground := Ground.phase }, { on := 8, ground := Ground.textOnly Departure.lateStores }, { on := 9, ground := Ground.phase }], guard := none }) rfl (fun K hK => ?_) ?_
               · go_simp
                 refine hK.out _ _ (grew_trans HG5.out (grew_alloc _ _ _)) (fun hH10 => ?_)
                 clear hK K
                 try simp only [Act.put, List.setIfInBounds_toArray, List.set_cons_zero, List.set_cons_succ]
                 refine wpAnyH_take (i := 11) (oi := { dst := some 8, op := Op.assign (Operand.tmp 43), type := 30, pos := "law.go:167", after := #[{ on := 8, ground := Ground.data }, { on := 10, ground := Ground.chain }, { on := 0, ground := Ground.phase }, { on := 1, ground := Ground.phase }, { on := 2, ground := Ground.phase }, { on := 3, ground := Ground.phase }, { on := 4, ground := Ground.phase }, { on := 5, ground := Ground.phase }, { on := 6, ground := Ground.phase }, { on := 7, ground := Ground.phase }, { on := 8, ground := Ground.phase }, { on := 9, ground := Ground.phase }, { on := 10, ground := Ground.phase }], guard := none }) (v := ?_) rfl (by kernel_rfl) (by kernel_rfl) (by kernel_rfl) (fun _ _ _ h => h) (Or.inl ⟨by rfl, ?hy8⟩) hH10 ?rest8
                 case hy8 => (intro wq hSw; replace hSw : Grew wr wq := hSw; clear hSw; first | (go_simp; done) | (go_simp; with_reducible rfl))
                 try simp only [Act.put, List.setIfInBounds_toArray, List.set_cons_zero, List.set_cons_succ]
                 refine wpAnyH_done (by kernel_rfl) ?_ _
                 refine NoPanic.normal ?_
                 go_wp2_with fail
                 go_meet
                 case rel => exact ⟨w5.heap.size, D1, D2, D3, g1, g2, g3, rfl, rfl, HG5.out.size, OwnC.new w5 [.slice D1 P.1.length g1, .slice D2 P.2.1.length g2, .slice D3 P.2.2.length g3] _ _ rfl, (HO5.out.keep (grew_alloc _ _ _)).mono (Nat.le_refl _), grew_trans HG5.out (grew_alloc _ _ _)⟩
               · exact AllReadyH.nil
             · exact AllReadyH.nil
           · refine AllReadyH.cons (o := { dst := some 7, op := Op.alloc 26, type := 0, pos := "law.go:167", after := #[], guard := none }) rfl (fun K hK => ?_) ?_
             · go_simp
               refine hK.out _ _ (grew_drew (grew_alloc _ _ _)) (fun hH9 => ?_)
               clear hK K
               try simp only [Act.put, List.setIfInBounds_toArray, List.set_cons_zero, List.set_cons_succ]
               refine wpAnyH_ready (rs := [5]) (by kernel_rfl) (by simp) ?_
               refine AllReadyH.cons (o := { dst := some 41, op := Op.call { callee := Callee.value (Operand.func 41), args := #[Operand.tmp 36, Operand.tmp 40], argTypes := #[26, 64] }, type := 56, pos := "law.go:167", after := #[{ on := 0, ground := Ground.data }, { on := 4, ground := Ground.data }], guard := none }) rfl (fun K hK => ?_) ?_
               · go_simp
                 refine (CD _ (grew_drew (grew_alloc _ _ _))).mono ?_
                 rintro e w5 ⟨D1, D2, D3, g1, g2, g3, rfl, ho, hg⟩
                 dsimp only [rlV] at ho ⊢
                 have HO5 := Lib.hid ho
                 have HG5 : Hid (Grew wr w5) := grew_trans (grew_drew (grew_alloc _ _ _)) hg
                 have HZ5 : Hid (OwnC w5 wr.heap.size [.slice none 0 0, .slice none 0 0, .slice none 0 0]) := ((OwnC.new wr [.slice none 0 0, .slice none 0 0, .slice none 0 0] _ _ rfl).keep (grew_drew (grew_refl _))).keep hg
                 have z0 := HZ5.out.at 0 _ rfl
                 have z1 := HZ5.out.at 1 _ rfl
                 have z2 := HZ5.out.at 2 _ rfl
                 have f0 := HZ5.out.fr 0 (by show 0 < 3; omega)
                 have f1 := HZ5.out.fr 1 (by show 1 < 3; omega)
                 have f2 := HZ5.out.fr 2 (by show 2 < 3; omega)
                 clear ho hg
                 refine hK.out _ _ HG5.out (fun hH5 => ?_)
                 clear hK K
                 try simp only [Act.put, List.setIfInBounds_toArray, List.set_cons_zero, List.set_cons_succ]
                 refine wpAnyH_take (i := 6) (oi := { dst := some 35, op := Op.move (Operand.tmp 41), type := 56, pos := "law.go:167", after := #[{ on := 5, ground := Ground.data }], guard := none }) (v := ?_) rfl (by kernel_rfl) (by kernel_rfl) (by kernel_rfl) (fun _ _ _ h => h) (Or.inl ⟨by rfl, ?hy9⟩) hH5 ?rest9
                 case hy9 => (intro wq hSw; replace hSw : Grew wr wq := hSw; clear hSw; first | (go_simp; done) | (go_simp; with_reducible rfl))
                 try simp only [Act.put, List.setIfInBounds_toArray, List.set_cons_zero, List.set_cons_succ]
                 refine wpAnyH_take (i := 7) (oi := { dst := some 42, op := Op.extract (Operand.tmp 35) 0, type := 26, pos := "law.go:167", after := #[{ on := 6, ground := Ground.data }], guard := none }) (v := ?_) rfl (by kernel_rfl) (by kernel_rfl) (by kernel_rfl) (fun _ _ _ h => h) (Or.inl ⟨by rfl, ?hy10⟩) hH5 ?rest10
                 case hy10 => (intro wq hSw; replace hSw : Grew wr wq := hSw; clear hSw; first | (go_simp; done) | (go_simp; with_reducible rfl))
                 try simp only [Act.put, List.setIfInBounds_toArray, List.set_cons_zero, List.set_cons_succ]
                 refine wpAnyH_take (i := 8) (oi := { dst := some 43, op := Op.extract (Operand.tmp 35) 1, type := 30, pos := "law.go:167", after := #[{ on := 6, ground := Ground.data }, { on := 10, ground := Ground.gcOnly Departure.lateStores }], guard := none }) (v := ?_) rfl (by kernel_rfl) (by kernel_rfl) (by kernel_rfl) (fun _ _ _ h => h) (Or.inl ⟨by rfl, ?hy11⟩) hH5 ?rest11
                 case hy11 => (intro wq hSw; replace hSw : Grew wr wq := hSw; clear hSw; first | (go_simp; done) | (go_simp; with_reducible rfl))
                 try simp only [Act.put, List.setIfInBounds_toArray, List.set_cons_zero, List.set_cons_succ]
                 refine wpAnyH_ready (rs := [10]) (by kernel_rfl) (by simp) ?_
                 refine AllReadyH.cons (o := { dst := none, op := Op.store 26 (Operand.tmp 7) (Operand.tmp 42), type := 0, pos := "law.go:167", after := #[{ on := 9, ground := Ground.data }, { on := 7, ground := Ground.data }, { on := 5, ground := Ground.chain }, { on := 0, ground := Ground.phase }, { on := 1, ground := Ground.phase }, { on := 2, ground := Ground.phase }, { on := 3, ground := Ground.phase }, { on := 4, ground := Ground.phase }, { on := 5, ground := Ground.phase }, { on := 6, ground := Ground.phase }, { on := 7, ground := Ground.phase }, { on := 8, ground := Ground.textOnly Departure.lateStores }, { on := 9, ground := Ground.phase }], guard := none }) rfl (fun K hK => ?_) ?_
                 · go_simp
                   refine hK.out _ _ (grew_set (grew_set (grew_set (HG5.out) _ (Nat.le_refl _)) _ (Nat.le_refl _)) _ (Nat.le_refl _)) (fun hH10 => ?_)
                   clear hK K
                   try simp only [Act.put, List.setIfInBounds_toArray, List.set_cons_zero, List.set_cons_succ]
                   refine wpAnyH_take (i := 11) (oi := { dst := some 8, op := Op.assign (Operand.tmp 43), type := 30, pos := "law.go:167", after := #[{ on := 8, ground := Ground.data }, { on := 10, ground := Ground.chain }, { on := 0, ground := Ground.phase }, { on := 1, ground := Ground.phase }, { on := 2, ground := Ground.phase }, { on := 3, ground := Ground.phase }, { on := 4, ground := Ground.phase }, { on := 5, ground := Ground.phase }, { on := 6, ground := Ground.phase }, { on := 7, ground := Ground.phase }, { on := 8, ground := Ground.phase }, { on := 9, ground := Ground.phase }, { on := 10, ground := Ground.phase }], guard := none }) (v := ?_) rfl (by kernel_rfl) (by kernel_rfl) (by kernel_rfl) (fun _ _ _ h => h) (Or.inl ⟨by rfl, ?hy12⟩) hH10 ?rest12
                   case hy12 => (intro wq hSw; replace hSw : Grew wr wq := hSw; clear hSw; first | (go_simp; done) | (go_simp; with_reducible rfl))
                   try simp only [Act.put, List.setIfInBounds_toArray, List.set_cons_zero, List.set_cons_succ]
                   refine wpAnyH_done (by kernel_rfl) ?_ _
                   refine NoPanic.normal ?_
                   go_wp2_with fail
                   go_meet
                   case rel => exact ⟨wr.heap.size, D1, D2, D3, g1, g2, g3, rfl, rfl, Nat.le_refl _, HZ5.out.all [.slice D1 P.1.length g1, .slice D2 P.2.1.length g2, .slice D3 P.2.2.length g3] rfl, ((HO5.out.put [.slice D1 P.1.length g1, .slice D2 P.2.1.length g2, .slice D3 P.2.2.length g3] 0 (by show wr.heap.size < (wr.alloc _).heap.size; simp)).mono (by show wr.heap.size ≤ (wr.alloc _).heap.size; simp)), grew_set (grew_set (grew_set (HG5.out) _ (Nat.le_refl _)) _ (Nat.le_refl _)) _ (Nat.le_refl _)⟩
                 · exact AllReadyH.nil
               · exact AllReadyH.nil
             · exact AllReadyH.nil
         case rest =>
           obtain ⟨T, D1, D2, D3, g1, g2, g3, rfl, rfl, hpost⟩ := hcut
           clear CD HRG
           have HP := hpost
           clear hpost
           have z0 := HP.out.2.1.at 0 _ rfl
           have z1 := HP.out.2.1.at 1 _ rfl
           have z2 := HP.out.2.1.at 2 _ rfl
           have y0 := (HR.out.keep HP.out.2.2.2).at 0 _ rfl
           have y1 := (HR.out.keep HP.out.2.2.2).at 1 _ rfl
           have y2 := (HR.out.keep HP.out.2.2.2).at 2 _ rfl
           have v0 := (HR.out.keep HP.out.2.2.2).fr 0 (by show 0 < 3; omega)
           have v1 := (HR.out.keep HP.out.2.2.2).fr 1 (by show 1 < 3; omega)
           have v2 := (HR.out.keep HP.out.2.2.2).fr 2 (by show 2 < 3; omega)

           by_cases he : E = 0
           · subst he
             go_wp2
             go_roundw
             case rel => exact ⟨i + 1, P, D1, D2, D3, g1, g2, g3, by go_num, by omega, by omega, (HR.out.keep HP.out.2.2.2).all [.slice D1 P.1.length g1, .slice D2 P.2.1.length g2, .slice D3 P.2.2.length g3] rfl, (HP.out.2.2.1.mono HR.out.lt).put [.slice D1 P.1.length g1, .slice D2 P.2.1.length g2, .slice D3 P.2.2.length g3] 0 (Nat.lt_succ_self _), (HDC.out rfl).1, grew_set (grew_set (grew_set (grew_trans HG.out HP.out.2.2.2) _ (Nat.le_refl _)) _ (Nat.le_refl _)) _ (Nat.le_refl _)⟩
             case measure => simp only [intOf]; omega
           · go_wp2
             go_roundw
             case rel => exact ⟨i + 1, r, A1, A2, A3, c1, c2, c3, by go_num, by omega, by omega, HR.out.keep HP.out.2.2.2, HO.out.keep HP.out.2.2.2, HOK, grew_trans HG.out HP.out.2.2.2⟩
             case measure => simp only [intOf]; omega
       · by_cases hin : i < n
         · have i1 : (i : Int) < (n : Int) := by omega
           have i2 : ¬ (i : Int) < 100 := by omega
           go_wp2_with fail
           go_meet
           case rel => exact ⟨r, A1, A2, A3, c1, c2, c3, HR, HO, HOK, HG⟩
         · have i1 : ¬ (i : Int) < (n : Int) := by omega
           go_wp2_with fail
           go_meet
           case rel => exact ⟨r, A1, A2, A3, c1, c2, c3, HR, HO, HOK, HG⟩
    case rest =>
      obtain ⟨r, A1, A2, A3, c1, c2, c3, HR, HO, HOK, HG⟩ := hcut
      clear HW1 HR1 HA HAL
      have HSH := Lib.hid (right_short HOK.out)
      go_wp2_with fail
      go_loopw [9, 10] (fun v9 v10 wr => ∃ (k : Nat), v9 = .int .i64 (cntL r.1 k : Nat) ∧ v10 = .int .i64 k ∧ 1 ≤ k ∧ k ≤ 4 ∧ Hid (Grew wc wr)) (fun _ v10 _ => 5 - (intOf v10).toNat)
      case atStart => exact ⟨1, by rw [cnt_one]; rfl, rfl, by omega, by omega, grew_refl _⟩
      case round =>
        obtain ⟨k, rfl, rfl, hk1, hk4, HGk⟩ := hrel
        have r0 := (HR.out.keep HGk.out).at 0 _ rfl
        have r1 := (HR.out.keep HGk.out).at 1 _ rfl
        have r2 := (HR.out.keep HGk.out).at 2 _ rfl
        by_cases hk : k ≤ 3
        · have k1 : (k : Int) ≤ 3 := by omega
          have HCS := Lib.hid (cnt_succ r.1 k hk1)
          have CT := those_any r A1 A2 A3 (some ⟨wr.heap.size, 0, none⟩) r.1.length r.2.1.length r.2.2.length c1 c2 c3 1 1 [(k : Int)] (wr.alloc (.cells #[.int .i64 (k : Int)] 3)) ((HO.out.in3.rows.m.keep HGk.out).keep (grew_alloc _ _ _)) (ints_alone wr (k : Int) 3) (by have := HSH.out; omega) (by omega)
          have c1b : cntL r.1 k ≤ 16 := by have := cnt_le r.1 k; have := HSH.out; omega
          have c2b : (thoseL [(k : Int)] r.1).length ≤ 16 := by have := those_len [(k : Int)] r.1; have := HSH.out; omega
          generalize thoseL [(k : Int)] r.1 = tl at *
          generalize cntL r.1 k = ck at *
          have c3b : (ck : Int) ≤ 16 := by omega
          have c4b : (tl.length : Int) ≤ 16 := by omega
          have c5b : (0 : Int) ≤ (ck : Int) := by omega
          have c6b : (0 : Int) ≤ (tl.length : Int) := by omega
          dsimp only [rlV] at CT
          go_wp2_with (go_at_call 26; ((with_reducible refine CT.mono ?_); rintro e w5 ⟨v, rfl, ho, hg⟩; obtain ⟨B1, d1, rfl, -⟩ := ho.form; have HG5 := Lib.hid (own_back hg); clear ho hg))
          go_roundw
          case rel => exact ⟨k + 1, by rw [HCS.out]; go_num, by go_num, by omega, by omega, grew_trans HGk.out HG5.out⟩
          case measure => simp only [intOf]; omega
        · obtain rfl : k = 4 := by omega
          rw [cnt_all HOK.out]
          have CT := fun w' (g : Grew wc w') => those_any r A1 A2 A3 S r.1.length r.2.1.length r.2.2.length c1 c2 c3 m d ss w' (HO.out.in3.rows.m.keep g) (HS.out.keep (grew_trans HG.out g)) (by have := HSH.out; omega) (by omega)
          dsimp only [rlV] at CT
          go_upto_region 16 with (go_at_call 26; ((with_reducible refine (CT _ HGk.out).mono ?_); rintro e w5 ⟨v, rfl, ho, hg⟩; obtain ⟨B1, d1, rfl, hrw, -⟩ := ho.form; have HTI := Lib.hid (ints_of_E hrw); have HG5 := Lib.hid (grew_trans HGk.out hg); clear ho hg hrw))
          clear r0 r1 r2 CT
          have HG2 := Lib.hid (grew_trans HG.out HG5.out)
          have HTL := Lib.hid (those_len ss r.1)
          go_wp2
          go_loopw [12, 13] (fun v12 v13 wr => ∃ (i : Nat), v12 = .int .i64 ((thoseL ss (r.1.take i)).length : Nat) ∧ v13 = .int .i64 i ∧ i ≤ r.1.length ∧ Hid (Grew w5 wr)) (fun _ v13 _ => 17 - (intOf v13).toNat)
          case atStart => exact ⟨0, rfl, rfl, Nat.zero_le _, grew_refl _⟩
          case round =>
            obtain ⟨i, rfl, rfl, hi, HGr0⟩ := hrel
            have HGr := Lib.hid (grew_trans HG5.out HGr0.out)
            have r0 := (HR.out.keep HGr.out).at 0 _ rfl
            have i0 : (0 : Int) ≤ (i : Int) := by omega
            by_cases hlt : i < r.1.length
            · have i1 : (i : Int) < (r.1.length : Int) := by omega
              have i16 : (i : Int) ≤ 16 := by have := HSH.out; omega
              obtain ⟨b1, o1, e1, hb1, hcell⟩ := (HO.out.in3.rows.m.keep HGr.out).at (by omega)
              have hc0 := hcell i hlt 0 (by decide)
              have hc1 := hcell i hlt 1 (by decide)
              clear hcell
              have HIL := Lib.hid (those_in ss r.1 i hlt)
              generalize r.1[i] = q at *
              obtain ⟨q1, q2, q3⟩ := q
              have hc0 : wr.cell? ⟨b1, o1 + i * 3, none⟩ = some (.int .i64 q1) := hc0
              have hc1 : wr.cell? ⟨b1, o1 + i * 3 + 1, none⟩ = some (.int .i64 q2) := hc1
              subst e1
              have HC0 := Lib.hid (fun w' (g : Grew wr w') => (grew_cell g (p := ⟨b1, o1 + i * 3, none⟩) hb1).trans hc0)
              have HC1 := Lib.hid (fun w' (g : Grew wr w') => (grew_cell g (p := ⟨b1, o1 + i * 3 + 1, none⟩) hb1).trans hc1)
              clear hc0 hc1 hb1
              have HRS := Lib.hid (fun w' (g : Grew wr w') => ((HR.out.keep HGr.out).keep g).at 0 _ rfl)
              go_wp2
              go_loopw [14, 15] (fun v14 v15 wz => ∃ (k : Nat), v14 = .bool ((ss.take k).contains q2) ∧ v15 = .int .i64 k ∧ k ≤ m ∧ Hid (Grew wr wz)) (fun _ v15 _ => 101 - (intOf v15).toNat)
              case atStart => exact ⟨0, rfl, rfl, Nat.zero_le _, grew_refl _⟩
              case round =>
                obtain ⟨k, rfl, rfl, hk, HGz⟩ := hrel
                have k0 : (0 : Int) ≤ (k : Int) := by omega
                by_cases hkm : k < m
                · have k1 : (k : Int) < (m : Int) := by omega
                  have HTK := Lib.hid (contains_succ ss k (by rw [HSL.out]; exact hkm) q2)
                  obtain ⟨sb, so, e2, hsb, hsc⟩ := (HS.out.keep (grew_trans HG.out (grew_trans HGr.out HGz.out))).2 (by omega)
                  have hs0 := hsc k hkm
                  clear hsc
                  subst e2
                  generalize ss.getD k 0 = s at *
                  have x0 := grew_every (S := fun w' => w'.cell? ⟨w.heap.size, 0, none⟩ = some (.slice (some ⟨b1, o1, none⟩) r.1.length c1)) (fun w' g => HRS.out w' (grew_trans HGz.out g))
                  have x1 := grew_every (S := fun w' => w'.cell? ⟨b1, o1 + i * 3 + 1, none⟩ = some (.int .i64 q2)) (fun w' g => HC1.out w' (grew_trans HGz.out g))
                  have x2 := grew_every (S := fun w' => w'.cell? ⟨sb, so + k, none⟩ = some (.int .i64 s)) (fun w' g => (grew_cell g (p := ⟨sb, so + k, none⟩) hsb).trans hs0)
                  clear hs0 hsb
                  go_upto_region 24 with fail
                  generalize (ss.take k).contains q2 = bb at *
                  cases bb
                  · by_cases hsq : s = q2
                    · subst hsq
                      refine wp_region_grew (by kernel_rfl) (by kernel_rfl) ?_
                      repeat (go_big_quiet_step (fail))
                      refine wpQuiet_nil ?_
                      intro wy hw'
                      have HGy := Lib.hid (grew_of hw')
                      clear hw'
                      clear x0 x1 x2
                      go_wp2
                      go_roundw
                      case rel => exact ⟨k + 1, by rw [HTK.out]; simp, by go_num, by omega, grew_trans HGz.out HGy.out⟩
                      case measure => simp only [intOf]; omega
                    · have d1 : (s == q2) = false := by simp [hsq]
                      refine wp_region_grew (by kernel_rfl) (by kernel_rfl) ?_
                      repeat (go_big_quiet_step (fail))
                      refine wpQuiet_nil ?_
                      intro wy hw'
                      have HGy := Lib.hid (grew_of hw')
                      clear hw'
                      clear x0 x1 x2
                      go_wp2
                      go_roundw
                      case rel => exact ⟨k + 1, by rw [HTK.out]; simp [hsq], by go_num, by omega, grew_trans HGz.out HGy.out⟩
                      case measure => simp only [intOf]; omega
                  · refine wp_region_grew (by kernel_rfl) (by kernel_rfl) ?_
                    repeat (go_big_quiet_step (fail))
                    refine wpQuiet_nil ?_
                    intro wy hw'
                    have HGy := Lib.hid (grew_of hw')
                    clear hw'
                    clear x0 x1 x2
                    go_wp2
                    go_roundw
                    case rel => exact ⟨k + 1, by rw [HTK.out]; simp, by go_num, by omega, grew_trans HGz.out HGy.out⟩
                    case measure => simp only [intOf]; omega
                · have k1 : ¬ (k : Int) < (m : Int) := by omega
                  have hkm2 : ss.take k = ss := List.take_of_length_le (by rw [HSL.out]; omega)
                  rw [hkm2]
                  clear hkm2
                  have HIL2 := HIL.out
                  clear HIL
                  generalize (thoseL ss (r.1.take i)).length = jj at *
                  generalize ss.contains q2 = cq at *
                  cases cq
                  · have HI1 := Lib.hid HIL2.1
                    clear HIL2
                    go_wp2
                    go_roundw
                    case rel => exact ⟨i + 1, by rw [HI1.out]; rfl, by go_num, by omega, grew_trans HGr0.out HGz.out⟩
                    case measure => simp only [intOf]; omega
                  · have HI1 := Lib.hid HIL2.1
                    obtain ⟨HI2, HI3⟩ := HIL2.2 rfl
                    clear HIL2
                    obtain ⟨tb, to_, e3, htb, htc⟩ := (HTI.out.keep (grew_trans HGr0.out HGz.out)).2 (by omega)
                    have ht0 := htc jj HI2
                    rw [HI3] at ht0
                    clear htc HI3
                    subst e3
                    have t1 : (jj : Int) < ((thoseL ss r.1).length : Int) := by omega
                    have t2 : ¬ ((jj : Int) ≥ ((thoseL ss r.1).length : Int)) := by omega
                    have t3 : (0 : Int) ≤ (jj : Int) := by omega
                    have t4 : (jj : Int) ≤ 16 := by have := HTL.out; have := HSH.out; omega
                    have x0 := grew_every (S := fun w' => w'.cell? ⟨w.heap.size, 0, none⟩ = some (.slice (some ⟨b1, o1, none⟩) r.1.length c1)) (fun w' g => HRS.out w' (grew_trans HGz.out g))
                    have x1 := grew_every (S := fun w' => w'.cell? ⟨b1, o1 + i * 3, none⟩ = some (.int .i64 q1)) (fun w' g => HC0.out w' (grew_trans HGz.out g))
                    have x2 := grew_every (S := fun w' => w'.cell? ⟨tb, to_ + jj, none⟩ = some (.int .i64 q1)) (fun w' g => (grew_cell g (p := ⟨tb, to_ + jj, none⟩) htb).trans ht0)
                    clear ht0 htb
                    go_upto_region 26 with fail
                    refine wp_region_grew (by kernel_rfl) (by kernel_rfl) ?_
                    repeat (go_big_quiet_step (fail))
                    refine wpQuiet_nil ?_
                    intro wy hw'
                    have HGy := Lib.hid (grew_of hw')
                    clear hw'
                    clear x0 x1 x2
                    go_wp2
                    go_roundw
                    case rel => exact ⟨i + 1, by rw [HI1.out]; go_num, by go_num, by omega, grew_trans HGr0.out (grew_trans HGz.out HGy.out)⟩
                    case measure => simp only [intOf]; omega
            · have i1 : ¬ (i : Int) < (r.1.length : Int) := by omega
              have hti : r.1.take i = r.1 := List.take_of_length_le (by omega)
              rw [hti]
              go_wp2_with (go_at_call 30; ((with_reducible refine (wakes11_any _).mono ?_); rintro e w9 ⟨rfl, hg⟩; have HG9 := Lib.hid hg; clear hg))
              go_ret
              exact ⟨rfl, grew_trans (grew_trans HG.out HGr.out) HG9.out⟩
end Go.Proofs.Ytnbgbfbiieimgaa.NumK
namespace Go.Proofs.Ytnbgbfbiieimgaa.rollThose
open Go.ChangeShapes Go.WideShapes Go.ChangeAt Go.RowKit
set_option linter.unusedVariables false

theorem own : ownKnob Try.prog.godebug = none := by kernel_rfl
theorem laidOut : laidOutB Try.prog = true := by kernel_rfl

set_option maxRecDepth 100000 in
theorem lifted (os : Os) (started : os.Started) (H : Type) (enc : TypeId × Value → H) :
    ReturnsInHanded {} Try.checked os 7 .any (Rows.rollThoseSpec.pre6 enc Try.prog Try.f7 Rows.rollThoseRow.domain false) (Rows.rollThoseSpec.post enc Try.prog Try.f7 false true false false) := by
  refine returnsInHanded_of_change (C := Try.checked) own started (by kernel_rfl) Try.func7
    (ChangeSpec.witness6 (enc := enc) (C := Try.checked) false ⟨#[], #[.slice none 0 0, .slice none 0 0], []⟩ 8 (by kernel_rfl) (by kernel_rfl) (by kernel_rfl) (by kernel_rfl)) ?_
  intro W base args ds gs before hval0 hW hcnd _
  have hval : ∀ (j : Nat) t v, Try.f7.params[j]? = some t → args[j]? = some v → Value.okWide Try.prog W .any base t v := hval0
  have hW' := hW
  obtain ⟨p, q, hA0, hV, rfl, hfz, hnd⟩ := hW
  have hA : DataW.TrodAll enc Try.prog W 0 (fun _ => true) true Try.f7.params.toList args.toList ds p := hA0
  skip
  rw [Try.params7] at hA hval
  obtain ⟨v0, vs0, d0, ds0, p0, q0, hargs, rfl, rfl, h0, r0⟩ := trodAll_cons hA
  obtain ⟨v1, vs1, d1, ds1, p1, q1, rfl, rfl, rfl, h1, r1⟩ := trodAll_cons r0
  obtain ⟨rfl, rfl, rfl⟩ := trodAll_nil r1
  obtain rfl : args = #[v0, v1] := by cases args; simp_all
  obtain ⟨rfl, rfl⟩ := trodVars_none hV
  have k0 := h0
  have lt0 : ∀ x ∈ p0, x.block < W.heap.size := by obtain ⟨m, hm⟩ := k0; exact DataW.trod_lt m _ _ _ hm
  obtain ⟨A0, len0, cap0, l0, rfl, ro0, n0, c0, m0⟩ := NumK.arg_slice Try.underlying61 NumK.opens_acts (hval 0 61 v0 rfl rfl) h0
  have k1 := h1
  have lt1 : ∀ x ∈ p1, x.block < W.heap.size := by obtain ⟨m, hm⟩ := k1; exact DataW.trod_lt m _ _ _ hm
  obtain ⟨A1, len1, cap1, l1, rfl, ro1, n1, c1, m1⟩ := NumK.arg_slice Try.underlying27 NumK.opens_ints (hval 1 27 v1 rfl rfl) h1
  clear hA0 hval0
  refine (NumK.rollThose_walk A0 A1 len0 cap0 len1 cap1 l0 l1 W (NumK.acts_of ro0) (NumK.ints_of_spec ro1) (by omega) (by omega)).mono fun e W' ⟨he, bel⟩ => ?_
  subst he
  exact ⟨_, rfl, _, _, _, [], _, [], hW', trodAll_mk1 (shut_bool Try.underlying4 _), (trodAll_cons_mk (Below.trod laidOut (by kernel_rfl) (of_decide_eq_true (by kernel_rfl)) k0 bel lt0) (trodAll_cons_mk (Below.trod laidOut (by kernel_rfl) (of_decide_eq_true (by kernel_rfl)) k1 bel lt1) trodAll_mk0)), rfl, bel.frame _, fun h => by cases h⟩

theorem over : Rows.rollThoseRow.holds Try.pinned (OpenSpec.ofChange Rows.rollThoseSpec) :=
  OpenClaim.holds_of_wide 7 Try.f7 rfl rfl rfl rfl rfl rfl rfl ⟨rfl, rfl, rfl, rfl, rfl⟩ rfl rfl rfl rfl rfl (by kernel_rfl) Try.func7 (by kernel_rfl)
    (of_decide_eq_true (by kernel_rfl)) (by unfold Func.isWrapper; first | (rw [if_pos (by decide +kernel)]; kernel_rfl) | (rw [if_neg (by decide +kernel)]; exact ⟨rfl, rfl⟩))
    (fun os started H enc _ => lifted os started H enc)

/-! ### the statement -/
theorem proved : Rows.RollThoseSaid := over
end Go.Proofs.Ytnbgbfbiieimgaa.rollThose
