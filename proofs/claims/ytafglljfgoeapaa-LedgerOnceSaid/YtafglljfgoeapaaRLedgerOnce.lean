/-
  Of the first 40 of whatever postings: what is refused tells an empty ledger; what is posted has a number above the last, and each account then has what its legs add up to (P10.4); more than 200 postings, or legs of one, the statement lets by.
-/
import Derived.Test.YtafglljfgoeapaaRS
import Derived.Test.YtafglljfgoeapaaRR
import Derived.Test.YtafglljfgoeapaaRows
import Derived.WalkKit
import Derived.ProofKit
import Derived.OpenShut
import Derived.ShutString
import Derived.ChangeOld
import Derived.Below
import Derived.Carry
namespace Go.Proofs.Ytafglljfgoeapaa.NumK
open Go.RowKit
set_option linter.unusedVariables false

theorem wrap_add (x y : Int) : wrap64 (wrap64 x + y) = IntKind.i64.wrap (x + y) := by rw [IntKind.wrap_i64]; unfold wrap64; omega
theorem wrap_in (x : Int) (h : isMoney x = true) : IntKind.i64.wrap x = x := by rw [isMoney_iff] at h; rw [IntKind.wrap_i64]; omega

set_option maxRecDepth 100000 in
set_option maxHeartbeats 8000000 in
theorem ledgerOnce_walk (A : Option Addr) (n c : Nat) (l : List Ld) (k m r : Int) (w : World) (h : Posts w A n l) :
    Calls Try.prog 5 #[.slice A n c, .agg #[.int .i64 k, .int .i64 m, .int .i64 r]] w fun e w' => e = .returned (.bool true) ∧ Grew w w' := by
  by_cases hf : Few n l
  · have HA := Lib.hid h
    have HF := Lib.hid hf
    have CH := fun w' (g : Grew w w') => heavy_few (c := c) (h.keep g) hf
    have WK := fun w => wakes10_any w
    clear h hf
    go_enter Try.func5, Try.ntmps5
    go_wp2_with (go_at_call 22; ((with_reducible refine (CH _ (grew_alloc _ _ _)).mono ?_); rintro e w1 ⟨rfl, rfl⟩; clear CH))
    have HG00 : Hid (Grew w ((w.alloc (.cells #[.int .i64 k, .int .i64 m, .int .i64 r] 27)).alloc (.cells #[.int .i64 0, .slice none 0 0] 24))) := grew_trans (grew_alloc _ _ _) (grew_alloc _ _ _)
    have HR0 : Hid (((w.alloc (.cells #[.int .i64 k, .int .i64 m, .int .i64 r] 27)).alloc (.cells #[.int .i64 0, .slice none 0 0] 24)).cell? ⟨w.heap.size, 0, none⟩ = some (.int .i64 k) ∧ ((w.alloc (.cells #[.int .i64 k, .int .i64 m, .int .i64 r] 27)).alloc (.cells #[.int .i64 0, .slice none 0 0] 24)).cell? ⟨w.heap.size, 1, none⟩ = some (.int .i64 m) ∧ ((w.alloc (.cells #[.int .i64 k, .int .i64 m, .int .i64 r] 27)).alloc (.cells #[.int .i64 0, .slice none 0 0] 24)).cell? ⟨w.heap.size, 2, none⟩ = some (.int .i64 r)) := ⟨own_cell (grew_alloc _ _ _) 0, own_cell (grew_alloc _ _ _) 1, own_cell (grew_alloc _ _ _) 2⟩
    have HM0 : Hid (Own2 ((w.alloc (.cells #[.int .i64 k, .int .i64 m, .int .i64 r] 27)).alloc (.cells #[.int .i64 0, .slice none 0 0] 24)) (w.heap.size + 1) (.int .i64 0) (.slice none 0 0)) := Own2.new _ _ _ _ _ (by simp)
    have HS0 : Hid (w.heap.size + 2 = ((w.alloc (.cells #[.int .i64 k, .int .i64 m, .int .i64 r] 27)).alloc (.cells #[.int .i64 0, .slice none 0 0] 24)).heap.size) := by show _ = _; simp
    generalize (w.alloc (.cells #[.int .i64 k, .int .i64 m, .int .i64 r] 27)).alloc (.cells #[.int .i64 0, .slice none 0 0] 24) = W0 at *
    have HAC : Hid (∀ w', Turn (w.heap.size + 1) W0 w' → w'.cell? ⟨w.heap.size, 0, none⟩ = some (.int .i64 k) ∧ w'.cell? ⟨w.heap.size, 1, none⟩ = some (.int .i64 m) ∧ w'.cell? ⟨w.heap.size, 2, none⟩ = some (.int .i64 r) ∧ w.heap.size < w'.heap.size) := fun w' T => by
      have hz : w.heap.size < W0.heap.size := by have := HS0.out; omega
      exact ⟨(T.cell (p := ⟨w.heap.size, 0, none⟩) hz (by show w.heap.size ≠ _; omega)).trans HR0.out.1, (T.cell (p := ⟨w.heap.size, 1, none⟩) hz (by show w.heap.size ≠ _; omega)).trans HR0.out.2.1, (T.cell (p := ⟨w.heap.size, 2, none⟩) hz (by show w.heap.size ≠ _; omega)).trans HR0.out.2.2, Nat.lt_of_lt_of_le hz T.size⟩
    go_loopw [6, 7, 8] (fun v6 v7 v8 wr => ∃ (i : Nat) (last : Int) (bl : List Lg) (A' : Option Addr) (c' : Nat), v6 = .int .i64 (sumA bl (k, m, r)) ∧ v7 = .int .i64 last ∧ v8 = .int .i64 i ∧ i ≤ n ∧ i ≤ 40 ∧ Hid (Own2 wr (w.heap.size + 1) (.int .i64 last) (.slice A' bl.length c')) ∧ Hid (Led wr (w.heap.size + 2) last bl A' c') ∧ Hid (Turn (w.heap.size + 1) W0 wr)) (fun _ _ v8 _ => 40 - (intOf v8).toNat)
    case atStart => exact ⟨0, 0, [], none, 0, rfl, rfl, rfl, by omega, by omega, HM0.out, Led.empty _ _, Turn.refl _ _⟩
    case round =>
      obtain ⟨i, last, bl, A', c', rfl, rfl, rfl, hk, hk40, HM, HL, HT⟩ := hrel
      have HG := Lib.hid (Turn.new HG00.out HT.out (by omega))
      obtain ⟨s0, s1, f0, f1, hsl⟩ := HM.out
      have i0 : (0 : Int) ≤ (i : Int) := by omega
      by_cases hlt : i < n ∧ i < 40
      · have i1 : (i : Int) < (n : Int) := by omega
        have i2 : (i : Int) < 40 := by omega
        obtain ⟨b, o, rfl, hb, hc⟩ := (HA.out.keep HG.out).2 (by omega)
        obtain ⟨B2, n2, c2, hi, g0, g1⟩ := hc i hlt.1
        have hn2 : n2 ≤ 200 := by rw [← hi.row.len]; exact HF.out.2 i hlt.1
        clear hc
        generalize l.getD i default = x at *
        have HI := Lib.hid hi
        have HXC : Hid (∀ w', Grew wr w' → w'.cell? ⟨b, o + i * 2, none⟩ = some (.int .i64 x.1) ∧ w'.cell? ⟨b, o + i * 2 + 1, none⟩ = some (.slice B2 n2 c2) ∧ b < w'.heap.size) := fun w' g =>
          ⟨(grew_cell g (p := ⟨b, _, none⟩) hb).trans g0, (grew_cell g (p := ⟨b, _, none⟩) hb).trans g1, Nat.lt_of_lt_of_le hb g.size⟩
        have HS : Hid (∀ w', Grew wr w' → w'.cell? ⟨w.heap.size + 1, 0, none⟩ = some (.int .i64 last) ∧ w'.cell? ⟨w.heap.size + 1, 1, none⟩ = some (.slice A' bl.length c') ∧ w'.cell? ⟨b, o + i * 2, none⟩ = some (.int .i64 x.1) ∧ w'.cell? ⟨b, o + i * 2 + 1, none⟩ = some (.slice B2 n2 c2)) := fun w' g =>
          ⟨(grew_cell g (p := ⟨w.heap.size + 1, 0, none⟩) hsl).trans s0, (grew_cell g (p := ⟨w.heap.size + 1, 1, none⟩) hsl).trans s1, (grew_cell g (p := ⟨b, _, none⟩) hb).trans g0, (grew_cell g (p := ⟨b, _, none⟩) hb).trans g1⟩
        have HZ0 : Hid (w.heap.size + 2 ≤ wr.heap.size) := by have := HT.out.size; have := HS0.out; show _ ≤ _; omega
        have CP := fun w' (g : Grew wr w') => postR_any w'.heap.size last x.1 A' B2 c' n2 c2 bl x.2 w' (HL.out.row.keep g) (by have := HL.out.len; omega) (HI.out.row.keep g) HI.out.nil (by omega) (Nat.le_refl _)
        unfold ldV at CP
        clear s0 s1 g0 g1 hi hb f0 f1 hsl
        by_cases h0 : postE last bl x.1 x.2 = 0
        · have CPy := fun w' g => (CP w' g).mono fun e w'' h => postR_yes h0 h
          clear CP
          unfold ldV at CPy
          go_upto_region 9 with fail
          refine wp_region_held_drew (S := (fun w' => w'.cell? ⟨w.heap.size + 1, 0, none⟩ = some (.int .i64 last) ∧ w'.cell? ⟨w.heap.size + 1, 1, none⟩ = some (.slice A' bl.length c') ∧ w'.cell? ⟨b, o + i * 2, none⟩ = some (.int .i64 x.1) ∧ w'.cell? ⟨b, o + i * 2 + 1, none⟩ = some (.slice B2 n2 c2))) (by kernel_rfl) (HS.out _ (grew_drew (grew_refl _))) (fun hHeld => ?_)
          (refine wpAnyH_take (i := 0) (oi := { dst := some 26, op := Op.load 24 (Operand.tmp 5), type := 24, pos := "law.go:104", after := #[], guard := none }) (v := ?_) rfl (by kernel_rfl) (by kernel_rfl) (by kernel_rfl) (fun _ _ _ h => h) (Or.inl ⟨by rfl, ?_⟩) (by assumption) ?_; rotate_left; · (intro w hSw; (try dsimp only at hSw); go_simp; (first | done | with_reducible rfl)))
          try simp only [Act.put, List.setIfInBounds_toArray, List.set_cons_zero, List.set_cons_succ]
          (refine wpAnyH_take (i := 1) (oi := { dst := some 27, op := Op.move (Operand.tmp 0), type := 45, pos := "law.go:104", after := #[], guard := none }) (v := ?_) rfl (by kernel_rfl) (by kernel_rfl) (by kernel_rfl) (fun _ _ _ h => h) (Or.inl ⟨by rfl, ?_⟩) (by assumption) ?_; rotate_left; · (intro w hSw; (try dsimp only at hSw); go_simp; (first | done | with_reducible rfl)))
          try simp only [Act.put, List.setIfInBounds_toArray, List.set_cons_zero, List.set_cons_succ]
          (refine wpAnyH_take (i := 2) (oi := { dst := some 28, op := Op.move (Operand.tmp 8), type := 3, pos := "law.go:104", after := #[], guard := none }) (v := ?_) rfl (by kernel_rfl) (by kernel_rfl) (by kernel_rfl) (fun _ _ _ h => h) (Or.inl ⟨by rfl, ?_⟩) (by assumption) ?_; rotate_left; · (intro w hSw; (try dsimp only at hSw); go_simp; (first | done | with_reducible rfl)))
          try simp only [Act.put, List.setIfInBounds_toArray, List.set_cons_zero, List.set_cons_succ]
          (refine wpAnyH_take (i := 3) (oi := { dst := some 29, op := Op.indexAddr 45 (Operand.tmp 27) (Operand.tmp 28), type := 0, pos := "law.go:104", after := #[{ on := 1, ground := Ground.data }, { on := 2, ground := Ground.data }], guard := none }) (v := ?_) rfl (by kernel_rfl) (by kernel_rfl) (by kernel_rfl) (fun _ _ _ h => h) (Or.inl ⟨by rfl, ?_⟩) (by assumption) ?_; rotate_left; · (intro w hSw; (try dsimp only at hSw); go_simp; (first | done | with_reducible rfl)))
          try simp only [Act.put, List.setIfInBounds_toArray, List.set_cons_zero, List.set_cons_succ]
          (refine wpAnyH_take (i := 4) (oi := { dst := some 30, op := Op.fieldAddr 50 (Operand.tmp 29) 0, type := 0, pos := "law.go:104", after := #[{ on := 3, ground := Ground.data }], guard := none }) (v := ?_) rfl (by kernel_rfl) (by kernel_rfl) (by kernel_rfl) (fun _ _ _ h => h) (Or.inl ⟨by rfl, ?_⟩) (by assumption) ?_; rotate_left; · (intro w hSw; (try dsimp only at hSw); go_simp; (first | done | with_reducible rfl)))
          try simp only [Act.put, List.setIfInBounds_toArray, List.set_cons_zero, List.set_cons_succ]
          (refine wpAnyH_take (i := 5) (oi := { dst := some 31, op := Op.load 3 (Operand.tmp 30), type := 3, pos := "law.go:104", after := #[{ on := 4, ground := Ground.data }], guard := none }) (v := ?_) rfl (by kernel_rfl) (by kernel_rfl) (by kernel_rfl) (fun _ _ _ h => h) (Or.inl ⟨by rfl, ?_⟩) (by assumption) ?_; rotate_left; · (intro w hSw; (try dsimp only at hSw); go_simp; (first | done | with_reducible rfl)))
          try simp only [Act.put, List.setIfInBounds_toArray, List.set_cons_zero, List.set_cons_succ]
          (refine wpAnyH_take (i := 6) (oi := { dst := some 32, op := Op.move (Operand.tmp 0), type := 45, pos := "law.go:104", after := #[], guard := none }) (v := ?_) rfl (by kernel_rfl) (by kernel_rfl) (by kernel_rfl) (fun _ _ _ h => h) (Or.inl ⟨by rfl, ?_⟩) (by assumption) ?_; rotate_left; · (intro w hSw; (try dsimp only at hSw); go_simp; (first | done | with_reducible rfl)))
          try simp only [Act.put, List.setIfInBounds_toArray, List.set_cons_zero, List.set_cons_succ]
          (refine wpAnyH_take (i := 7) (oi := { dst := some 33, op := Op.move (Operand.tmp 8), type := 3, pos := "law.go:104", after := #[], guard := none }) (v := ?_) rfl (by kernel_rfl) (by kernel_rfl) (by kernel_rfl) (fun _ _ _ h => h) (Or.inl ⟨by rfl, ?_⟩) (by assumption) ?_; rotate_left; · (intro w hSw; (try dsimp only at hSw); go_simp; (first | done | with_reducible rfl)))
          try simp only [Act.put, List.setIfInBounds_toArray, List.set_cons_zero, List.set_cons_succ]
          (refine wpAnyH_take (i := 8) (oi := { dst := some 34, op := Op.indexAddr 45 (Operand.tmp 32) (Operand.tmp 33), type := 0, pos := "law.go:104", after := #[{ on := 6, ground := Ground.data }, { on := 7, ground := Ground.data }], guard := none }) (v := ?_) rfl (by kernel_rfl) (by kernel_rfl) (by kernel_rfl) (fun _ _ _ h => h) (Or.inl ⟨by rfl, ?_⟩) (by assumption) ?_; rotate_left; · (intro w hSw; (try dsimp only at hSw); go_simp; (first | done | with_reducible rfl)))
          try simp only [Act.put, List.setIfInBounds_toArray, List.set_cons_zero, List.set_cons_succ]
          (refine wpAnyH_take (i := 9) (oi := { dst := some 35, op := Op.fieldAddr 50 (Operand.tmp 34) 1, type := 0, pos := "law.go:104", after := #[{ on := 8, ground := Ground.data }], guard := none }) (v := ?_) rfl (by kernel_rfl) (by kernel_rfl) (by kernel_rfl) (fun _ _ _ h => h) (Or.inl ⟨by rfl, ?_⟩) (by assumption) ?_; rotate_left; · (intro w hSw; (try dsimp only at hSw); go_simp; (first | done | with_reducible rfl)))
          try simp only [Act.put, List.setIfInBounds_toArray, List.set_cons_zero, List.set_cons_succ]
          (refine wpAnyH_take (i := 10) (oi := { dst := some 36, op := Op.load 25 (Operand.tmp 35), type := 25, pos := "law.go:104", after := #[{ on := 9, ground := Ground.data }], guard := none }) (v := ?_) rfl (by kernel_rfl) (by kernel_rfl) (by kernel_rfl) (fun _ _ _ h => h) (Or.inl ⟨by rfl, ?_⟩) (by assumption) ?_; rotate_left; · (intro w hSw; (try dsimp only at hSw); go_simp; (first | done | with_reducible rfl)))
          try simp only [Act.put, List.setIfInBounds_toArray, List.set_cons_zero, List.set_cons_succ]
          refine wpAnyH_ready (rs := [11, 15]) (by kernel_rfl) (by simp) ?_
          refine (AllReadyH.cons (o := { dst := some 37, op := Op.call { callee := Callee.value (Operand.func 15), args := #[Operand.tmp 26, Operand.tmp 31, Operand.tmp 36], argTypes := #[24, 3, 25] }, type := 34, pos := "law.go:104", after := #[{ on := 0, ground := Ground.data }, { on := 5, ground := Ground.data }, { on := 10, ground := Ground.data }], guard := none }) rfl (fun K hK => ?_) (AllReadyH.cons (o := { dst := some 9, op := Op.alloc 24, type := 0, pos := "law.go:104", after := #[], guard := none }) rfl (fun K hK => ?_) AllReadyH.nil))
          · go_simp
            (go_at_call 15; (first | (with_reducible refine (CPy _ (grew_drew (grew_refl _))).mono ?_) | (with_reducible refine (CPy _ (grew_drew (grew_alloc _ _ _))).mono ?_) | (with_reducible refine (CPy _ (grew_drew (grew_drew (grew_alloc _ _ _)))).mono ?_)); rintro e w5 ⟨A5, c5, rfl, hl5, hg5⟩)
            have HG5 : Hid (Grew wr w5) := (by first | exact grew_trans (grew_drew (grew_refl _)) hg5 | exact grew_trans (grew_drew (grew_alloc _ _ _)) hg5 | exact grew_trans (grew_drew (grew_drew (grew_alloc _ _ _))) hg5)
            (try have HT5 := Lib.hid (((Own2.new wr (.int .i64 0) (.slice none 0 0) 24 _ rfl).keep (grew_drew (grew_refl _))).keep hg5))
            (try have HT5 := Lib.hid (((Own2.new wr (.int .i64 0) (.slice none 0 0) 24 _ rfl).keep (grew_drew (grew_drew (grew_refl _)))).keep hg5))
            (try obtain ⟨t0, t1, t2, t3, t4⟩ := HT5.out)
            refine hK.out _ _ ?_ (fun hHeld => ?_)
            · first
              | exact HS.out _ HG5.out
            clear hK K
            try simp only [Act.put, List.setIfInBounds_toArray, List.set_cons_zero, List.set_cons_succ]
            (refine wpAnyH_take (i := 12) (oi := { dst := some 25, op := Op.move (Operand.tmp 37), type := 34, pos := "law.go:104", after := #[{ on := 11, ground := Ground.data }], guard := none }) (v := ?_) rfl (by kernel_rfl) (by kernel_rfl) (by kernel_rfl) (fun _ _ _ h => h) (Or.inl ⟨by rfl, ?_⟩) (by assumption) ?_; rotate_left; · (intro w hSw; (try dsimp only at hSw); go_simp; (first | done | with_reducible rfl)))
            try simp only [Act.put, List.setIfInBounds_toArray, List.set_cons_zero, List.set_cons_succ]
            (refine wpAnyH_take (i := 13) (oi := { dst := some 38, op := Op.extract (Operand.tmp 25) 0, type := 24, pos := "law.go:104", after := #[{ on := 12, ground := Ground.data }], guard := none }) (v := ?_) rfl (by kernel_rfl) (by kernel_rfl) (by kernel_rfl) (fun _ _ _ h => h) (Or.inl ⟨by rfl, ?_⟩) (by assumption) ?_; rotate_left; · (intro w hSw; (try dsimp only at hSw); go_simp; (first | done | with_reducible rfl)))
            try simp only [Act.put, List.setIfInBounds_toArray, List.set_cons_zero, List.set_cons_succ]
            (refine wpAnyH_take (i := 14) (oi := { dst := some 39, op := Op.extract (Operand.tmp 25) 1, type := 31, pos := "law.go:104", after := #[{ on := 12, ground := Ground.data }, { on := 16, ground := Ground.gcOnly Departure.lateStores }], guard := none }) (v := ?_) rfl (by kernel_rfl) (by kernel_rfl) (by kernel_rfl) (fun _ _ _ h => h) (Or.inl ⟨by rfl, ?_⟩) (by assumption) ?_; rotate_left; · (intro w hSw; (try dsimp only at hSw); go_simp; (first | done | with_reducible rfl)))
            try simp only [Act.put, List.setIfInBounds_toArray, List.set_cons_zero, List.set_cons_succ]
            refine wpAnyH_ready (rs := [15]) (by kernel_rfl) (by simp) ?_
            refine (AllReadyH.cons (o := { dst := some 9, op := Op.alloc 24, type := 0, pos := "law.go:104", after := #[], guard := none }) rfl (fun K hK => ?_) AllReadyH.nil)
            go_simp
            refine hK.out _ _ ?_ (fun hHeld => ?_)
            · first
              | exact HS.out _ (grew_alloc _ _ _)
              | exact HS.out _ (grew_drew (grew_alloc _ _ _))
              | exact HS.out _ (grew_trans HG5.out (grew_alloc _ _ _))
              | exact HS.out _ (grew_trans HG5.out (grew_drew (grew_alloc _ _ _)))
              | (trace_state; fail)
            clear hK K
            try simp only [Act.put, List.setIfInBounds_toArray, List.set_cons_zero, List.set_cons_succ]
            refine wpAnyH_ready (rs := [16]) (by kernel_rfl) (by simp) ?_
            refine (AllReadyH.cons (o := { dst := none, op := Op.store 24 (Operand.tmp 9) (Operand.tmp 38), type := 0, pos := "law.go:104", after := #[{ on := 15, ground := Ground.data }, { on := 13, ground := Ground.data }, { on := 11, ground := Ground.chain }, { on := 0, ground := Ground.phase }, { on := 1, ground := Ground.phase }, { on := 2, ground := Ground.phase }, { on := 3, ground := Ground.phase }, { on := 4, ground := Ground.phase }, { on := 5, ground := Ground.phase }, { on := 6, ground := Ground.phase }, { on := 7, ground := Ground.phase }, { on := 8, ground := Ground.phase }, { on := 9, ground := Ground.phase }, { on := 10, ground := Ground.phase }, { on := 11, ground := Ground.phase }, { on := 12, ground := Ground.phase }, { on := 13, ground := Ground.phase }, { on := 14, ground := Ground.textOnly Departure.lateStores }, { on := 15, ground := Ground.phase }], guard := none }) rfl (fun K hK => ?_) AllReadyH.nil)
            go_simp
            refine hK.out _ _ ?_ (fun hHeld => ?_)
            · first
              | exact HS.out _ (grew_set (grew_set HG5.out _ (Nat.le_refl _)) _ (Nat.le_refl _))
              | exact HS.out _ (grew_drew (grew_set (grew_set HG5.out _ (Nat.le_refl _)) _ (Nat.le_refl _)))
              | exact HS.out _ (grew_set (grew_set (grew_trans HG5.out (grew_alloc _ _ _)) _ HG5.out.size) _ HG5.out.size)
              | exact HS.out _ (grew_drew (grew_set (grew_set (grew_trans HG5.out (grew_alloc _ _ _)) _ HG5.out.size) _ HG5.out.size))
              | exact HS.out _ (grew_set (grew_set (grew_trans HG5.out (grew_drew (grew_alloc _ _ _))) _ HG5.out.size) _ HG5.out.size)
              | exact HS.out _ (grew_trans HG5.out (grew_alloc _ _ _))
              | exact HS.out _ (grew_trans HG5.out (grew_drew (grew_alloc _ _ _)))
              | (trace_state; fail)
            clear hK K
            try simp only [Act.put, List.setIfInBounds_toArray, List.set_cons_zero, List.set_cons_succ]
            (refine wpAnyH_take (i := 17) (oi := { dst := some 10, op := Op.assign (Operand.tmp 39), type := 31, pos := "law.go:104", after := #[{ on := 14, ground := Ground.data }, { on := 16, ground := Ground.chain }, { on := 0, ground := Ground.phase }, { on := 1, ground := Ground.phase }, { on := 2, ground := Ground.phase }, { on := 3, ground := Ground.phase }, { on := 4, ground := Ground.phase }, { on := 5, ground := Ground.phase }, { on := 6, ground := Ground.phase }, { on := 7, ground := Ground.phase }, { on := 8, ground := Ground.phase }, { on := 9, ground := Ground.phase }, { on := 10, ground := Ground.phase }, { on := 11, ground := Ground.phase }, { on := 12, ground := Ground.phase }, { on := 13, ground := Ground.phase }, { on := 14, ground := Ground.phase }, { on := 15, ground := Ground.phase }, { on := 16, ground := Ground.phase }], guard := none }) (v := ?_) rfl (by kernel_rfl) (by kernel_rfl) (by kernel_rfl) (fun _ _ _ h => h) (Or.inl ⟨by rfl, ?_⟩) (by assumption) ?_; rotate_left; · (intro w hSw; (try dsimp only at hSw); go_simp; (first | done | with_reducible rfl)))
            try simp only [Act.put, List.setIfInBounds_toArray, List.set_cons_zero, List.set_cons_succ]
            refine wpAnyH_done (by kernel_rfl) ?_ _
            clear hHeld
            first
              | (have hX : Own2 ((w5.setCell ⟨wr.heap.size, 0, none⟩ (.int .i64 x.1)).setCell ⟨wr.heap.size, 1, none⟩ (.slice A5 (postL last bl x.1 x.2).length c5)) wr.heap.size (.int .i64 x.1) (.slice A5 (postL last bl x.1 x.2).length c5) ∧ Led ((w5.setCell ⟨wr.heap.size, 0, none⟩ (.int .i64 x.1)).setCell ⟨wr.heap.size, 1, none⟩ (.slice A5 (postL last bl x.1 x.2).length c5)) (w.heap.size + 2) x.1 (postL last bl x.1 x.2) A5 c5 ∧ Grew wr ((w5.setCell ⟨wr.heap.size, 0, none⟩ (.int .i64 x.1)).setCell ⟨wr.heap.size, 1, none⟩ (.slice A5 (postL last bl x.1 x.2).length c5)) ∧ wr.heap.size ≤ wr.heap.size := ⟨HT5.out.set _ _, ((hl5.set wr.heap.size 0 _ (by simp)).set wr.heap.size 1 _ (by simp)).mono (by have := HZ0.out; simp; omega), grew_set (grew_set HG5.out _ (Nat.le_refl _)) _ (Nat.le_refl _), Nat.le_refl _⟩; clear t0 t1 t2 t3 t4; generalize ((w5.setCell ⟨wr.heap.size, 0, none⟩ (.int .i64 x.1)).setCell ⟨wr.heap.size, 1, none⟩ (.slice A5 (postL last bl x.1 x.2).length c5)) = wF at *; (have hTF0 : ∃ TF, wr.heap.size = TF := ⟨_, rfl⟩); obtain ⟨TF, hTF⟩ := hTF0; simp only [hTF] at *)
              | (have hX : Own2 (w5.alloc (.cells #[.int .i64 x.1, .slice A5 (postL last bl x.1 x.2).length c5] 24)) w5.heap.size (.int .i64 x.1) (.slice A5 (postL last bl x.1 x.2).length c5) ∧ Led (w5.alloc (.cells #[.int .i64 x.1, .slice A5 (postL last bl x.1 x.2).length c5] 24)) (w.heap.size + 2) x.1 (postL last bl x.1 x.2) A5 c5 ∧ Grew wr (w5.alloc (.cells #[.int .i64 x.1, .slice A5 (postL last bl x.1 x.2).length c5] 24)) ∧ wr.heap.size ≤ w5.heap.size := ⟨Own2.new _ _ _ _ _ rfl, (hl5.keep (grew_alloc _ _ _)).mono (by have := HZ0.out; simp; omega), grew_trans HG5.out (grew_alloc _ _ _), HG5.out.size⟩; generalize (w5.alloc (.cells #[.int .i64 x.1, .slice A5 (postL last bl x.1 x.2).length c5] 24)) = wF at *; generalize hTF : w5.heap.size = TF at *)
            have HX := Lib.hid hX
            obtain ⟨⟨u0, u1, uf0, uf1, ul⟩, -, hgX, hTX⟩ := hX
            clear hl5
            obtain ⟨xa, xb, xl⟩ := HXC.out wF hgX
            have hPO := posted h0
            have hQO := postE_zero.1 h0
            have i5 : ¬ x.1 ≤ last := by have := hQO.2.2.2.1; omega
            have HSU := Lib.hid (hPO.2.2.2.2 (k, m, r))
            have HMO := Lib.hid (sumA_money (ledger_parts hPO.2.1).2.1 (k, m, r)).1
            have HMB := Lib.hid (sumA_money (ledger_parts hQO.1).2.1 (k, m, r)).1
            clear hPO hQO h0
            clear hgX
            generalize postL last bl x.1 x.2 = tl at *
            go_wp2
            go_loopw [6, 11] (fun v6 v11 wi => ∃ j : Nat, v6 = .int .i64 (IntKind.i64.wrap (sumA bl (k, m, r) + sumA (x.2.take j) (k, m, r))) ∧ v11 = .int .i64 j ∧ j ≤ n2 ∧ Hid (Grew wF wi)) (fun _ v11 _ => n2 - (intOf v11).toNat)
            case atStart => exact ⟨0, by rw [List.take_zero, sumA_nil, Int.add_zero, wrap_in _ HMB.out], rfl, by omega, grew_refl _⟩
            case round =>
              obtain ⟨j, rfl, rfl, hj, HGi⟩ := hrel
              have HGri := Lib.hid (grew_trans HX.out.2.2.1 HGi.out)
              clear xa xb xl u0 u1 uf0 uf1 ul
              obtain ⟨xa, xb, xl⟩ := HXC.out wr HGri.out
              by_cases hj2 : j < n2
              · obtain ⟨b3, o3, rfl, hb3, a1, a2, a3, a4⟩ := (HI.out.row.keep HGri.out).lg hj2
                have HSN := Lib.hid (sumA_snoc x.2 j (by rw [HI.out.row.len]; exact hj2) (k, m, r))
                have i6 : (j : Int) < (n2 : Int) := by omega
                have i7 : (0 : Int) ≤ (j : Int) := by omega
                have CK := fun w => keepAcct_any (x.2.getD j lg0).1.1 (x.2.getD j lg0).1.2.1 (x.2.getD j lg0).1.2.2 k m r w
                rw [sameA_iff (x.2.getD j lg0).1 (k, m, r)] at CK
                unfold acV at CK
                generalize x.2.getD j lg0 = y at *
                obtain ⟨d0, d1, d2, dl⟩ := HAC.out wr (HT.out.grew HGri.out)
                have y1 : ∀ p : GrewTo wr, p.to.cell? ⟨b3, o3 + j * 4, none⟩ = _ := fun p => (grew_cell p.h (p := ⟨b3, o3 + j * 4, none⟩) hb3).trans a1
                have y2 : ∀ p : GrewTo wr, p.to.cell? ⟨b3, o3 + j * 4 + 1, none⟩ = _ := fun p => (grew_cell p.h (p := ⟨b3, o3 + j * 4 + 1, none⟩) hb3).trans a2
                have y3 : ∀ p : GrewTo wr, p.to.cell? ⟨b3, o3 + j * 4 + 2, none⟩ = _ := fun p => (grew_cell p.h (p := ⟨b3, o3 + j * 4 + 2, none⟩) hb3).trans a3
                have HY4 : Hid (∀ w', Grew wr w' → w'.cell? ⟨b3, o3 + j * 4 + 3, none⟩ = some (.int .i64 y.2)) := fun w' g => (grew_cell g (p := ⟨b3, o3 + j * 4 + 3, none⟩) hb3).trans a4
                have x1 : ∀ p : GrewTo wr, p.to.cell? ⟨b, o + i * 2 + 1, none⟩ = _ := fun p => (grew_cell p.h (p := ⟨b, o + i * 2 + 1, none⟩) xl).trans xb
                have z1 : ∀ p : GrewTo wr, p.to.cell? ⟨w.heap.size, 0, none⟩ = _ := fun p => (grew_cell p.h (p := ⟨w.heap.size, 0, none⟩) dl).trans d0
                have z2 : ∀ p : GrewTo wr, p.to.cell? ⟨w.heap.size, 1, none⟩ = _ := fun p => (grew_cell p.h (p := ⟨w.heap.size, 1, none⟩) dl).trans d1
                have z3 : ∀ p : GrewTo wr, p.to.cell? ⟨w.heap.size, 2, none⟩ = _ := fun p => (grew_cell p.h (p := ⟨w.heap.size, 2, none⟩) dl).trans d2
                clear a1 a2 a3 a4 d0 d1 d2 dl hb3
                by_cases hy : y.1 = (k, m, r)
                · rw [decide_eq_true hy] at CK
                  have HS2 : Hid (sumA (x.2.take (j + 1)) (k, m, r) = sumA (x.2.take j) (k, m, r) + y.2) := by have := HSN.out; rw [if_pos hy] at this; exact this
                  clear hy HSN
                  generalize y.1.1 = k1 at *
                  generalize y.1.2.1 = k2 at *
                  generalize y.1.2.2 = k3 at *
                  generalize y.2 = k4 at *
                  generalize sumA (x.2.take j) (k, m, r) = T0 at *
                  go_wp2_with fail
                  refine wp_region_grew (by kernel_rfl) (by kernel_rfl) ?_
                  repeat (go_big_quiet_step (with_reducible exact calls_grew (CK _)))
                  refine wpQuiet_nil ?_
                  intro w6 hw'
                  have HG6 := Lib.hid (grew_of hw')
                  have y4 := HY4.out w6 HG6.out
                  clear hw' x1 y1 y2 y3 z1 z2 z3 xa xb xl
                  obtain ⟨xa, xb, xl⟩ := HXC.out w6 (grew_trans HGri.out HG6.out)
                  go_wp2
                  go_roundw
                  case rel => exact ⟨j + 1, by rw [HS2.out, ← Int.add_assoc]; exact congrArg (Value.int .i64) (wrap_add _ _), by go_num, by omega, grew_trans HGi.out HG6.out⟩
                  case measure => simp only [intOf]; omega
                · rw [decide_eq_false hy] at CK
                  have HS2 : Hid (sumA (x.2.take (j + 1)) (k, m, r) = sumA (x.2.take j) (k, m, r)) := by have := HSN.out; rw [if_neg hy] at this; rw [Int.add_zero] at this; exact this
                  clear hy HSN
                  generalize y.1.1 = k1 at *
                  generalize y.1.2.1 = k2 at *
                  generalize y.1.2.2 = k3 at *
                  generalize sumA (x.2.take j) (k, m, r) = T0 at *
                  go_wp2_with fail
                  refine wp_region_grew (by kernel_rfl) (by kernel_rfl) ?_
                  repeat (go_big_quiet_step (with_reducible exact calls_grew (CK _)))
                  refine wpQuiet_nil ?_
                  intro w6 hw'
                  have HG6 := Lib.hid (grew_of hw')
                  clear hw' x1 y1 y2 y3 z1 z2 z3 xa xb xl
                  go_wp2
                  go_roundw
                  case rel => exact ⟨j + 1, by rw [HS2.out], by go_num, by omega, grew_trans HGi.out HG6.out⟩
                  case measure => simp only [intOf]; omega
              · obtain rfl : j = n2 := by omega
                have hV : IntKind.i64.wrap (sumA bl (k, m, r) + sumA (x.2.take j) (k, m, r)) = sumA tl (k, m, r) := by
                  rw [List.take_of_length_le (by rw [HI.out.row.len]; exact Nat.le_refl _), ← HSU.out]; exact wrap_in _ HMO.out
                generalize IntKind.i64.wrap (sumA bl (k, m, r) + sumA (x.2.take j) (k, m, r)) = V at *
                subst hV
                obtain ⟨u0, u1, uf0, uf1, ul⟩ := HX.out.1.keep HGi.out
                obtain ⟨s0, s1, f0, f1, hsl⟩ := HM.out.keep HGri.out
                have HKK : Hid (∀ wq, wq = (wr.setCell ⟨w.heap.size + 1, 0, none⟩ (.int .i64 x.1)).setCell ⟨w.heap.size + 1, 1, none⟩ (.slice A5 tl.length c5) → Own2 wq (w.heap.size + 1) (.int .i64 x.1) (.slice A5 tl.length c5) ∧ Led wq (w.heap.size + 2) x.1 tl A5 c5 ∧ Turn (w.heap.size + 1) W0 wq) := by
                  rintro wq rfl
                  exact ⟨(HM.out.keep HGri.out).set _ _, ((HX.out.2.1.keep HGi.out).set _ _ _ (by omega)).set _ _ _ (by omega), ((HT.out.grew HGri.out).setCell _ _).setCell _ _⟩
                go_upto_region 22 with fail
                obtain ⟨hq1, hq2, hq3⟩ := HKK.out _ rfl
                generalize (wr.setCell ⟨w.heap.size + 1, 0, none⟩ (.int .i64 x.1)).setCell ⟨w.heap.size + 1, 1, none⟩ (.slice A5 tl.length c5) = wq at *
                have HQ1 := Lib.hid hq1; have HQ2 := Lib.hid hq2; have HQ3 := Lib.hid hq3
                clear u0 u1 uf0 uf1 ul s0 s1 f0 f1 hsl hq1 hq2 hq3 HKK xa xb xl
                obtain ⟨s0, s1, f0, f1, hsl⟩ := HQ1.out
                obtain ⟨d0, d1, d2, dl⟩ := HAC.out wq HQ3.out
                have CO := led_of HQ2.out (grew_refl _) k m r
                go_wp2_with (go_at_call 13; ((with_reducible refine CO.mono ?_); rintro e w8 ⟨rfl, hg⟩; have HG8 := Lib.hid hg; clear hg CO))
                go_roundw
                case rel => exact ⟨i + 1, x.1, tl, A5, c5, rfl, rfl, by go_num, by omega, by omega, HQ1.out.keep HG8.out, HQ2.out.keep HG8.out, HQ3.out.grew HG8.out⟩
                case measure => simp only [intOf]; omega
          · go_simp
            refine hK.out _ _ ?_ (fun hHeld => ?_)
            · first
              | exact HS.out _ (grew_alloc _ _ _)
              | exact HS.out _ (grew_drew (grew_alloc _ _ _))
              | exact HS.out _ (grew_trans HG5.out (grew_alloc _ _ _))
              | exact HS.out _ (grew_trans HG5.out (grew_drew (grew_alloc _ _ _)))
              | (trace_state; fail)
            clear hK K
            try simp only [Act.put, List.setIfInBounds_toArray, List.set_cons_zero, List.set_cons_succ]
            refine wpAnyH_ready (rs := [11]) (by kernel_rfl) (by simp) ?_
            refine (AllReadyH.cons (o := { dst := some 37, op := Op.call { callee := Callee.value (Operand.func 15), args := #[Operand.tmp 26, Operand.tmp 31, Operand.tmp 36], argTypes := #[24, 3, 25] }, type := 34, pos := "law.go:104", after := #[{ on := 0, ground := Ground.data }, { on := 5, ground := Ground.data }, { on := 10, ground := Ground.data }], guard := none }) rfl (fun K hK => ?_) AllReadyH.nil)
            go_simp
            (go_at_call 15; (first | (with_reducible refine (CPy _ (grew_drew (grew_refl _))).mono ?_) | (with_reducible refine (CPy _ (grew_drew (grew_alloc _ _ _))).mono ?_) | (with_reducible refine (CPy _ (grew_drew (grew_drew (grew_alloc _ _ _)))).mono ?_)); rintro e w5 ⟨A5, c5, rfl, hl5, hg5⟩)
            have HG5 : Hid (Grew wr w5) := (by first | exact grew_trans (grew_drew (grew_refl _)) hg5 | exact grew_trans (grew_drew (grew_alloc _ _ _)) hg5 | exact grew_trans (grew_drew (grew_drew (grew_alloc _ _ _))) hg5)
            (try have HT5 := Lib.hid (((Own2.new wr (.int .i64 0) (.slice none 0 0) 24 _ rfl).keep (grew_drew (grew_refl _))).keep hg5))
            (try have HT5 := Lib.hid (((Own2.new wr (.int .i64 0) (.slice none 0 0) 24 _ rfl).keep (grew_drew (grew_drew (grew_refl _)))).keep hg5))
            (try obtain ⟨t0, t1, t2, t3, t4⟩ := HT5.out)
            refine hK.out _ _ ?_ (fun hHeld => ?_)
            · first
              | exact HS.out _ HG5.out
            clear hK K
            try simp only [Act.put, List.setIfInBounds_toArray, List.set_cons_zero, List.set_cons_succ]
            (refine wpAnyH_take (i := 12) (oi := { dst := some 25, op := Op.move (Operand.tmp 37), type := 34, pos := "law.go:104", after := #[{ on := 11, ground := Ground.data }], guard := none }) (v := ?_) rfl (by kernel_rfl) (by kernel_rfl) (by kernel_rfl) (fun _ _ _ h => h) (Or.inl ⟨by rfl, ?_⟩) (by assumption) ?_; rotate_left; · (intro w hSw; (try dsimp only at hSw); go_simp; (first | done | with_reducible rfl)))
            try simp only [Act.put, List.setIfInBounds_toArray, List.set_cons_zero, List.set_cons_succ]
            (refine wpAnyH_take (i := 13) (oi := { dst := some 38, op := Op.extract (Operand.tmp 25) 0, type := 24, pos := "law.go:104", after := #[{ on := 12, ground := Ground.data }], guard := none }) (v := ?_) rfl (by kernel_rfl) (by kernel_rfl) (by kernel_rfl) (fun _ _ _ h => h) (Or.inl ⟨by rfl, ?_⟩) (by assumption) ?_; rotate_left; · (intro w hSw; (try dsimp only at hSw); go_simp; (first | done | with_reducible rfl)))
            try simp only [Act.put, List.setIfInBounds_toArray, List.set_cons_zero, List.set_cons_succ]
            (refine wpAnyH_take (i := 14) (oi := { dst := some 39, op := Op.extract (Operand.tmp 25) 1, type := 31, pos := "law.go:104", after := #[{ on := 12, ground := Ground.data }, { on := 16, ground := Ground.gcOnly Departure.lateStores }], guard := none }) (v := ?_) rfl (by kernel_rfl) (by kernel_rfl) (by kernel_rfl) (fun _ _ _ h => h) (Or.inl ⟨by rfl, ?_⟩) (by assumption) ?_; rotate_left; · (intro w hSw; (try dsimp only at hSw); go_simp; (first | done | with_reducible rfl)))
            try simp only [Act.put, List.setIfInBounds_toArray, List.set_cons_zero, List.set_cons_succ]
            refine wpAnyH_ready (rs := [16]) (by kernel_rfl) (by simp) ?_
            refine (AllReadyH.cons (o := { dst := none, op := Op.store 24 (Operand.tmp 9) (Operand.tmp 38), type := 0, pos := "law.go:104", after := #[{ on := 15, ground := Ground.data }, { on := 13, ground := Ground.data }, { on := 11, ground := Ground.chain }, { on := 0, ground := Ground.phase }, { on := 1, ground := Ground.phase }, { on := 2, ground := Ground.phase }, { on := 3, ground := Ground.phase }, { on := 4, ground := Ground.phase }, { on := 5, ground := Ground.phase }, { on := 6, ground := Ground.phase }, { on := 7, ground := Ground.phase }, { on := 8, ground := Ground.phase }, { on := 9, ground := Ground.phase }, { on := 10, ground := Ground.phase }, { on := 11, ground := Ground.phase }, { on := 12, ground := Ground.phase }, { on := 13, ground := Ground.phase }, { on := 14, ground := Ground.textOnly Departure.lateStores }, { on := 15, ground := Ground.phase }], guard := none }) rfl (fun K hK => ?_) AllReadyH.nil)
            go_simp
            refine hK.out _ _ ?_ (fun hHeld => ?_)
            · first
              | exact HS.out _ (grew_set (grew_set HG5.out _ (Nat.le_refl _)) _ (Nat.le_refl _))
              | exact HS.out _ (grew_drew (grew_set (grew_set HG5.out _ (Nat.le_refl _)) _ (Nat.le_refl _)))
              | exact HS.out _ (grew_set (grew_set (grew_trans HG5.out (grew_alloc _ _ _)) _ HG5.out.size) _ HG5.out.size)
              | exact HS.out _ (grew_drew (grew_set (grew_set (grew_trans HG5.out (grew_alloc _ _ _)) _ HG5.out.size) _ HG5.out.size))
              | exact HS.out _ (grew_set (grew_set (grew_trans HG5.out (grew_drew (grew_alloc _ _ _))) _ HG5.out.size) _ HG5.out.size)
              | exact HS.out _ (grew_trans HG5.out (grew_alloc _ _ _))
              | exact HS.out _ (grew_trans HG5.out (grew_drew (grew_alloc _ _ _)))
              | (trace_state; fail)
            clear hK K
            try simp only [Act.put, List.setIfInBounds_toArray, List.set_cons_zero, List.set_cons_succ]
            (refine wpAnyH_take (i := 17) (oi := { dst := some 10, op := Op.assign (Operand.tmp 39), type := 31, pos := "law.go:104", after := #[{ on := 14, ground := Ground.data }, { on := 16, ground := Ground.chain }, { on := 0, ground := Ground.phase }, { on := 1, ground := Ground.phase }, { on := 2, ground := Ground.phase }, { on := 3, ground := Ground.phase }, { on := 4, ground := Ground.phase }, { on := 5, ground := Ground.phase }, { on := 6, ground := Ground.phase }, { on := 7, ground := Ground.phase }, { on := 8, ground := Ground.phase }, { on := 9, ground := Ground.phase }, { on := 10, ground := Ground.phase }, { on := 11, ground := Ground.phase }, { on := 12, ground := Ground.phase }, { on := 13, ground := Ground.phase }, { on := 14, ground := Ground.phase }, { on := 15, ground := Ground.phase }, { on := 16, ground := Ground.phase }], guard := none }) (v := ?_) rfl (by kernel_rfl) (by kernel_rfl) (by kernel_rfl) (fun _ _ _ h => h) (Or.inl ⟨by rfl, ?_⟩) (by assumption) ?_; rotate_left; · (intro w hSw; (try dsimp only at hSw); go_simp; (first | done | with_reducible rfl)))
            try simp only [Act.put, List.setIfInBounds_toArray, List.set_cons_zero, List.set_cons_succ]
            refine wpAnyH_done (by kernel_rfl) ?_ _
            clear hHeld
            first
              | (have hX : Own2 ((w5.setCell ⟨wr.heap.size, 0, none⟩ (.int .i64 x.1)).setCell ⟨wr.heap.size, 1, none⟩ (.slice A5 (postL last bl x.1 x.2).length c5)) wr.heap.size (.int .i64 x.1) (.slice A5 (postL last bl x.1 x.2).length c5) ∧ Led ((w5.setCell ⟨wr.heap.size, 0, none⟩ (.int .i64 x.1)).setCell ⟨wr.heap.size, 1, none⟩ (.slice A5 (postL last bl x.1 x.2).length c5)) (w.heap.size + 2) x.1 (postL last bl x.1 x.2) A5 c5 ∧ Grew wr ((w5.setCell ⟨wr.heap.size, 0, none⟩ (.int .i64 x.1)).setCell ⟨wr.heap.size, 1, none⟩ (.slice A5 (postL last bl x.1 x.2).length c5)) ∧ wr.heap.size ≤ wr.heap.size := ⟨HT5.out.set _ _, ((hl5.set wr.heap.size 0 _ (by simp)).set wr.heap.size 1 _ (by simp)).mono (by have := HZ0.out; simp; omega), grew_set (grew_set HG5.out _ (Nat.le_refl _)) _ (Nat.le_refl _), Nat.le_refl _⟩; clear t0 t1 t2 t3 t4; generalize ((w5.setCell ⟨wr.heap.size, 0, none⟩ (.int .i64 x.1)).setCell ⟨wr.heap.size, 1, none⟩ (.slice A5 (postL last bl x.1 x.2).length c5)) = wF at *; (have hTF0 : ∃ TF, wr.heap.size = TF := ⟨_, rfl⟩); obtain ⟨TF, hTF⟩ := hTF0; simp only [hTF] at *)
              | (have hX : Own2 (w5.alloc (.cells #[.int .i64 x.1, .slice A5 (postL last bl x.1 x.2).length c5] 24)) w5.heap.size (.int .i64 x.1) (.slice A5 (postL last bl x.1 x.2).length c5) ∧ Led (w5.alloc (.cells #[.int .i64 x.1, .slice A5 (postL last bl x.1 x.2).length c5] 24)) (w.heap.size + 2) x.1 (postL last bl x.1 x.2) A5 c5 ∧ Grew wr (w5.alloc (.cells #[.int .i64 x.1, .slice A5 (postL last bl x.1 x.2).length c5] 24)) ∧ wr.heap.size ≤ w5.heap.size := ⟨Own2.new _ _ _ _ _ rfl, (hl5.keep (grew_alloc _ _ _)).mono (by have := HZ0.out; simp; omega), grew_trans HG5.out (grew_alloc _ _ _), HG5.out.size⟩; generalize (w5.alloc (.cells #[.int .i64 x.1, .slice A5 (postL last bl x.1 x.2).length c5] 24)) = wF at *; generalize hTF : w5.heap.size = TF at *)
            have HX := Lib.hid hX
            obtain ⟨⟨u0, u1, uf0, uf1, ul⟩, -, hgX, hTX⟩ := hX
            clear hl5
            obtain ⟨xa, xb, xl⟩ := HXC.out wF hgX
            have hPO := posted h0
            have hQO := postE_zero.1 h0
            have i5 : ¬ x.1 ≤ last := by have := hQO.2.2.2.1; omega
            have HSU := Lib.hid (hPO.2.2.2.2 (k, m, r))
            have HMO := Lib.hid (sumA_money (ledger_parts hPO.2.1).2.1 (k, m, r)).1
            have HMB := Lib.hid (sumA_money (ledger_parts hQO.1).2.1 (k, m, r)).1
            clear hPO hQO h0
            clear hgX
            generalize postL last bl x.1 x.2 = tl at *
            go_wp2
            go_loopw [6, 11] (fun v6 v11 wi => ∃ j : Nat, v6 = .int .i64 (IntKind.i64.wrap (sumA bl (k, m, r) + sumA (x.2.take j) (k, m, r))) ∧ v11 = .int .i64 j ∧ j ≤ n2 ∧ Hid (Grew wF wi)) (fun _ v11 _ => n2 - (intOf v11).toNat)
            case atStart => exact ⟨0, by rw [List.take_zero, sumA_nil, Int.add_zero, wrap_in _ HMB.out], rfl, by omega, grew_refl _⟩
            case round =>
              obtain ⟨j, rfl, rfl, hj, HGi⟩ := hrel
              have HGri := Lib.hid (grew_trans HX.out.2.2.1 HGi.out)
              clear xa xb xl u0 u1 uf0 uf1 ul
              obtain ⟨xa, xb, xl⟩ := HXC.out wr HGri.out
              by_cases hj2 : j < n2
              · obtain ⟨b3, o3, rfl, hb3, a1, a2, a3, a4⟩ := (HI.out.row.keep HGri.out).lg hj2
                have HSN := Lib.hid (sumA_snoc x.2 j (by rw [HI.out.row.len]; exact hj2) (k, m, r))
                have i6 : (j : Int) < (n2 : Int) := by omega
                have i7 : (0 : Int) ≤ (j : Int) := by omega
                have CK := fun w => keepAcct_any (x.2.getD j lg0).1.1 (x.2.getD j lg0).1.2.1 (x.2.getD j lg0).1.2.2 k m r w
                rw [sameA_iff (x.2.getD j lg0).1 (k, m, r)] at CK
                unfold acV at CK
                generalize x.2.getD j lg0 = y at *
                obtain ⟨d0, d1, d2, dl⟩ := HAC.out wr (HT.out.grew HGri.out)
                have y1 : ∀ p : GrewTo wr, p.to.cell? ⟨b3, o3 + j * 4, none⟩ = _ := fun p => (grew_cell p.h (p := ⟨b3, o3 + j * 4, none⟩) hb3).trans a1
                have y2 : ∀ p : GrewTo wr, p.to.cell? ⟨b3, o3 + j * 4 + 1, none⟩ = _ := fun p => (grew_cell p.h (p := ⟨b3, o3 + j * 4 + 1, none⟩) hb3).trans a2
                have y3 : ∀ p : GrewTo wr, p.to.cell? ⟨b3, o3 + j * 4 + 2, none⟩ = _ := fun p => (grew_cell p.h (p := ⟨b3, o3 + j * 4 + 2, none⟩) hb3).trans a3
                have HY4 : Hid (∀ w', Grew wr w' → w'.cell? ⟨b3, o3 + j * 4 + 3, none⟩ = some (.int .i64 y.2)) := fun w' g => (grew_cell g (p := ⟨b3, o3 + j * 4 + 3, none⟩) hb3).trans a4
                have x1 : ∀ p : GrewTo wr, p.to.cell? ⟨b, o + i * 2 + 1, none⟩ = _ := fun p => (grew_cell p.h (p := ⟨b, o + i * 2 + 1, none⟩) xl).trans xb
                have z1 : ∀ p : GrewTo wr, p.to.cell? ⟨w.heap.size, 0, none⟩ = _ := fun p => (grew_cell p.h (p := ⟨w.heap.size, 0, none⟩) dl).trans d0
                have z2 : ∀ p : GrewTo wr, p.to.cell? ⟨w.heap.size, 1, none⟩ = _ := fun p => (grew_cell p.h (p := ⟨w.heap.size, 1, none⟩) dl).trans d1
                have z3 : ∀ p : GrewTo wr, p.to.cell? ⟨w.heap.size, 2, none⟩ = _ := fun p => (grew_cell p.h (p := ⟨w.heap.size, 2, none⟩) dl).trans d2
                clear a1 a2 a3 a4 d0 d1 d2 dl hb3
                by_cases hy : y.1 = (k, m, r)
                · rw [decide_eq_true hy] at CK
                  have HS2 : Hid (sumA (x.2.take (j + 1)) (k, m, r) = sumA (x.2.take j) (k, m, r) + y.2) := by have := HSN.out; rw [if_pos hy] at this; exact this
                  clear hy HSN
                  generalize y.1.1 = k1 at *
                  generalize y.1.2.1 = k2 at *
                  generalize y.1.2.2 = k3 at *
                  generalize y.2 = k4 at *
                  generalize sumA (x.2.take j) (k, m, r) = T0 at *
                  go_wp2_with fail
                  refine wp_region_grew (by kernel_rfl) (by kernel_rfl) ?_
                  repeat (go_big_quiet_step (with_reducible exact calls_grew (CK _)))
                  refine wpQuiet_nil ?_
                  intro w6 hw'
                  have HG6 := Lib.hid (grew_of hw')
                  have y4 := HY4.out w6 HG6.out
                  clear hw' x1 y1 y2 y3 z1 z2 z3 xa xb xl
                  obtain ⟨xa, xb, xl⟩ := HXC.out w6 (grew_trans HGri.out HG6.out)
                  go_wp2
                  go_roundw
                  case rel => exact ⟨j + 1, by rw [HS2.out, ← Int.add_assoc]; exact congrArg (Value.int .i64) (wrap_add _ _), by go_num, by omega, grew_trans HGi.out HG6.out⟩
                  case measure => simp only [intOf]; omega
                · rw [decide_eq_false hy] at CK
                  have HS2 : Hid (sumA (x.2.take (j + 1)) (k, m, r) = sumA (x.2.take j) (k, m, r)) := by have := HSN.out; rw [if_neg hy] at this; rw [Int.add_zero] at this; exact this
                  clear hy HSN
                  generalize y.1.1 = k1 at *
                  generalize y.1.2.1 = k2 at *
                  generalize y.1.2.2 = k3 at *
                  generalize sumA (x.2.take j) (k, m, r) = T0 at *
                  go_wp2_with fail
                  refine wp_region_grew (by kernel_rfl) (by kernel_rfl) ?_
                  repeat (go_big_quiet_step (with_reducible exact calls_grew (CK _)))
                  refine wpQuiet_nil ?_
                  intro w6 hw'
                  have HG6 := Lib.hid (grew_of hw')
                  clear hw' x1 y1 y2 y3 z1 z2 z3 xa xb xl
                  go_wp2
                  go_roundw
                  case rel => exact ⟨j + 1, by rw [HS2.out], by go_num, by omega, grew_trans HGi.out HG6.out⟩
                  case measure => simp only [intOf]; omega
              · obtain rfl : j = n2 := by omega
                have hV : IntKind.i64.wrap (sumA bl (k, m, r) + sumA (x.2.take j) (k, m, r)) = sumA tl (k, m, r) := by
                  rw [List.take_of_length_le (by rw [HI.out.row.len]; exact Nat.le_refl _), ← HSU.out]; exact wrap_in _ HMO.out
                generalize IntKind.i64.wrap (sumA bl (k, m, r) + sumA (x.2.take j) (k, m, r)) = V at *
                subst hV
                obtain ⟨u0, u1, uf0, uf1, ul⟩ := HX.out.1.keep HGi.out
                obtain ⟨s0, s1, f0, f1, hsl⟩ := HM.out.keep HGri.out
                have HKK : Hid (∀ wq, wq = (wr.setCell ⟨w.heap.size + 1, 0, none⟩ (.int .i64 x.1)).setCell ⟨w.heap.size + 1, 1, none⟩ (.slice A5 tl.length c5) → Own2 wq (w.heap.size + 1) (.int .i64 x.1) (.slice A5 tl.length c5) ∧ Led wq (w.heap.size + 2) x.1 tl A5 c5 ∧ Turn (w.heap.size + 1) W0 wq) := by
                  rintro wq rfl
                  exact ⟨(HM.out.keep HGri.out).set _ _, ((HX.out.2.1.keep HGi.out).set _ _ _ (by omega)).set _ _ _ (by omega), ((HT.out.grew HGri.out).setCell _ _).setCell _ _⟩
                go_upto_region 22 with fail
                obtain ⟨hq1, hq2, hq3⟩ := HKK.out _ rfl
                generalize (wr.setCell ⟨w.heap.size + 1, 0, none⟩ (.int .i64 x.1)).setCell ⟨w.heap.size + 1, 1, none⟩ (.slice A5 tl.length c5) = wq at *
                have HQ1 := Lib.hid hq1; have HQ2 := Lib.hid hq2; have HQ3 := Lib.hid hq3
                clear u0 u1 uf0 uf1 ul s0 s1 f0 f1 hsl hq1 hq2 hq3 HKK xa xb xl
                obtain ⟨s0, s1, f0, f1, hsl⟩ := HQ1.out
                obtain ⟨d0, d1, d2, dl⟩ := HAC.out wq HQ3.out
                have CO := led_of HQ2.out (grew_refl _) k m r
                go_wp2_with (go_at_call 13; ((with_reducible refine CO.mono ?_); rintro e w8 ⟨rfl, hg⟩; have HG8 := Lib.hid hg; clear hg CO))
                go_roundw
                case rel => exact ⟨i + 1, x.1, tl, A5, c5, rfl, rfl, by go_num, by omega, by omega, HQ1.out.keep HG8.out, HQ2.out.keep HG8.out, HQ3.out.grew HG8.out⟩
                case measure => simp only [intOf]; omega
        · have CPy := fun w' g => (CP w' g).mono fun e w'' h => postR_no h0 h
          clear CP
          unfold ldV at CPy
          have hE : (postE last bl x.1 x.2 != 0) = true := by simpa using h0
          go_upto_region 9 with fail
          refine wp_region_held_drew (S := (fun w' => w'.cell? ⟨w.heap.size + 1, 0, none⟩ = some (.int .i64 last) ∧ w'.cell? ⟨w.heap.size + 1, 1, none⟩ = some (.slice A' bl.length c') ∧ w'.cell? ⟨b, o + i * 2, none⟩ = some (.int .i64 x.1) ∧ w'.cell? ⟨b, o + i * 2 + 1, none⟩ = some (.slice B2 n2 c2))) (by kernel_rfl) (HS.out _ (grew_drew (grew_refl _))) (fun hHeld => ?_)
          (refine wpAnyH_take (i := 0) (oi := { dst := some 26, op := Op.load 24 (Operand.tmp 5), type := 24, pos := "law.go:104", after := #[], guard := none }) (v := ?_) rfl (by kernel_rfl) (by kernel_rfl) (by kernel_rfl) (fun _ _ _ h => h) (Or.inl ⟨by rfl, ?_⟩) (by assumption) ?_; rotate_left; · (intro w hSw; (try dsimp only at hSw); go_simp; (first | done | with_reducible rfl)))
          try simp only [Act.put, List.setIfInBounds_toArray, List.set_cons_zero, List.set_cons_succ]
          (refine wpAnyH_take (i := 1) (oi := { dst := some 27, op := Op.move (Operand.tmp 0), type := 45, pos := "law.go:104", after := #[], guard := none }) (v := ?_) rfl (by kernel_rfl) (by kernel_rfl) (by kernel_rfl) (fun _ _ _ h => h) (Or.inl ⟨by rfl, ?_⟩) (by assumption) ?_; rotate_left; · (intro w hSw; (try dsimp only at hSw); go_simp; (first | done | with_reducible rfl)))
          try simp only [Act.put, List.setIfInBounds_toArray, List.set_cons_zero, List.set_cons_succ]
          (refine wpAnyH_take (i := 2) (oi := { dst := some 28, op := Op.move (Operand.tmp 8), type := 3, pos := "law.go:104", after := #[], guard := none }) (v := ?_) rfl (by kernel_rfl) (by kernel_rfl) (by kernel_rfl) (fun _ _ _ h => h) (Or.inl ⟨by rfl, ?_⟩) (by assumption) ?_; rotate_left; · (intro w hSw; (try dsimp only at hSw); go_simp; (first | done | with_reducible rfl)))
          try simp only [Act.put, List.setIfInBounds_toArray, List.set_cons_zero, List.set_cons_succ]
          (refine wpAnyH_take (i := 3) (oi := { dst := some 29, op := Op.indexAddr 45 (Operand.tmp 27) (Operand.tmp 28), type := 0, pos := "law.go:104", after := #[{ on := 1, ground := Ground.data }, { on := 2, ground := Ground.data }], guard := none }) (v := ?_) rfl (by kernel_rfl) (by kernel_rfl) (by kernel_rfl) (fun _ _ _ h => h) (Or.inl ⟨by rfl, ?_⟩) (by assumption) ?_; rotate_left; · (intro w hSw; (try dsimp only at hSw); go_simp; (first | done | with_reducible rfl)))
          try simp only [Act.put, List.setIfInBounds_toArray, List.set_cons_zero, List.set_cons_succ]
          (refine wpAnyH_take (i := 4) (oi := { dst := some 30, op := Op.fieldAddr 50 (Operand.tmp 29) 0, type := 0, pos := "law.go:104", after := #[{ on := 3, ground := Ground.data }], guard := none }) (v := ?_) rfl (by kernel_rfl) (by kernel_rfl) (by kernel_rfl) (fun _ _ _ h => h) (Or.inl ⟨by rfl, ?_⟩) (by assumption) ?_; rotate_left; · (intro w hSw; (try dsimp only at hSw); go_simp; (first | done | with_reducible rfl)))
          try simp only [Act.put, List.setIfInBounds_toArray, List.set_cons_zero, List.set_cons_succ]
          (refine wpAnyH_take (i := 5) (oi := { dst := some 31, op := Op.load 3 (Operand.tmp 30), type := 3, pos := "law.go:104", after := #[{ on := 4, ground := Ground.data }], guard := none }) (v := ?_) rfl (by kernel_rfl) (by kernel_rfl) (by kernel_rfl) (fun _ _ _ h => h) (Or.inl ⟨by rfl, ?_⟩) (by assumption) ?_; rotate_left; · (intro w hSw; (try dsimp only at hSw); go_simp; (first | done | with_reducible rfl)))
          try simp only [Act.put, List.setIfInBounds_toArray, List.set_cons_zero, List.set_cons_succ]
          (refine wpAnyH_take (i := 6) (oi := { dst := some 32, op := Op.move (Operand.tmp 0), type := 45, pos := "law.go:104", after := #[], guard := none }) (v := ?_) rfl (by kernel_rfl) (by kernel_rfl) (by kernel_rfl) (fun _ _ _ h => h) (Or.inl ⟨by rfl, ?_⟩) (by assumption) ?_; rotate_left; · (intro w hSw; (try dsimp only at hSw); go_simp; (first | done | with_reducible rfl)))
          try simp only [Act.put, List.setIfInBounds_toArray, List.set_cons_zero, List.set_cons_succ]
          (refine wpAnyH_take (i := 7) (oi := { dst := some 33, op := Op.move (Operand.tmp 8), type := 3, pos := "law.go:104", after := #[], guard := none }) (v := ?_) rfl (by kernel_rfl) (by kernel_rfl) (by kernel_rfl) (fun _ _ _ h => h) (Or.inl ⟨by rfl, ?_⟩) (by assumption) ?_; rotate_left; · (intro w hSw; (try dsimp only at hSw); go_simp; (first | done | with_reducible rfl)))
          try simp only [Act.put, List.setIfInBounds_toArray, List.set_cons_zero, List.set_cons_succ]
          (refine wpAnyH_take (i := 8) (oi := { dst := some 34, op := Op.indexAddr 45 (Operand.tmp 32) (Operand.tmp 33), type := 0, pos := "law.go:104", after := #[{ on := 6, ground := Ground.data }, { on := 7, ground := Ground.data }], guard := none }) (v := ?_) rfl (by kernel_rfl) (by kernel_rfl) (by kernel_rfl) (fun _ _ _ h => h) (Or.inl ⟨by rfl, ?_⟩) (by assumption) ?_; rotate_left; · (intro w hSw; (try dsimp only at hSw); go_simp; (first | done | with_reducible rfl)))
          try simp only [Act.put, List.setIfInBounds_toArray, List.set_cons_zero, List.set_cons_succ]
          (refine wpAnyH_take (i := 9) (oi := { dst := some 35, op := Op.fieldAddr 50 (Operand.tmp 34) 1, type := 0, pos := "law.go:104", after := #[{ on := 8, ground := Ground.data }], guard := none }) (v := ?_) rfl (by kernel_rfl) (by kernel_rfl) (by kernel_rfl) (fun _ _ _ h => h) (Or.inl ⟨by rfl, ?_⟩) (by assumption) ?_; rotate_left; · (intro w hSw; (try dsimp only at hSw); go_simp; (first | done | with_reducible rfl)))
          try simp only [Act.put, List.setIfInBounds_toArray, List.set_cons_zero, List.set_cons_succ]
          (refine wpAnyH_take (i := 10) (oi := { dst := some 36, op := Op.load 25 (Operand.tmp 35), type := 25, pos := "law.go:104", after := #[{ on := 9, ground := Ground.data }], guard := none }) (v := ?_) rfl (by kernel_rfl) (by kernel_rfl) (by kernel_rfl) (fun _ _ _ h => h) (Or.inl ⟨by rfl, ?_⟩) (by assumption) ?_; rotate_left; · (intro w hSw; (try dsimp only at hSw); go_simp; (first | done | with_reducible rfl)))
          try simp only [Act.put, List.setIfInBounds_toArray, List.set_cons_zero, List.set_cons_succ]
          refine wpAnyH_ready (rs := [11, 15]) (by kernel_rfl) (by simp) ?_
          refine (AllReadyH.cons (o := { dst := some 37, op := Op.call { callee := Callee.value (Operand.func 15), args := #[Operand.tmp 26, Operand.tmp 31, Operand.tmp 36], argTypes := #[24, 3, 25] }, type := 34, pos := "law.go:104", after := #[{ on := 0, ground := Ground.data }, { on := 5, ground := Ground.data }, { on := 10, ground := Ground.data }], guard := none }) rfl (fun K hK => ?_) (AllReadyH.cons (o := { dst := some 9, op := Op.alloc 24, type := 0, pos := "law.go:104", after := #[], guard := none }) rfl (fun K hK => ?_) AllReadyH.nil))
          · go_simp
            (go_at_call 15; (first | (with_reducible refine (CPy _ (grew_drew (grew_refl _))).mono ?_) | (with_reducible refine (CPy _ (grew_drew (grew_alloc _ _ _))).mono ?_) | (with_reducible refine (CPy _ (grew_drew (grew_drew (grew_alloc _ _ _)))).mono ?_)); rintro e w5 ⟨A5, c5, rfl, hn5, hg5⟩)
            have HG5 : Hid (Grew wr w5) := (by first | exact grew_trans (grew_drew (grew_refl _)) hg5 | exact grew_trans (grew_drew (grew_alloc _ _ _)) hg5 | exact grew_trans (grew_drew (grew_drew (grew_alloc _ _ _))) hg5)
            (try have HT5 := Lib.hid (((Own2.new wr (.int .i64 0) (.slice none 0 0) 24 _ rfl).keep (grew_drew (grew_refl _))).keep hg5))
            (try have HT5 := Lib.hid (((Own2.new wr (.int .i64 0) (.slice none 0 0) 24 _ rfl).keep (grew_drew (grew_drew (grew_refl _)))).keep hg5))
            (try obtain ⟨t0, t1, t2, t3, t4⟩ := HT5.out)
            refine hK.out _ _ ?_ (fun hHeld => ?_)
            · first
              | exact HS.out _ HG5.out
            clear hK K
            try simp only [Act.put, List.setIfInBounds_toArray, List.set_cons_zero, List.set_cons_succ]
            (refine wpAnyH_take (i := 12) (oi := { dst := some 25, op := Op.move (Operand.tmp 37), type := 34, pos := "law.go:104", after := #[{ on := 11, ground := Ground.data }], guard := none }) (v := ?_) rfl (by kernel_rfl) (by kernel_rfl) (by kernel_rfl) (fun _ _ _ h => h) (Or.inl ⟨by rfl, ?_⟩) (by assumption) ?_; rotate_left; · (intro w hSw; (try dsimp only at hSw); go_simp; (first | done | with_reducible rfl)))
            try simp only [Act.put, List.setIfInBounds_toArray, List.set_cons_zero, List.set_cons_succ]
            (refine wpAnyH_take (i := 13) (oi := { dst := some 38, op := Op.extract (Operand.tmp 25) 0, type := 24, pos := "law.go:104", after := #[{ on := 12, ground := Ground.data }], guard := none }) (v := ?_) rfl (by kernel_rfl) (by kernel_rfl) (by kernel_rfl) (fun _ _ _ h => h) (Or.inl ⟨by rfl, ?_⟩) (by assumption) ?_; rotate_left; · (intro w hSw; (try dsimp only at hSw); go_simp; (first | done | with_reducible rfl)))
            try simp only [Act.put, List.setIfInBounds_toArray, List.set_cons_zero, List.set_cons_succ]
            (refine wpAnyH_take (i := 14) (oi := { dst := some 39, op := Op.extract (Operand.tmp 25) 1, type := 31, pos := "law.go:104", after := #[{ on := 12, ground := Ground.data }, { on := 16, ground := Ground.gcOnly Departure.lateStores }], guard := none }) (v := ?_) rfl (by kernel_rfl) (by kernel_rfl) (by kernel_rfl) (fun _ _ _ h => h) (Or.inl ⟨by rfl, ?_⟩) (by assumption) ?_; rotate_left; · (intro w hSw; (try dsimp only at hSw); go_simp; (first | done | with_reducible rfl)))
            try simp only [Act.put, List.setIfInBounds_toArray, List.set_cons_zero, List.set_cons_succ]
            refine wpAnyH_ready (rs := [15]) (by kernel_rfl) (by simp) ?_
            refine (AllReadyH.cons (o := { dst := some 9, op := Op.alloc 24, type := 0, pos := "law.go:104", after := #[], guard := none }) rfl (fun K hK => ?_) AllReadyH.nil)
            go_simp
            refine hK.out _ _ ?_ (fun hHeld => ?_)
            · first
              | exact HS.out _ (grew_alloc _ _ _)
              | exact HS.out _ (grew_drew (grew_alloc _ _ _))
              | exact HS.out _ (grew_trans HG5.out (grew_alloc _ _ _))
              | exact HS.out _ (grew_trans HG5.out (grew_drew (grew_alloc _ _ _)))
              | (trace_state; fail)
            clear hK K
            try simp only [Act.put, List.setIfInBounds_toArray, List.set_cons_zero, List.set_cons_succ]
            refine wpAnyH_ready (rs := [16]) (by kernel_rfl) (by simp) ?_
            refine (AllReadyH.cons (o := { dst := none, op := Op.store 24 (Operand.tmp 9) (Operand.tmp 38), type := 0, pos := "law.go:104", after := #[{ on := 15, ground := Ground.data }, { on := 13, ground := Ground.data }, { on := 11, ground := Ground.chain }, { on := 0, ground := Ground.phase }, { on := 1, ground := Ground.phase }, { on := 2, ground := Ground.phase }, { on := 3, ground := Ground.phase }, { on := 4, ground := Ground.phase }, { on := 5, ground := Ground.phase }, { on := 6, ground := Ground.phase }, { on := 7, ground := Ground.phase }, { on := 8, ground := Ground.phase }, { on := 9, ground := Ground.phase }, { on := 10, ground := Ground.phase }, { on := 11, ground := Ground.phase }, { on := 12, ground := Ground.phase }, { on := 13, ground := Ground.phase }, { on := 14, ground := Ground.textOnly Departure.lateStores }, { on := 15, ground := Ground.phase }], guard := none }) rfl (fun K hK => ?_) AllReadyH.nil)
            go_simp
            refine hK.out _ _ ?_ (fun hHeld => ?_)
            · first
              | exact HS.out _ (grew_set (grew_set HG5.out _ (Nat.le_refl _)) _ (Nat.le_refl _))
              | exact HS.out _ (grew_drew (grew_set (grew_set HG5.out _ (Nat.le_refl _)) _ (Nat.le_refl _)))
              | exact HS.out _ (grew_set (grew_set (grew_trans HG5.out (grew_alloc _ _ _)) _ HG5.out.size) _ HG5.out.size)
              | exact HS.out _ (grew_drew (grew_set (grew_set (grew_trans HG5.out (grew_alloc _ _ _)) _ HG5.out.size) _ HG5.out.size))
              | exact HS.out _ (grew_set (grew_set (grew_trans HG5.out (grew_drew (grew_alloc _ _ _))) _ HG5.out.size) _ HG5.out.size)
              | exact HS.out _ (grew_trans HG5.out (grew_alloc _ _ _))
              | exact HS.out _ (grew_trans HG5.out (grew_drew (grew_alloc _ _ _)))
              | (trace_state; fail)
            clear hK K
            try simp only [Act.put, List.setIfInBounds_toArray, List.set_cons_zero, List.set_cons_succ]
            (refine wpAnyH_take (i := 17) (oi := { dst := some 10, op := Op.assign (Operand.tmp 39), type := 31, pos := "law.go:104", after := #[{ on := 14, ground := Ground.data }, { on := 16, ground := Ground.chain }, { on := 0, ground := Ground.phase }, { on := 1, ground := Ground.phase }, { on := 2, ground := Ground.phase }, { on := 3, ground := Ground.phase }, { on := 4, ground := Ground.phase }, { on := 5, ground := Ground.phase }, { on := 6, ground := Ground.phase }, { on := 7, ground := Ground.phase }, { on := 8, ground := Ground.phase }, { on := 9, ground := Ground.phase }, { on := 10, ground := Ground.phase }, { on := 11, ground := Ground.phase }, { on := 12, ground := Ground.phase }, { on := 13, ground := Ground.phase }, { on := 14, ground := Ground.phase }, { on := 15, ground := Ground.phase }, { on := 16, ground := Ground.phase }], guard := none }) (v := ?_) rfl (by kernel_rfl) (by kernel_rfl) (by kernel_rfl) (fun _ _ _ h => h) (Or.inl ⟨by rfl, ?_⟩) (by assumption) ?_; rotate_left; · (intro w hSw; (try dsimp only at hSw); go_simp; (first | done | with_reducible rfl)))
            try simp only [Act.put, List.setIfInBounds_toArray, List.set_cons_zero, List.set_cons_succ]
            refine wpAnyH_done (by kernel_rfl) ?_ _
            clear hHeld
            first
              | (have hX : Own2 ((w5.setCell ⟨wr.heap.size, 0, none⟩ (.int .i64 0)).setCell ⟨wr.heap.size, 1, none⟩ (.slice A5 0 c5)) wr.heap.size (.int .i64 0) (.slice A5 0 c5) ∧ True ∧ Grew wr ((w5.setCell ⟨wr.heap.size, 0, none⟩ (.int .i64 0)).setCell ⟨wr.heap.size, 1, none⟩ (.slice A5 0 c5)) ∧ wr.heap.size ≤ wr.heap.size := ⟨HT5.out.set _ _, trivial, grew_set (grew_set HG5.out _ (Nat.le_refl _)) _ (Nat.le_refl _), Nat.le_refl _⟩; clear t0 t1 t2 t3 t4; generalize ((w5.setCell ⟨wr.heap.size, 0, none⟩ (.int .i64 0)).setCell ⟨wr.heap.size, 1, none⟩ (.slice A5 0 c5)) = wF at *; (have hTF0 : ∃ TF, wr.heap.size = TF := ⟨_, rfl⟩); obtain ⟨TF, hTF⟩ := hTF0; simp only [hTF] at *)
              | (have hX : Own2 (w5.alloc (.cells #[.int .i64 0, .slice A5 0 c5] 24)) w5.heap.size (.int .i64 0) (.slice A5 0 c5) ∧ True ∧ Grew wr (w5.alloc (.cells #[.int .i64 0, .slice A5 0 c5] 24)) ∧ wr.heap.size ≤ w5.heap.size := ⟨Own2.new _ _ _ _ _ rfl, trivial, grew_trans HG5.out (grew_alloc _ _ _), HG5.out.size⟩; generalize (w5.alloc (.cells #[.int .i64 0, .slice A5 0 c5] 24)) = wF at *; generalize hTF : w5.heap.size = TF at *)
            have HX := Lib.hid hX
            obtain ⟨⟨u0, u1, uf0, uf1, ul⟩, -, hgX, hTX⟩ := hX
            clear hgX hTX
            go_wp2
            go_roundw
            case rel => exact ⟨i + 1, last, bl, A', c', rfl, rfl, by go_num, by omega, by omega, HM.out.keep HX.out.2.2.1, HL.out.keep HX.out.2.2.1, HT.out.grew HX.out.2.2.1⟩
            case measure => simp only [intOf]; omega
          · go_simp
            refine hK.out _ _ ?_ (fun hHeld => ?_)
            · first
              | exact HS.out _ (grew_alloc _ _ _)
              | exact HS.out _ (grew_drew (grew_alloc _ _ _))
              | exact HS.out _ (grew_trans HG5.out (grew_alloc _ _ _))
              | exact HS.out _ (grew_trans HG5.out (grew_drew (grew_alloc _ _ _)))
              | (trace_state; fail)
            clear hK K
            try simp only [Act.put, List.setIfInBounds_toArray, List.set_cons_zero, List.set_cons_succ]
            refine wpAnyH_ready (rs := [11]) (by kernel_rfl) (by simp) ?_
            refine (AllReadyH.cons (o := { dst := some 37, op := Op.call { callee := Callee.value (Operand.func 15), args := #[Operand.tmp 26, Operand.tmp 31, Operand.tmp 36], argTypes := #[24, 3, 25] }, type := 34, pos := "law.go:104", after := #[{ on := 0, ground := Ground.data }, { on := 5, ground := Ground.data }, { on := 10, ground := Ground.data }], guard := none }) rfl (fun K hK => ?_) AllReadyH.nil)
            go_simp
            (go_at_call 15; (first | (with_reducible refine (CPy _ (grew_drew (grew_refl _))).mono ?_) | (with_reducible refine (CPy _ (grew_drew (grew_alloc _ _ _))).mono ?_) | (with_reducible refine (CPy _ (grew_drew (grew_drew (grew_alloc _ _ _)))).mono ?_)); rintro e w5 ⟨A5, c5, rfl, hn5, hg5⟩)
            have HG5 : Hid (Grew wr w5) := (by first | exact grew_trans (grew_drew (grew_refl _)) hg5 | exact grew_trans (grew_drew (grew_alloc _ _ _)) hg5 | exact grew_trans (grew_drew (grew_drew (grew_alloc _ _ _))) hg5)
            (try have HT5 := Lib.hid (((Own2.new wr (.int .i64 0) (.slice none 0 0) 24 _ rfl).keep (grew_drew (grew_refl _))).keep hg5))
            (try have HT5 := Lib.hid (((Own2.new wr (.int .i64 0) (.slice none 0 0) 24 _ rfl).keep (grew_drew (grew_drew (grew_refl _)))).keep hg5))
            (try obtain ⟨t0, t1, t2, t3, t4⟩ := HT5.out)
            refine hK.out _ _ ?_ (fun hHeld => ?_)
            · first
              | exact HS.out _ HG5.out
            clear hK K
            try simp only [Act.put, List.setIfInBounds_toArray, List.set_cons_zero, List.set_cons_succ]
            (refine wpAnyH_take (i := 12) (oi := { dst := some 25, op := Op.move (Operand.tmp 37), type := 34, pos := "law.go:104", after := #[{ on := 11, ground := Ground.data }], guard := none }) (v := ?_) rfl (by kernel_rfl) (by kernel_rfl) (by kernel_rfl) (fun _ _ _ h => h) (Or.inl ⟨by rfl, ?_⟩) (by assumption) ?_; rotate_left; · (intro w hSw; (try dsimp only at hSw); go_simp; (first | done | with_reducible rfl)))
            try simp only [Act.put, List.setIfInBounds_toArray, List.set_cons_zero, List.set_cons_succ]
            (refine wpAnyH_take (i := 13) (oi := { dst := some 38, op := Op.extract (Operand.tmp 25) 0, type := 24, pos := "law.go:104", after := #[{ on := 12, ground := Ground.data }], guard := none }) (v := ?_) rfl (by kernel_rfl) (by kernel_rfl) (by kernel_rfl) (fun _ _ _ h => h) (Or.inl ⟨by rfl, ?_⟩) (by assumption) ?_; rotate_left; · (intro w hSw; (try dsimp only at hSw); go_simp; (first | done | with_reducible rfl)))
            try simp only [Act.put, List.setIfInBounds_toArray, List.set_cons_zero, List.set_cons_succ]
            (refine wpAnyH_take (i := 14) (oi := { dst := some 39, op := Op.extract (Operand.tmp 25) 1, type := 31, pos := "law.go:104", after := #[{ on := 12, ground := Ground.data }, { on := 16, ground := Ground.gcOnly Departure.lateStores }], guard := none }) (v := ?_) rfl (by kernel_rfl) (by kernel_rfl) (by kernel_rfl) (fun _ _ _ h => h) (Or.inl ⟨by rfl, ?_⟩) (by assumption) ?_; rotate_left; · (intro w hSw; (try dsimp only at hSw); go_simp; (first | done | with_reducible rfl)))
            try simp only [Act.put, List.setIfInBounds_toArray, List.set_cons_zero, List.set_cons_succ]
            refine wpAnyH_ready (rs := [16]) (by kernel_rfl) (by simp) ?_
            refine (AllReadyH.cons (o := { dst := none, op := Op.store 24 (Operand.tmp 9) (Operand.tmp 38), type := 0, pos := "law.go:104", after := #[{ on := 15, ground := Ground.data }, { on := 13, ground := Ground.data }, { on := 11, ground := Ground.chain }, { on := 0, ground := Ground.phase }, { on := 1, ground := Ground.phase }, { on := 2, ground := Ground.phase }, { on := 3, ground := Ground.phase }, { on := 4, ground := Ground.phase }, { on := 5, ground := Ground.phase }, { on := 6, ground := Ground.phase }, { on := 7, ground := Ground.phase }, { on := 8, ground := Ground.phase }, { on := 9, ground := Ground.phase }, { on := 10, ground := Ground.phase }, { on := 11, ground := Ground.phase }, { on := 12, ground := Ground.phase }, { on := 13, ground := Ground.phase }, { on := 14, ground := Ground.textOnly Departure.lateStores }, { on := 15, ground := Ground.phase }], guard := none }) rfl (fun K hK => ?_) AllReadyH.nil)
            go_simp
            refine hK.out _ _ ?_ (fun hHeld => ?_)
            · first
              | exact HS.out _ (grew_set (grew_set HG5.out _ (Nat.le_refl _)) _ (Nat.le_refl _))
              | exact HS.out _ (grew_drew (grew_set (grew_set HG5.out _ (Nat.le_refl _)) _ (Nat.le_refl _)))
              | exact HS.out _ (grew_set (grew_set (grew_trans HG5.out (grew_alloc _ _ _)) _ HG5.out.size) _ HG5.out.size)
              | exact HS.out _ (grew_drew (grew_set (grew_set (grew_trans HG5.out (grew_alloc _ _ _)) _ HG5.out.size) _ HG5.out.size))
              | exact HS.out _ (grew_set (grew_set (grew_trans HG5.out (grew_drew (grew_alloc _ _ _))) _ HG5.out.size) _ HG5.out.size)
              | exact HS.out _ (grew_trans HG5.out (grew_alloc _ _ _))
              | exact HS.out _ (grew_trans HG5.out (grew_drew (grew_alloc _ _ _)))
              | (trace_state; fail)
            clear hK K
            try simp only [Act.put, List.setIfInBounds_toArray, List.set_cons_zero, List.set_cons_succ]
            (refine wpAnyH_take (i := 17) (oi := { dst := some 10, op := Op.assign (Operand.tmp 39), type := 31, pos := "law.go:104", after := #[{ on := 14, ground := Ground.data }, { on := 16, ground := Ground.chain }, { on := 0, ground := Ground.phase }, { on := 1, ground := Ground.phase }, { on := 2, ground := Ground.phase }, { on := 3, ground := Ground.phase }, { on := 4, ground := Ground.phase }, { on := 5, ground := Ground.phase }, { on := 6, ground := Ground.phase }, { on := 7, ground := Ground.phase }, { on := 8, ground := Ground.phase }, { on := 9, ground := Ground.phase }, { on := 10, ground := Ground.phase }, { on := 11, ground := Ground.phase }, { on := 12, ground := Ground.phase }, { on := 13, ground := Ground.phase }, { on := 14, ground := Ground.phase }, { on := 15, ground := Ground.phase }, { on := 16, ground := Ground.phase }], guard := none }) (v := ?_) rfl (by kernel_rfl) (by kernel_rfl) (by kernel_rfl) (fun _ _ _ h => h) (Or.inl ⟨by rfl, ?_⟩) (by assumption) ?_; rotate_left; · (intro w hSw; (try dsimp only at hSw); go_simp; (first | done | with_reducible rfl)))
            try simp only [Act.put, List.setIfInBounds_toArray, List.set_cons_zero, List.set_cons_succ]
            refine wpAnyH_done (by kernel_rfl) ?_ _
            clear hHeld
            first
              | (have hX : Own2 ((w5.setCell ⟨wr.heap.size, 0, none⟩ (.int .i64 0)).setCell ⟨wr.heap.size, 1, none⟩ (.slice A5 0 c5)) wr.heap.size (.int .i64 0) (.slice A5 0 c5) ∧ True ∧ Grew wr ((w5.setCell ⟨wr.heap.size, 0, none⟩ (.int .i64 0)).setCell ⟨wr.heap.size, 1, none⟩ (.slice A5 0 c5)) ∧ wr.heap.size ≤ wr.heap.size := ⟨HT5.out.set _ _, trivial, grew_set (grew_set HG5.out _ (Nat.le_refl _)) _ (Nat.le_refl _), Nat.le_refl _⟩; clear t0 t1 t2 t3 t4; generalize ((w5.setCell ⟨wr.heap.size, 0, none⟩ (.int .i64 0)).setCell ⟨wr.heap.size, 1, none⟩ (.slice A5 0 c5)) = wF at *; (have hTF0 : ∃ TF, wr.heap.size = TF := ⟨_, rfl⟩); obtain ⟨TF, hTF⟩ := hTF0; simp only [hTF] at *)
              | (have hX : Own2 (w5.alloc (.cells #[.int .i64 0, .slice A5 0 c5] 24)) w5.heap.size (.int .i64 0) (.slice A5 0 c5) ∧ True ∧ Grew wr (w5.alloc (.cells #[.int .i64 0, .slice A5 0 c5] 24)) ∧ wr.heap.size ≤ w5.heap.size := ⟨Own2.new _ _ _ _ _ rfl, trivial, grew_trans HG5.out (grew_alloc _ _ _), HG5.out.size⟩; generalize (w5.alloc (.cells #[.int .i64 0, .slice A5 0 c5] 24)) = wF at *; generalize hTF : w5.heap.size = TF at *)
            have HX := Lib.hid hX
            obtain ⟨⟨u0, u1, uf0, uf1, ul⟩, -, hgX, hTX⟩ := hX
            clear hgX hTX
            go_wp2
            go_roundw
            case rel => exact ⟨i + 1, last, bl, A', c', rfl, rfl, by go_num, by omega, by omega, HM.out.keep HX.out.2.2.1, HL.out.keep HX.out.2.2.1, HT.out.grew HX.out.2.2.1⟩
            case measure => simp only [intOf]; omega
      · have hr := HM.out
        by_cases h1 : i < n
        · have i1 : (i : Int) < (n : Int) := by omega
          have i2 : ¬ (i : Int) < 40 := by omega
          go_wp2_with (go_at_call 21; ((with_reducible refine (WK _).mono ?_); rintro e w9 ⟨rfl, hg⟩; have HG9 := Lib.hid (grew_trans HG.out hg); clear hg))
          go_ret
          exact ⟨rfl, HG9.out⟩
        · have i1 : ¬ (i : Int) < (n : Int) := by omega
          go_wp2_with (go_at_call 21; ((with_reducible refine (WK _).mono ?_); rintro e w9 ⟨rfl, hg⟩; have HG9 := Lib.hid (grew_trans HG.out hg); clear hg))
          go_ret
          exact ⟨rfl, HG9.out⟩
  · have CH := fun w' (g : Grew w w') => heavy_not (c := c) (h.keep g) hf
    clear h hf
    go_enter Try.func5, Try.ntmps5
    go_wp2_with (go_at_call 22; ((with_reducible refine (CH _ (grew_alloc _ _ _)).mono ?_); rintro e w1 ⟨rfl, rfl⟩; clear CH))
    go_ret
    exact ⟨rfl, grew_alloc _ _ _⟩
theorem ledgerOnce_row (A : Option Addr) (n c : Nat) (l : List Ld) (k m r : Int) (w : World) (h : Posts w A n l) :
    Calls Try.prog 5 #[.slice A n c, acV k m r] w fun e w' => e = .returned (.bool true) ∧ Grew w w' := ledgerOnce_walk A n c l k m r w h
end Go.Proofs.Ytafglljfgoeapaa.NumK
namespace Go.Proofs.Ytafglljfgoeapaa.ledgerOnce
open Go.ChangeShapes Go.WideShapes Go.ChangeAt Go.RowKit
set_option linter.unusedVariables false

theorem own : ownKnob Try.prog.godebug = none := by kernel_rfl
theorem laidOut : laidOutB Try.prog = true := by kernel_rfl

set_option maxRecDepth 100000 in
theorem lifted (os : Os) (started : os.Started) (H : Type) (enc : TypeId × Value → H) :
    ReturnsInHanded {} Try.checked os 5 .any (Rows.ledgerOnceSpec.pre6 enc Try.prog Try.f5 Rows.ledgerOnceRow.domain false) (Rows.ledgerOnceSpec.post enc Try.prog Try.f5 false true false false) := by
  refine returnsInHanded_of_change (C := Try.checked) own started (by kernel_rfl) Try.func5
    (ChangeSpec.witness6 (enc := enc) (C := Try.checked) false ⟨#[], #[.slice none 0 0, .agg #[.int .i64 0, .int .i64 0, .int .i64 0]], []⟩ 8 (by kernel_rfl) (by kernel_rfl) (by kernel_rfl) (by kernel_rfl)) ?_
  intro W base args ds gs before hval0 hW hcnd _
  have hval : ∀ (j : Nat) t v, Try.f5.params[j]? = some t → args[j]? = some v → Value.okWide Try.prog W .any base t v := hval0
  have hW' := hW
  obtain ⟨p, q, hA0, hV, rfl, hfz, hnd⟩ := hW
  have hA : DataW.TrodAll enc Try.prog W 0 (fun _ => true) true Try.f5.params.toList args.toList ds p := hA0
  skip
  rw [Try.params5] at hA hval
  obtain ⟨v0, vs0, d0, ds0, p0, q0, hargs, rfl, rfl, h0, r0⟩ := trodAll_cons hA
  obtain ⟨v1, vs1, d1, ds1, p1, q1, rfl, rfl, rfl, h1, r1⟩ := trodAll_cons r0
  obtain ⟨rfl, rfl, rfl⟩ := trodAll_nil r1
  obtain rfl : args = #[v0, v1] := by cases args; simp_all
  obtain ⟨rfl, rfl⟩ := trodVars_none hV
  have k0 := h0
  have lt0 : ∀ x ∈ p0, x.block < W.heap.size := by obtain ⟨m, hm⟩ := k0; exact DataW.trod_lt m _ _ _ hm
  obtain ⟨A0, len0, cap0, l0, rfl, ro0, n0, c0, m0⟩ := NumK.arg_slice Try.underlying45 NumK.opens_posts (hval 0 45 v0 rfl rfl) h0
  have k1 := h1
  have lt1 : ∀ x ∈ p1, x.block < W.heap.size := by obtain ⟨m, hm⟩ := k1; exact DataW.trod_lt m _ _ _ hm
  obtain ⟨cs1, x1, rfl, e1⟩ := NumK.arg_struct Try.underlying27 NumK.opens_acct (hval 1 27 v1 rfl rfl) h1
  clear hA0 hval0
  refine ((NumK.acct_of e1) ▸ NumK.ledgerOnce_row A0 len0 cap0 l0 x1.1 x1.2.1 x1.2.2 W (NumK.posts_of_row ro0)).mono fun e W' ⟨he, bel⟩ => ?_
  subst he
  exact ⟨_, rfl, _, _, _, [], _, [], hW', trodAll_mk1 (shut_bool Try.underlying4 _), (trodAll_cons_mk (Below.trod laidOut (by kernel_rfl) (of_decide_eq_true (by kernel_rfl)) k0 bel lt0) (trodAll_cons_mk (Below.trod laidOut (by kernel_rfl) (of_decide_eq_true (by kernel_rfl)) k1 bel lt1) trodAll_mk0)), rfl, bel.frame _, fun h => by cases h⟩

theorem over : Rows.ledgerOnceRow.holds Try.pinned (OpenSpec.ofChange Rows.ledgerOnceSpec) :=
  OpenClaim.holds_of_wide 5 Try.f5 rfl rfl rfl rfl rfl rfl rfl ⟨rfl, rfl, rfl, rfl, rfl⟩ rfl rfl rfl rfl rfl (by kernel_rfl) Try.func5 (by kernel_rfl)
    (of_decide_eq_true (by kernel_rfl)) (by unfold Func.isWrapper; first | (rw [if_pos (by decide +kernel)]; kernel_rfl) | (rw [if_neg (by decide +kernel)]; exact ⟨rfl, rfl⟩))
    (fun os started H enc _ => lifted os started H enc)

/-! ### the statement -/
theorem proved : Rows.LedgerOnceSaid := over
end Go.Proofs.Ytafglljfgoeapaa.ledgerOnce
