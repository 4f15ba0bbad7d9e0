/-
  Behind the first 40 of whatever postings: legs that are posted, and then posted turned round, leave all balances as they were (P10.4); more than 200 postings, or legs of one, and a last number of 2^39 or more, the statement lets by.
-/
import Derived.Test.YtafglljfgoeapaaRS
import Derived.Test.YtafglljfgoeapaaRows
import Derived.WalkKit
import Derived.ProofKit
import Derived.OpenShut
import Derived.ShutString
import Derived.ChangeOld
import Derived.Below
import Derived.Carry
namespace Go.Proofs.Ytafglljfgoeapaa.NumK
open Go.RowKit
set_option linter.unusedVariables false

theorem refTurn_own (A : Option Addr) (n c : Nat) (l : List Lg) (w : World) (h : RowE enLg w A n l) (hn : n ≤ 1000000) :
    Calls Try.prog 25 #[.slice A n c] w fun e w' => ∃ A' c', e = .returned (.slice A' n c') ∧ RowE enLg w' A' n (turnL l) ∧ (A' = none → c' = 0) ∧ Grew w w' :=
  (refTurn_any A n c l w h hn).mono fun e w' ⟨v, he, ho, hg⟩ => by
    obtain ⟨A', c', rfl, hr, hn, _⟩ := ho.form
    rw [turnL_len, h.len] at hr he
    exact ⟨A', c', he, hr, hn, hg⟩

set_option maxRecDepth 100000 in
set_option maxHeartbeats 8000000 in
theorem ledgerTurns_walk (A : Option Addr) (n c : Nat) (l : List Ld) (pid : Int) (B : Option Addr) (m d : Nat) (pl : List Lg) (w : World) (h : Posts w A n l) (h2 : RowE enLg w B m pl) (hB : B = none → d = 0) (hm : m ≤ 9223372036854775807) :
    Calls Try.prog 6 #[.slice A n c, ldV pid B m d] w fun e w' => e = .returned (.bool true) ∧ Grew w w' := by
  have HA := Lib.hid h
  have HJ := Lib.hid h2
  have WK := fun w => wakes10_any w
  unfold ldV
  by_cases hf : Few n l
  · have CH := fun w' (g : Grew w w') => heavy_few (c := c) (HA.out.keep g) hf
    by_cases hm2 : (200 : Int) < (m : Int)
    · clear h h2 hB
      go_enter Try.func6, Try.ntmps6
      go_wp2_with (go_at_call 22; ((with_reducible refine (CH _ (grew_alloc _ _ _)).mono ?_); rintro e w1 ⟨rfl, rfl⟩; clear CH))
      go_ret
      exact ⟨rfl, grew_alloc _ _ _⟩
    have CG := fun w' (g : Grew w w') => grown_any A n c l w' (HA.out.keep g) hf
    have HBN := Lib.hid hB
    have hm3 : m ≤ 200 := by omega
    clear h h2 hB hf
    go_enter Try.func6, Try.ntmps6
    go_upto_region 4 with (first
      | (go_at_call 22; ((with_reducible refine (CH _ (grew_alloc _ _ _)).mono ?_); rintro e w1 ⟨rfl, rfl⟩; clear CH))
      | (go_at_call 23; ((with_reducible refine (CG _ (grew_alloc _ _ _)).mono ?_); rintro e w1 ⟨last, bl, A1, c1, q, rfl, hl, hg⟩; have HL := Lib.hid hl; have HG1 := Lib.hid hg; unfold ldV; clear hl hg CG)))
    have HGW : Hid (Grew w (w1.alloc (.cells #[.int .i64 last, .slice A1 bl.length c1] 24))) := grew_trans (own_back HG1.out) (grew_alloc _ _ _)
    have HC : Hid (∀ w', Grew (w1.alloc (.cells #[.int .i64 last, .slice A1 bl.length c1] 24)) w' → (w'.cell? ⟨w.heap.size, 1, none⟩ = some (.slice B m d)) ∧ (w'.cell? ⟨w1.heap.size, 0, none⟩ = some (.int .i64 last) ∧ w'.cell? ⟨w1.heap.size, 1, none⟩ = some (.slice A1 bl.length c1)) ∧ (w.heap.size < w'.heap.size ∧ w1.heap.size < w'.heap.size)) := fun w' g =>
      ⟨own_cell (grew_trans HG1.out (own_back g)) 1, ⟨own_cell g 0, own_cell g 1⟩, ⟨own_lt (grew_trans HG1.out (own_back g)), own_lt g⟩⟩
    have HLk : Hid (∀ w', Grew (w1.alloc (.cells #[.int .i64 last, .slice A1 bl.length c1] 24)) w' → Led w' 0 last bl A1 c1) := fun w' g => (HL.out.keep (own_back g)).mono (Nat.zero_le _)
    generalize w1.alloc (.cells #[.int .i64 last, .slice A1 bl.length c1] 24) = w2 at *
    obtain ⟨e1, ⟨s0, s1⟩, hz1, hz2⟩ := HC.out w2 (grew_refl _)
    by_cases h39 : 549755813888 ≤ last
    · go_wp2_with (go_at_call 21; ((with_reducible refine (WK _).mono ?_); rintro e w9 ⟨rfl, hg⟩; have HG9 := Lib.hid (grew_trans HGW.out hg); clear hg))
      go_ret
      exact ⟨rfl, HG9.out⟩
    have hl0 : 0 ≤ last := (ledger_parts HL.out.ok).1
    have CP := fun w' (g : Grew w2 w') => led_post (HLk.out w2 (grew_refl _)) g (last + 1) B m d pl (HJ.out.keep (grew_trans HGW.out g)) HBN.out (by omega)
    by_cases h0 : postE last bl (last + 1) pl = 0
    · obtain ⟨tb1, tb2⟩ := turn_back (by omega) h0
      have CPy := fun w' g => (CP w' g).mono fun e w'' h => postR_yes h0 h
      have HLt := Lib.hid (posted h0).2.1
      clear CP
      unfold ldV at CPy
      have HTB1 := Lib.hid tb1
      have HTB2 := Lib.hid tb2
      generalize postL last bl (last + 1) pl = tl at *
      clear tb1 tb2 h0
      go_upto_region 9 with (go_at_call 15; ((with_reducible refine (CPy _ (grew_refl _)).mono ?_); rintro e w3 ⟨A2, c2, rfl, hl, hg⟩; have HT := Lib.hid hl; have HG3 := Lib.hid hg; have e1' := (HC.out _ hg).1; have hz1' : w.heap.size < w3.heap.size := (HC.out _ hg).2.2.1; clear hl hg CPy))
      have HC4 := Lib.hid (fun w' (g : Grew (w3.alloc (.cells #[.int .i64 (last + 1), .slice A2 tl.length c2] 24)) w') => HC.out w' (grew_trans HG3.out (grew_trans (grew_alloc _ _ _) g)))
      have HG4 : Hid (Grew w2 (w3.alloc (.cells #[.int .i64 (last + 1), .slice A2 tl.length c2] 24))) := grew_trans HG3.out (grew_alloc _ _ _)
      have HS : Hid (∀ w', Grew (w3.alloc (.cells #[.int .i64 (last + 1), .slice A2 tl.length c2] 24)) w' → w'.cell? ⟨w3.heap.size, 0, none⟩ = some (.int .i64 (last + 1)) ∧ w'.cell? ⟨w3.heap.size, 1, none⟩ = some (.slice A2 tl.length c2) ∧ w'.cell? ⟨w.heap.size, 1, none⟩ = some (.slice B m d)) := fun w' g => ⟨own_cell g 0, own_cell g 1, (HC4.out w' g).1⟩
      have HT4 : Hid (∀ w', Grew (w3.alloc (.cells #[.int .i64 (last + 1), .slice A2 tl.length c2] 24)) w' → Led w' 0 (last + 1) tl A2 c2) := fun w' g => (HT.out.keep (own_back g)).mono (Nat.zero_le _)
      have CTn := fun w' (h : RowE enLg w' B m pl) => refTurn_own B m d pl w' h (by omega)
      clear e1' hz1' e1 s0 s1 hz1 hz2
      generalize w3.alloc (.cells #[.int .i64 (last + 1), .slice A2 tl.length c2] 24) = wt at *
      have CP2 := fun (w' : World) (g : Grew wt w') B' d' (hr : RowE enLg w' B' m (turnL pl)) (hn : B' = none → d' = 0) => (led_post (HT4.out wt (grew_refl _)) g (last + 2) B' m d' (turnL pl) hr hn (by omega)).mono fun e w'' h => postR_yes HTB1.out h
      rw [HTB2.out] at CP2
      unfold ldV at CP2
      have i2 : IntKind.i64.wrap (last + 1 + 1) = last + 2 := by rw [IntKind.wrap_i64]; omega
      have HRW : Hid (∀ w', Grew wt w' → RowE enLg w' B m pl) := fun w' g => HJ.out.keep (grew_trans HGW.out (grew_trans HG4.out g))
      have HZ : Hid (w1.heap.size < wt.heap.size) := by have := (HC.out wt HG4.out).2.2.2; exact this
      refine wp_region_held_drew (S := (fun w' => w'.cell? ⟨w3.heap.size, 0, none⟩ = some (.int .i64 (last + 1)) ∧ w'.cell? ⟨w3.heap.size, 1, none⟩ = some (.slice A2 tl.length c2) ∧ w'.cell? ⟨w.heap.size, 1, none⟩ = some (.slice B m d))) (by kernel_rfl) (HS.out _ (grew_drew (grew_refl _))) (fun hHeld => ?_)
      (refine wpAnyH_take (i := 0) (oi := { dst := some 41, op := Op.load 24 (Operand.tmp 7), type := 24, pos := "law.go:141", after := #[], guard := none }) (v := ?_) rfl (by kernel_rfl) (by kernel_rfl) (by kernel_rfl) (fun _ _ _ h => h) (Or.inl ⟨by rfl, ?_⟩) (by assumption) ?_; rotate_left; · (intro w hSw; (try dsimp only at hSw); go_simp; (first | done | with_reducible rfl)))
      try simp only [Act.put, List.setIfInBounds_toArray, List.set_cons_zero, List.set_cons_succ]
      (refine wpAnyH_take (i := 1) (oi := { dst := some 42, op := Op.fieldAddr 24 (Operand.tmp 7) 0, type := 0, pos := "law.go:141", after := #[], guard := none }) (v := ?_) rfl (by kernel_rfl) (by kernel_rfl) (by kernel_rfl) (fun _ _ _ h => h) (Or.inl ⟨by rfl, ?_⟩) (by assumption) ?_; rotate_left; · (intro w hSw; (try dsimp only at hSw); go_simp; (first | done | with_reducible rfl)))
      try simp only [Act.put, List.setIfInBounds_toArray, List.set_cons_zero, List.set_cons_succ]
      (refine wpAnyH_take (i := 2) (oi := { dst := some 43, op := Op.load 3 (Operand.tmp 42), type := 3, pos := "law.go:141", after := #[{ on := 1, ground := Ground.data }], guard := none }) (v := ?_) rfl (by kernel_rfl) (by kernel_rfl) (by kernel_rfl) (fun _ _ _ h => h) (Or.inl ⟨by rfl, ?_⟩) (by assumption) ?_; rotate_left; · (intro w hSw; (try dsimp only at hSw); go_simp; (first | done | with_reducible rfl)))
      try simp only [Act.put, List.setIfInBounds_toArray, List.set_cons_zero, List.set_cons_succ]
      (refine wpAnyH_take (i := 3) (oi := { dst := some 44, op := Op.binOp BinOp.add 3 (Operand.tmp 43) (Operand.const (Value.int IntKind.i64 1)) 3, type := 3, pos := "law.go:141", after := #[{ on := 2, ground := Ground.data }], guard := none }) (v := ?_) rfl (by kernel_rfl) (by kernel_rfl) (by kernel_rfl) (fun _ _ _ h => h) (Or.inl ⟨by rfl, ?_⟩) (by assumption) ?_; rotate_left; · (intro w hSw; (try dsimp only at hSw); go_simp; (first | done | with_reducible rfl)))
      try simp only [Act.put, List.setIfInBounds_toArray, List.set_cons_zero, List.set_cons_succ]
      (refine wpAnyH_take (i := 4) (oi := { dst := some 45, op := Op.fieldAddr 50 (Operand.tmp 3) 1, type := 0, pos := "law.go:141", after := #[], guard := none }) (v := ?_) rfl (by kernel_rfl) (by kernel_rfl) (by kernel_rfl) (fun _ _ _ h => h) (Or.inl ⟨by rfl, ?_⟩) (by assumption) ?_; rotate_left; · (intro w hSw; (try dsimp only at hSw); go_simp; (first | done | with_reducible rfl)))
      try simp only [Act.put, List.setIfInBounds_toArray, List.set_cons_zero, List.set_cons_succ]
      (refine wpAnyH_take (i := 5) (oi := { dst := some 46, op := Op.load 25 (Operand.tmp 45), type := 25, pos := "law.go:141", after := #[{ on := 4, ground := Ground.data }], guard := none }) (v := ?_) rfl (by kernel_rfl) (by kernel_rfl) (by kernel_rfl) (fun _ _ _ h => h) (Or.inl ⟨by rfl, ?_⟩) (by assumption) ?_; rotate_left; · (intro w hSw; (try dsimp only at hSw); go_simp; (first | done | with_reducible rfl)))
      try simp only [Act.put, List.setIfInBounds_toArray, List.set_cons_zero, List.set_cons_succ]
      refine wpAnyH_ready (rs := [6, 11]) (by kernel_rfl) (by simp) ?_
      refine (AllReadyH.cons (o := { dst := some 47, op := Op.call { callee := Callee.value (Operand.func 25), args := #[Operand.tmp 46], argTypes := #[25] }, type := 25, pos := "law.go:141", after := #[{ on := 5, ground := Ground.data }], guard := none }) rfl (fun K hK => ?_) (AllReadyH.cons (o := { dst := some 9, op := Op.alloc 24, type := 0, pos := "law.go:141", after := #[], guard := none }) rfl (fun K hK => ?_) AllReadyH.nil))
      · go_simp
        (go_at_call 25; (first | (with_reducible refine (CTn _ (HRW.out _ (grew_refl _))).mono ?_) | (with_reducible refine (CTn _ (HRW.out _ (grew_drew (grew_refl _)))).mono ?_) | (with_reducible refine (CTn _ (HRW.out _ (grew_drew (grew_alloc _ _ _)))).mono ?_) | (with_reducible refine (CTn _ (HRW.out _ (grew_alloc _ _ _))).mono ?_)); rintro e v1 ⟨B5, d5, rfl, hr5, hn5, hg5⟩)
        have HS1 : Hid (Grew wt v1) := (by first | exact hg5 | exact grew_trans (grew_drew (grew_refl _)) hg5 | exact grew_trans (grew_drew (grew_alloc _ _ _)) hg5 | exact grew_trans (grew_alloc _ _ _) hg5)
        have HGv1 : Hid (Grew wt v1) := HS1
        (try have HW0 : Hid (Own2 v1 wt.heap.size (.int .i64 0) (.slice none 0 0)) := (Own2.new wt (.int .i64 0) (.slice none 0 0) 24 _ rfl).keep (by first | exact hg5 | exact grew_trans (grew_drew (grew_refl _)) hg5))
        (try obtain ⟨t0, t1, t2, t3, t4⟩ := HW0.out)
        (try have HL0 : Hid (wt.heap.size < v1.heap.size) := HW0.out.lt)
        refine hK.out _ _ ?_ (fun hHeld => ?_)
        · first
          | exact HS.out _ HGv1.out
        clear hK K
        try simp only [Act.put, List.setIfInBounds_toArray, List.set_cons_zero, List.set_cons_succ]
        refine wpAnyH_ready (rs := [7, 11]) (by kernel_rfl) (by simp) ?_
        refine (AllReadyH.cons (o := { dst := some 48, op := Op.call { callee := Callee.value (Operand.func 15), args := #[Operand.tmp 41, Operand.tmp 44, Operand.tmp 47], argTypes := #[24, 3, 25] }, type := 34, pos := "law.go:141", after := #[{ on := 0, ground := Ground.data }, { on := 3, ground := Ground.data }, { on := 6, ground := Ground.data }, { on := 6, ground := Ground.chain }], guard := none }) rfl (fun K hK => ?_) (AllReadyH.cons (o := { dst := some 9, op := Op.alloc 24, type := 0, pos := "law.go:141", after := #[], guard := none }) rfl (fun K hK => ?_) AllReadyH.nil))
        · go_simp
          (go_at_call 15; (first | (with_reducible refine (CP2 _ (grew_trans HGv1.out (grew_refl _)) _ _ (hr5.keep (grew_refl _)) hn5).mono ?_) | (with_reducible refine (CP2 _ (grew_trans HGv1.out (grew_drew (grew_refl _))) _ _ (hr5.keep (grew_drew (grew_refl _))) hn5).mono ?_) | (with_reducible refine (CP2 _ (grew_trans HGv1.out (grew_drew (grew_alloc _ _ _))) _ _ (hr5.keep (grew_drew (grew_alloc _ _ _))) hn5).mono ?_) | (with_reducible refine (CP2 _ (grew_trans HGv1.out (grew_alloc _ _ _)) _ _ (hr5.keep (grew_alloc _ _ _)) hn5).mono ?_)); rintro e v2 ⟨A6, c6, rfl, hl6, hg6⟩)
          have HS2 : Hid (Grew v1 v2) := (by first | exact hg6 | exact grew_trans (grew_drew (grew_refl _)) hg6 | exact grew_trans (grew_drew (grew_alloc _ _ _)) hg6 | exact grew_trans (grew_alloc _ _ _) hg6)
          have HGv2 : Hid (Grew wt v2) := grew_trans HGv1.out HS2.out
          (try have HW0 := Lib.hid (HW0.out.keep HS2.out))
          (try have HW1 : Hid (Own2 v2 v1.heap.size (.int .i64 0) (.slice none 0 0)) := (Own2.new v1 (.int .i64 0) (.slice none 0 0) 24 _ rfl).keep (by first | exact hg6 | exact grew_trans (grew_drew (grew_refl _)) hg6))
          (try obtain ⟨t0, t1, t2, t3, t4⟩ := HW0.out)
          (try obtain ⟨t0, t1, t2, t3, t4⟩ := HW1.out)
          refine hK.out _ _ ?_ (fun hHeld => ?_)
          · first
            | exact HS.out _ HGv2.out
          clear hK K
          try simp only [Act.put, List.setIfInBounds_toArray, List.set_cons_zero, List.set_cons_succ]
          (refine wpAnyH_take (i := 8) (oi := { dst := some 40, op := Op.move (Operand.tmp 48), type := 34, pos := "law.go:141", after := #[{ on := 7, ground := Ground.data }], guard := none }) (v := ?_) rfl (by kernel_rfl) (by kernel_rfl) (by kernel_rfl) (fun _ _ _ h => h) (Or.inl ⟨by rfl, ?_⟩) (by assumption) ?_; rotate_left; · (intro w hSw; (try dsimp only at hSw); go_simp; (first | done | with_reducible rfl)))
          try simp only [Act.put, List.setIfInBounds_toArray, List.set_cons_zero, List.set_cons_succ]
          (refine wpAnyH_take (i := 9) (oi := { dst := some 49, op := Op.extract (Operand.tmp 40) 0, type := 24, pos := "law.go:141", after := #[{ on := 8, ground := Ground.data }], guard := none }) (v := ?_) rfl (by kernel_rfl) (by kernel_rfl) (by kernel_rfl) (fun _ _ _ h => h) (Or.inl ⟨by rfl, ?_⟩) (by assumption) ?_; rotate_left; · (intro w hSw; (try dsimp only at hSw); go_simp; (first | done | with_reducible rfl)))
          try simp only [Act.put, List.setIfInBounds_toArray, List.set_cons_zero, List.set_cons_succ]
          (refine wpAnyH_take (i := 10) (oi := { dst := some 50, op := Op.extract (Operand.tmp 40) 1, type := 31, pos := "law.go:141", after := #[{ on := 8, ground := Ground.data }, { on := 12, ground := Ground.gcOnly Departure.lateStores }], guard := none }) (v := ?_) rfl (by kernel_rfl) (by kernel_rfl) (by kernel_rfl) (fun _ _ _ h => h) (Or.inl ⟨by rfl, ?_⟩) (by assumption) ?_; rotate_left; · (intro w hSw; (try dsimp only at hSw); go_simp; (first | done | with_reducible rfl)))
          try simp only [Act.put, List.setIfInBounds_toArray, List.set_cons_zero, List.set_cons_succ]
          refine wpAnyH_ready (rs := [11]) (by kernel_rfl) (by simp) ?_
          refine (AllReadyH.cons (o := { dst := some 9, op := Op.alloc 24, type := 0, pos := "law.go:141", after := #[], guard := none }) rfl (fun K hK => ?_) AllReadyH.nil)
          go_simp
          refine hK.out _ _ ?_ (fun hHeld => ?_)
          · first
            | exact HS.out _ (grew_trans HGv2.out (grew_refl _))
            | exact HS.out _ (grew_trans HGv2.out (grew_drew (grew_refl _)))
            | exact HS.out _ (grew_trans HGv2.out (grew_drew (grew_alloc _ _ _)))
            | exact HS.out _ (grew_trans HGv2.out (grew_alloc _ _ _))
            | exact HS.out _ (grew_trans HGv1.out (grew_refl _))
            | exact HS.out _ (grew_trans HGv1.out (grew_drew (grew_refl _)))
            | exact HS.out _ (grew_trans HGv1.out (grew_drew (grew_alloc _ _ _)))
            | exact HS.out _ (grew_trans HGv1.out (grew_alloc _ _ _))
            | exact HS.out _ (grew_refl _)
            | exact HS.out _ (grew_drew (grew_refl _))
            | exact HS.out _ (grew_drew (grew_alloc _ _ _))
            | exact HS.out _ (grew_alloc _ _ _)
            | (trace_state; fail)
          clear hK K
          try simp only [Act.put, List.setIfInBounds_toArray, List.set_cons_zero, List.set_cons_succ]
          refine wpAnyH_ready (rs := [12]) (by kernel_rfl) (by simp) ?_
          refine (AllReadyH.cons (o := { dst := none, op := Op.store 24 (Operand.tmp 9) (Operand.tmp 49), type := 0, pos := "law.go:141", after := #[{ on := 11, ground := Ground.data }, { on := 9, ground := Ground.data }, { on := 7, ground := Ground.chain }, { on := 0, ground := Ground.phase }, { on := 1, ground := Ground.phase }, { on := 2, ground := Ground.phase }, { on := 3, ground := Ground.phase }, { on := 4, ground := Ground.phase }, { on := 5, ground := Ground.phase }, { on := 6, ground := Ground.phase }, { on := 7, ground := Ground.phase }, { on := 8, ground := Ground.phase }, { on := 9, ground := Ground.phase }, { on := 10, ground := Ground.textOnly Departure.lateStores }, { on := 11, ground := Ground.phase }], guard := none }) rfl (fun K hK => ?_) AllReadyH.nil)
          go_simp
          refine hK.out _ _ ?_ (fun hHeld => ?_)
          · first
            | exact HS.out _ (grew_set (grew_set HGv2.out _ (Nat.le_refl _)) _ (Nat.le_refl _))
            | exact HS.out _ (grew_drew (grew_set (grew_set HGv2.out _ (Nat.le_refl _)) _ (Nat.le_refl _)))
            | exact HS.out _ (grew_set (grew_set HGv2.out _ HGv1.out.size) _ HGv1.out.size)
            | exact HS.out _ (grew_drew (grew_set (grew_set HGv2.out _ HGv1.out.size) _ HGv1.out.size))
            | exact HS.out _ (grew_trans HGv2.out (grew_refl _))
            | exact HS.out _ (grew_trans HGv2.out (grew_drew (grew_refl _)))
            | exact HS.out _ (grew_trans HGv2.out (grew_drew (grew_alloc _ _ _)))
            | exact HS.out _ (grew_trans HGv2.out (grew_alloc _ _ _))
            | (trace_state; fail)
          clear hK K
          try simp only [Act.put, List.setIfInBounds_toArray, List.set_cons_zero, List.set_cons_succ]
          (refine wpAnyH_take (i := 13) (oi := { dst := some 8, op := Op.assign (Operand.tmp 50), type := 31, pos := "law.go:141", after := #[{ on := 10, ground := Ground.data }, { on := 12, ground := Ground.chain }, { on := 0, ground := Ground.phase }, { on := 1, ground := Ground.phase }, { on := 2, ground := Ground.phase }, { on := 3, ground := Ground.phase }, { on := 4, ground := Ground.phase }, { on := 5, ground := Ground.phase }, { on := 6, ground := Ground.phase }, { on := 7, ground := Ground.phase }, { on := 8, ground := Ground.phase }, { on := 9, ground := Ground.phase }, { on := 10, ground := Ground.phase }, { on := 11, ground := Ground.phase }, { on := 12, ground := Ground.phase }], guard := none }) (v := ?_) rfl (by kernel_rfl) (by kernel_rfl) (by kernel_rfl) (fun _ _ _ h => h) (Or.inl ⟨by rfl, ?_⟩) (by assumption) ?_; rotate_left; · (intro w hSw; (try dsimp only at hSw); go_simp; (first | done | with_reducible rfl)))
          try simp only [Act.put, List.setIfInBounds_toArray, List.set_cons_zero, List.set_cons_succ]
          refine wpAnyH_done (by kernel_rfl) ?_ _
          clear hHeld
          first
            | (have hX : Own2 ((v2.setCell ⟨wt.heap.size, 0, none⟩ (.int .i64 (last + 2))).setCell ⟨wt.heap.size, 1, none⟩ (.slice A6 bl.length c6)) wt.heap.size (.int .i64 (last + 2)) (.slice A6 bl.length c6) ∧ (∀ u : Value, RowE enLg (((v2.setCell ⟨wt.heap.size, 0, none⟩ (.int .i64 (last + 2))).setCell ⟨wt.heap.size, 1, none⟩ (.slice A6 bl.length c6)).setCell ⟨wt.heap.size, 0, none⟩ u) A6 bl.length bl) ∧ RowE enLg ((v2.setCell ⟨wt.heap.size, 0, none⟩ (.int .i64 (last + 2))).setCell ⟨wt.heap.size, 1, none⟩ (.slice A6 bl.length c6)) A6 bl.length bl ∧ Grew wt ((v2.setCell ⟨wt.heap.size, 0, none⟩ (.int .i64 (last + 2))).setCell ⟨wt.heap.size, 1, none⟩ (.slice A6 bl.length c6)) ∧ wt.heap.size ≤ wt.heap.size := ⟨HW0.out.set _ _, fun u => (((hl6.set _ 0 _ HL0.out).set _ 1 _ HL0.out).set _ 0 u HL0.out).row, ((hl6.set _ 0 _ HL0.out).set _ 1 _ HL0.out).row, grew_set (grew_set HGv2.out _ (Nat.le_refl _)) _ (Nat.le_refl _), (Nat.le_refl _)⟩; (try clear t0 t1 t2 t3 t4); generalize ((v2.setCell ⟨wt.heap.size, 0, none⟩ (.int .i64 (last + 2))).setCell ⟨wt.heap.size, 1, none⟩ (.slice A6 bl.length c6)) = wF at *; generalize hTF : wt.heap.size = TF at *)
            | (have hX : Own2 ((v2.setCell ⟨v1.heap.size, 0, none⟩ (.int .i64 (last + 2))).setCell ⟨v1.heap.size, 1, none⟩ (.slice A6 bl.length c6)) v1.heap.size (.int .i64 (last + 2)) (.slice A6 bl.length c6) ∧ (∀ u : Value, RowE enLg (((v2.setCell ⟨v1.heap.size, 0, none⟩ (.int .i64 (last + 2))).setCell ⟨v1.heap.size, 1, none⟩ (.slice A6 bl.length c6)).setCell ⟨v1.heap.size, 0, none⟩ u) A6 bl.length bl) ∧ RowE enLg ((v2.setCell ⟨v1.heap.size, 0, none⟩ (.int .i64 (last + 2))).setCell ⟨v1.heap.size, 1, none⟩ (.slice A6 bl.length c6)) A6 bl.length bl ∧ Grew wt ((v2.setCell ⟨v1.heap.size, 0, none⟩ (.int .i64 (last + 2))).setCell ⟨v1.heap.size, 1, none⟩ (.slice A6 bl.length c6)) ∧ wt.heap.size ≤ v1.heap.size := ⟨HW1.out.set _ _, fun u => (((hl6.set _ 0 _ (by simp)).set _ 1 _ (by simp)).set _ 0 u (by simp)).row, ((hl6.set _ 0 _ (by simp)).set _ 1 _ (by simp)).row, grew_set (grew_set HGv2.out _ HGv1.out.size) _ HGv1.out.size, HGv1.out.size⟩; (try clear t0 t1 t2 t3 t4); generalize ((v2.setCell ⟨v1.heap.size, 0, none⟩ (.int .i64 (last + 2))).setCell ⟨v1.heap.size, 1, none⟩ (.slice A6 bl.length c6)) = wF at *; generalize hTF : v1.heap.size = TF at *)
            | (have hX : Own2 (v2.alloc (.cells #[.int .i64 (last + 2), (.slice A6 bl.length c6)] 24)) v2.heap.size (.int .i64 (last + 2)) (.slice A6 bl.length c6) ∧ (∀ u : Value, RowE enLg ((v2.alloc (.cells #[.int .i64 (last + 2), (.slice A6 bl.length c6)] 24)).setCell ⟨v2.heap.size, 0, none⟩ u) A6 bl.length bl) ∧ RowE enLg (v2.alloc (.cells #[.int .i64 (last + 2), (.slice A6 bl.length c6)] 24)) A6 bl.length bl ∧ Grew wt (v2.alloc (.cells #[.int .i64 (last + 2), (.slice A6 bl.length c6)] 24)) ∧ wt.heap.size ≤ v2.heap.size := ⟨Own2.new _ _ _ _ _ rfl, fun u => hl6.row.keep (grew_set (grew_alloc _ _ _) _ (Nat.le_refl _)), hl6.row.keep (grew_alloc _ _ _), grew_trans HGv2.out (grew_alloc _ _ _), HGv2.out.size⟩; (try clear t0 t1 t2 t3 t4); generalize (v2.alloc (.cells #[.int .i64 (last + 2), (.slice A6 bl.length c6)] 24)) = wF at *; generalize hTF : v2.heap.size = TF at *)
          have HX := Lib.hid hX
          obtain ⟨⟨u0, u1, uf0, uf1, ul⟩, -, -, hgX, hTX⟩ := hX
          obtain ⟨-, ⟨s0, s1⟩, -, hz2⟩ := HC.out wF (grew_trans HG4.out hgX)
          have hne : w1.heap.size ≠ TF := by have := HZ.out; omega
          have hne2 : TF ≠ w1.heap.size := Ne.symm hne
          have HXG := Lib.hid (fun u => (grew_set (grew_trans HG4.out HX.out.2.2.2.1) u (p := ⟨TF, 0, none⟩) (by show _ ≤ TF; have := HG4.out.size; have := HX.out.2.2.2.2; omega) : Grew w2 (wF.setCell ⟨TF, 0, none⟩ u)))
          clear hl6 hr5 hn5 hgX hTX
          go_wp2_with (first
            | (go_at_call 17; ((with_reducible refine (keep_yes last A6 A1 bl.length c6 c1 bl _ (HX.out.2.1 _) ((HLk.out _ (HXG.out _)).row) (by have := HL.out.len; omega)).mono ?_); rintro e w8 ⟨rfl, hg⟩; have HG8 := Lib.hid (grew_trans HGW.out (grew_trans (HXG.out _) hg)); clear hg))
            | (go_at_call 21; ((with_reducible refine (WK _).mono ?_); rintro e w9 ⟨rfl, hg⟩; have HG9 := Lib.hid (grew_trans HG8.out hg); clear hg)))
          go_ret
          exact ⟨rfl, HG9.out⟩
        · go_simp
          refine hK.out _ _ ?_ (fun hHeld => ?_)
          · first
            | exact HS.out _ (grew_trans HGv2.out (grew_refl _))
            | exact HS.out _ (grew_trans HGv2.out (grew_drew (grew_refl _)))
            | exact HS.out _ (grew_trans HGv2.out (grew_drew (grew_alloc _ _ _)))
            | exact HS.out _ (grew_trans HGv2.out (grew_alloc _ _ _))
            | exact HS.out _ (grew_trans HGv1.out (grew_refl _))
            | exact HS.out _ (grew_trans HGv1.out (grew_drew (grew_refl _)))
            | exact HS.out _ (grew_trans HGv1.out (grew_drew (grew_alloc _ _ _)))
            | exact HS.out _ (grew_trans HGv1.out (grew_alloc _ _ _))
            | exact HS.out _ (grew_refl _)
            | exact HS.out _ (grew_drew (grew_refl _))
            | exact HS.out _ (grew_drew (grew_alloc _ _ _))
            | exact HS.out _ (grew_alloc _ _ _)
            | (trace_state; fail)
          clear hK K
          try simp only [Act.put, List.setIfInBounds_toArray, List.set_cons_zero, List.set_cons_succ]
          refine wpAnyH_ready (rs := [7]) (by kernel_rfl) (by simp) ?_
          refine (AllReadyH.cons (o := { dst := some 48, op := Op.call { callee := Callee.value (Operand.func 15), args := #[Operand.tmp 41, Operand.tmp 44, Operand.tmp 47], argTypes := #[24, 3, 25] }, type := 34, pos := "law.go:141", after := #[{ on := 0, ground := Ground.data }, { on := 3, ground := Ground.data }, { on := 6, ground := Ground.data }, { on := 6, ground := Ground.chain }], guard := none }) rfl (fun K hK => ?_) AllReadyH.nil)
          go_simp
          (go_at_call 15; (first | (with_reducible refine (CP2 _ (grew_trans HGv1.out (grew_refl _)) _ _ (hr5.keep (grew_refl _)) hn5).mono ?_) | (with_reducible refine (CP2 _ (grew_trans HGv1.out (grew_drew (grew_refl _))) _ _ (hr5.keep (grew_drew (grew_refl _))) hn5).mono ?_) | (with_reducible refine (CP2 _ (grew_trans HGv1.out (grew_drew (grew_alloc _ _ _))) _ _ (hr5.keep (grew_drew (grew_alloc _ _ _))) hn5).mono ?_) | (with_reducible refine (CP2 _ (grew_trans HGv1.out (grew_alloc _ _ _)) _ _ (hr5.keep (grew_alloc _ _ _)) hn5).mono ?_)); rintro e v2 ⟨A6, c6, rfl, hl6, hg6⟩)
          have HS2 : Hid (Grew v1 v2) := (by first | exact hg6 | exact grew_trans (grew_drew (grew_refl _)) hg6 | exact grew_trans (grew_drew (grew_alloc _ _ _)) hg6 | exact grew_trans (grew_alloc _ _ _) hg6)
          have HGv2 : Hid (Grew wt v2) := grew_trans HGv1.out HS2.out
          (try have HW0 := Lib.hid (HW0.out.keep HS2.out))
          (try have HW1 : Hid (Own2 v2 v1.heap.size (.int .i64 0) (.slice none 0 0)) := (Own2.new v1 (.int .i64 0) (.slice none 0 0) 24 _ rfl).keep (by first | exact hg6 | exact grew_trans (grew_drew (grew_refl _)) hg6))
          (try obtain ⟨t0, t1, t2, t3, t4⟩ := HW0.out)
          (try obtain ⟨t0, t1, t2, t3, t4⟩ := HW1.out)
          refine hK.out _ _ ?_ (fun hHeld => ?_)
          · first
            | exact HS.out _ HGv2.out
          clear hK K
          try simp only [Act.put, List.setIfInBounds_toArray, List.set_cons_zero, List.set_cons_succ]
          (refine wpAnyH_take (i := 8) (oi := { dst := some 40, op := Op.move (Operand.tmp 48), type := 34, pos := "law.go:141", after := #[{ on := 7, ground := Ground.data }], guard := none }) (v := ?_) rfl (by kernel_rfl) (by kernel_rfl) (by kernel_rfl) (fun _ _ _ h => h) (Or.inl ⟨by rfl, ?_⟩) (by assumption) ?_; rotate_left; · (intro w hSw; (try dsimp only at hSw); go_simp; (first | done | with_reducible rfl)))
          try simp only [Act.put, List.setIfInBounds_toArray, List.set_cons_zero, List.set_cons_succ]
          (refine wpAnyH_take (i := 9) (oi := { dst := some 49, op := Op.extract (Operand.tmp 40) 0, type := 24, pos := "law.go:141", after := #[{ on := 8, ground := Ground.data }], guard := none }) (v := ?_) rfl (by kernel_rfl) (by kernel_rfl) (by kernel_rfl) (fun _ _ _ h => h) (Or.inl ⟨by rfl, ?_⟩) (by assumption) ?_; rotate_left; · (intro w hSw; (try dsimp only at hSw); go_simp; (first | done | with_reducible rfl)))
          try simp only [Act.put, List.setIfInBounds_toArray, List.set_cons_zero, List.set_cons_succ]
          (refine wpAnyH_take (i := 10) (oi := { dst := some 50, op := Op.extract (Operand.tmp 40) 1, type := 31, pos := "law.go:141", after := #[{ on := 8, ground := Ground.data }, { on := 12, ground := Ground.gcOnly Departure.lateStores }], guard := none }) (v := ?_) rfl (by kernel_rfl) (by kernel_rfl) (by kernel_rfl) (fun _ _ _ h => h) (Or.inl ⟨by rfl, ?_⟩) (by assumption) ?_; rotate_left; · (intro w hSw; (try dsimp only at hSw); go_simp; (first | done | with_reducible rfl)))
          try simp only [Act.put, List.setIfInBounds_toArray, List.set_cons_zero, List.set_cons_succ]
          refine wpAnyH_ready (rs := [12]) (by kernel_rfl) (by simp) ?_
          refine (AllReadyH.cons (o := { dst := none, op := Op.store 24 (Operand.tmp 9) (Operand.tmp 49), type := 0, pos := "law.go:141", after := #[{ on := 11, ground := Ground.data }, { on := 9, ground := Ground.data }, { on := 7, ground := Ground.chain }, { on := 0, ground := Ground.phase }, { on := 1, ground := Ground.phase }, { on := 2, ground := Ground.phase }, { on := 3, ground := Ground.phase }, { on := 4, ground := Ground.phase }, { on := 5, ground := Ground.phase }, { on := 6, ground := Ground.phase }, { on := 7, ground := Ground.phase }, { on := 8, ground := Ground.phase }, { on := 9, ground := Ground.phase }, { on := 10, ground := Ground.textOnly Departure.lateStores }, { on := 11, ground := Ground.phase }], guard := none }) rfl (fun K hK => ?_) AllReadyH.nil)
          go_simp
          refine hK.out _ _ ?_ (fun hHeld => ?_)
          · first
            | exact HS.out _ (grew_set (grew_set HGv2.out _ (Nat.le_refl _)) _ (Nat.le_refl _))
            | exact HS.out _ (grew_drew (grew_set (grew_set HGv2.out _ (Nat.le_refl _)) _ (Nat.le_refl _)))
            | exact HS.out _ (grew_set (grew_set HGv2.out _ HGv1.out.size) _ HGv1.out.size)
            | exact HS.out _ (grew_drew (grew_set (grew_set HGv2.out _ HGv1.out.size) _ HGv1.out.size))
            | exact HS.out _ (grew_trans HGv2.out (grew_refl _))
            | exact HS.out _ (grew_trans HGv2.out (grew_drew (grew_refl _)))
            | exact HS.out _ (grew_trans HGv2.out (grew_drew (grew_alloc _ _ _)))
            | exact HS.out _ (grew_trans HGv2.out (grew_alloc _ _ _))
            | (trace_state; fail)
          clear hK K
          try simp only [Act.put, List.setIfInBounds_toArray, List.set_cons_zero, List.set_cons_succ]
          (refine wpAnyH_take (i := 13) (oi := { dst := some 8, op := Op.assign (Operand.tmp 50), type := 31, pos := "law.go:141", after := #[{ on := 10, ground := Ground.data }, { on := 12, ground := Ground.chain }, { on := 0, ground := Ground.phase }, { on := 1, ground := Ground.phase }, { on := 2, ground := Ground.phase }, { on := 3, ground := Ground.phase }, { on := 4, ground := Ground.phase }, { on := 5, ground := Ground.phase }, { on := 6, ground := Ground.phase }, { on := 7, ground := Ground.phase }, { on := 8, ground := Ground.phase }, { on := 9, ground := Ground.phase }, { on := 10, ground := Ground.phase }, { on := 11, ground := Ground.phase }, { on := 12, ground := Ground.phase }], guard := none }) (v := ?_) rfl (by kernel_rfl) (by kernel_rfl) (by kernel_rfl) (fun _ _ _ h => h) (Or.inl ⟨by rfl, ?_⟩) (by assumption) ?_; rotate_left; · (intro w hSw; (try dsimp only at hSw); go_simp; (first | done | with_reducible rfl)))
          try simp only [Act.put, List.setIfInBounds_toArray, List.set_cons_zero, List.set_cons_succ]
          refine wpAnyH_done (by kernel_rfl) ?_ _
          clear hHeld
          first
            | (have hX : Own2 ((v2.setCell ⟨wt.heap.size, 0, none⟩ (.int .i64 (last + 2))).setCell ⟨wt.heap.size, 1, none⟩ (.slice A6 bl.length c6)) wt.heap.size (.int .i64 (last + 2)) (.slice A6 bl.length c6) ∧ (∀ u : Value, RowE enLg (((v2.setCell ⟨wt.heap.size, 0, none⟩ (.int .i64 (last + 2))).setCell ⟨wt.heap.size, 1, none⟩ (.slice A6 bl.length c6)).setCell ⟨wt.heap.size, 0, none⟩ u) A6 bl.length bl) ∧ RowE enLg ((v2.setCell ⟨wt.heap.size, 0, none⟩ (.int .i64 (last + 2))).setCell ⟨wt.heap.size, 1, none⟩ (.slice A6 bl.length c6)) A6 bl.length bl ∧ Grew wt ((v2.setCell ⟨wt.heap.size, 0, none⟩ (.int .i64 (last + 2))).setCell ⟨wt.heap.size, 1, none⟩ (.slice A6 bl.length c6)) ∧ wt.heap.size ≤ wt.heap.size := ⟨HW0.out.set _ _, fun u => (((hl6.set _ 0 _ HL0.out).set _ 1 _ HL0.out).set _ 0 u HL0.out).row, ((hl6.set _ 0 _ HL0.out).set _ 1 _ HL0.out).row, grew_set (grew_set HGv2.out _ (Nat.le_refl _)) _ (Nat.le_refl _), (Nat.le_refl _)⟩; (try clear t0 t1 t2 t3 t4); generalize ((v2.setCell ⟨wt.heap.size, 0, none⟩ (.int .i64 (last + 2))).setCell ⟨wt.heap.size, 1, none⟩ (.slice A6 bl.length c6)) = wF at *; generalize hTF : wt.heap.size = TF at *)
            | (have hX : Own2 ((v2.setCell ⟨v1.heap.size, 0, none⟩ (.int .i64 (last + 2))).setCell ⟨v1.heap.size, 1, none⟩ (.slice A6 bl.length c6)) v1.heap.size (.int .i64 (last + 2)) (.slice A6 bl.length c6) ∧ (∀ u : Value, RowE enLg (((v2.setCell ⟨v1.heap.size, 0, none⟩ (.int .i64 (last + 2))).setCell ⟨v1.heap.size, 1, none⟩ (.slice A6 bl.length c6)).setCell ⟨v1.heap.size, 0, none⟩ u) A6 bl.length bl) ∧ RowE enLg ((v2.setCell ⟨v1.heap.size, 0, none⟩ (.int .i64 (last + 2))).setCell ⟨v1.heap.size, 1, none⟩ (.slice A6 bl.length c6)) A6 bl.length bl ∧ Grew wt ((v2.setCell ⟨v1.heap.size, 0, none⟩ (.int .i64 (last + 2))).setCell ⟨v1.heap.size, 1, none⟩ (.slice A6 bl.length c6)) ∧ wt.heap.size ≤ v1.heap.size := ⟨HW1.out.set _ _, fun u => (((hl6.set _ 0 _ (by simp)).set _ 1 _ (by simp)).set _ 0 u (by simp)).row, ((hl6.set _ 0 _ (by simp)).set _ 1 _ (by simp)).row, grew_set (grew_set HGv2.out _ HGv1.out.size) _ HGv1.out.size, HGv1.out.size⟩; (try clear t0 t1 t2 t3 t4); generalize ((v2.setCell ⟨v1.heap.size, 0, none⟩ (.int .i64 (last + 2))).setCell ⟨v1.heap.size, 1, none⟩ (.slice A6 bl.length c6)) = wF at *; generalize hTF : v1.heap.size = TF at *)
            | (have hX : Own2 (v2.alloc (.cells #[.int .i64 (last + 2), (.slice A6 bl.length c6)] 24)) v2.heap.size (.int .i64 (last + 2)) (.slice A6 bl.length c6) ∧ (∀ u : Value, RowE enLg ((v2.alloc (.cells #[.int .i64 (last + 2), (.slice A6 bl.length c6)] 24)).setCell ⟨v2.heap.size, 0, none⟩ u) A6 bl.length bl) ∧ RowE enLg (v2.alloc (.cells #[.int .i64 (last + 2), (.slice A6 bl.length c6)] 24)) A6 bl.length bl ∧ Grew wt (v2.alloc (.cells #[.int .i64 (last + 2), (.slice A6 bl.length c6)] 24)) ∧ wt.heap.size ≤ v2.heap.size := ⟨Own2.new _ _ _ _ _ rfl, fun u => hl6.row.keep (grew_set (grew_alloc _ _ _) _ (Nat.le_refl _)), hl6.row.keep (grew_alloc _ _ _), grew_trans HGv2.out (grew_alloc _ _ _), HGv2.out.size⟩; (try clear t0 t1 t2 t3 t4); generalize (v2.alloc (.cells #[.int .i64 (last + 2), (.slice A6 bl.length c6)] 24)) = wF at *; generalize hTF : v2.heap.size = TF at *)
          have HX := Lib.hid hX
          obtain ⟨⟨u0, u1, uf0, uf1, ul⟩, -, -, hgX, hTX⟩ := hX
          obtain ⟨-, ⟨s0, s1⟩, -, hz2⟩ := HC.out wF (grew_trans HG4.out hgX)
          have hne : w1.heap.size ≠ TF := by have := HZ.out; omega
          have hne2 : TF ≠ w1.heap.size := Ne.symm hne
          have HXG := Lib.hid (fun u => (grew_set (grew_trans HG4.out HX.out.2.2.2.1) u (p := ⟨TF, 0, none⟩) (by show _ ≤ TF; have := HG4.out.size; have := HX.out.2.2.2.2; omega) : Grew w2 (wF.setCell ⟨TF, 0, none⟩ u)))
          clear hl6 hr5 hn5 hgX hTX
          go_wp2_with (first
            | (go_at_call 17; ((with_reducible refine (keep_yes last A6 A1 bl.length c6 c1 bl _ (HX.out.2.1 _) ((HLk.out _ (HXG.out _)).row) (by have := HL.out.len; omega)).mono ?_); rintro e w8 ⟨rfl, hg⟩; have HG8 := Lib.hid (grew_trans HGW.out (grew_trans (HXG.out _) hg)); clear hg))
            | (go_at_call 21; ((with_reducible refine (WK _).mono ?_); rintro e w9 ⟨rfl, hg⟩; have HG9 := Lib.hid (grew_trans HG8.out hg); clear hg)))
          go_ret
          exact ⟨rfl, HG9.out⟩
      · go_simp
        refine hK.out _ _ ?_ (fun hHeld => ?_)
        · first
          | exact HS.out _ (grew_trans HGv2.out (grew_refl _))
          | exact HS.out _ (grew_trans HGv2.out (grew_drew (grew_refl _)))
          | exact HS.out _ (grew_trans HGv2.out (grew_drew (grew_alloc _ _ _)))
          | exact HS.out _ (grew_trans HGv2.out (grew_alloc _ _ _))
          | exact HS.out _ (grew_trans HGv1.out (grew_refl _))
          | exact HS.out _ (grew_trans HGv1.out (grew_drew (grew_refl _)))
          | exact HS.out _ (grew_trans HGv1.out (grew_drew (grew_alloc _ _ _)))
          | exact HS.out _ (grew_trans HGv1.out (grew_alloc _ _ _))
          | exact HS.out _ (grew_refl _)
          | exact HS.out _ (grew_drew (grew_refl _))
          | exact HS.out _ (grew_drew (grew_alloc _ _ _))
          | exact HS.out _ (grew_alloc _ _ _)
          | (trace_state; fail)
        clear hK K
        try simp only [Act.put, List.setIfInBounds_toArray, List.set_cons_zero, List.set_cons_succ]
        refine wpAnyH_ready (rs := [6]) (by kernel_rfl) (by simp) ?_
        refine (AllReadyH.cons (o := { dst := some 47, op := Op.call { callee := Callee.value (Operand.func 25), args := #[Operand.tmp 46], argTypes := #[25] }, type := 25, pos := "law.go:141", after := #[{ on := 5, ground := Ground.data }], guard := none }) rfl (fun K hK => ?_) AllReadyH.nil)
        go_simp
        (go_at_call 25; (first | (with_reducible refine (CTn _ (HRW.out _ (grew_refl _))).mono ?_) | (with_reducible refine (CTn _ (HRW.out _ (grew_drew (grew_refl _)))).mono ?_) | (with_reducible refine (CTn _ (HRW.out _ (grew_drew (grew_alloc _ _ _)))).mono ?_) | (with_reducible refine (CTn _ (HRW.out _ (grew_alloc _ _ _))).mono ?_)); rintro e v1 ⟨B5, d5, rfl, hr5, hn5, hg5⟩)
        have HS1 : Hid (Grew wt v1) := (by first | exact hg5 | exact grew_trans (grew_drew (grew_refl _)) hg5 | exact grew_trans (grew_drew (grew_alloc _ _ _)) hg5 | exact grew_trans (grew_alloc _ _ _) hg5)
        have HGv1 : Hid (Grew wt v1) := HS1
        (try have HW0 : Hid (Own2 v1 wt.heap.size (.int .i64 0) (.slice none 0 0)) := (Own2.new wt (.int .i64 0) (.slice none 0 0) 24 _ rfl).keep (by first | exact hg5 | exact grew_trans (grew_drew (grew_refl _)) hg5))
        (try obtain ⟨t0, t1, t2, t3, t4⟩ := HW0.out)
        (try have HL0 : Hid (wt.heap.size < v1.heap.size) := HW0.out.lt)
        refine hK.out _ _ ?_ (fun hHeld => ?_)
        · first
          | exact HS.out _ HGv1.out
        clear hK K
        try simp only [Act.put, List.setIfInBounds_toArray, List.set_cons_zero, List.set_cons_succ]
        refine wpAnyH_ready (rs := [7]) (by kernel_rfl) (by simp) ?_
        refine (AllReadyH.cons (o := { dst := some 48, op := Op.call { callee := Callee.value (Operand.func 15), args := #[Operand.tmp 41, Operand.tmp 44, Operand.tmp 47], argTypes := #[24, 3, 25] }, type := 34, pos := "law.go:141", after := #[{ on := 0, ground := Ground.data }, { on := 3, ground := Ground.data }, { on := 6, ground := Ground.data }, { on := 6, ground := Ground.chain }], guard := none }) rfl (fun K hK => ?_) AllReadyH.nil)
        go_simp
        (go_at_call 15; (first | (with_reducible refine (CP2 _ (grew_trans HGv1.out (grew_refl _)) _ _ (hr5.keep (grew_refl _)) hn5).mono ?_) | (with_reducible refine (CP2 _ (grew_trans HGv1.out (grew_drew (grew_refl _))) _ _ (hr5.keep (grew_drew (grew_refl _))) hn5).mono ?_) | (with_reducible refine (CP2 _ (grew_trans HGv1.out (grew_drew (grew_alloc _ _ _))) _ _ (hr5.keep (grew_drew (grew_alloc _ _ _))) hn5).mono ?_) | (with_reducible refine (CP2 _ (grew_trans HGv1.out (grew_alloc _ _ _)) _ _ (hr5.keep (grew_alloc _ _ _)) hn5).mono ?_)); rintro e v2 ⟨A6, c6, rfl, hl6, hg6⟩)
        have HS2 : Hid (Grew v1 v2) := (by first | exact hg6 | exact grew_trans (grew_drew (grew_refl _)) hg6 | exact grew_trans (grew_drew (grew_alloc _ _ _)) hg6 | exact grew_trans (grew_alloc _ _ _) hg6)
        have HGv2 : Hid (Grew wt v2) := grew_trans HGv1.out HS2.out
        (try have HW0 := Lib.hid (HW0.out.keep HS2.out))
        (try have HW1 : Hid (Own2 v2 v1.heap.size (.int .i64 0) (.slice none 0 0)) := (Own2.new v1 (.int .i64 0) (.slice none 0 0) 24 _ rfl).keep (by first | exact hg6 | exact grew_trans (grew_drew (grew_refl _)) hg6))
        (try obtain ⟨t0, t1, t2, t3, t4⟩ := HW0.out)
        (try obtain ⟨t0, t1, t2, t3, t4⟩ := HW1.out)
        refine hK.out _ _ ?_ (fun hHeld => ?_)
        · first
          | exact HS.out _ HGv2.out
        clear hK K
        try simp only [Act.put, List.setIfInBounds_toArray, List.set_cons_zero, List.set_cons_succ]
        (refine wpAnyH_take (i := 8) (oi := { dst := some 40, op := Op.move (Operand.tmp 48), type := 34, pos := "law.go:141", after := #[{ on := 7, ground := Ground.data }], guard := none }) (v := ?_) rfl (by kernel_rfl) (by kernel_rfl) (by kernel_rfl) (fun _ _ _ h => h) (Or.inl ⟨by rfl, ?_⟩) (by assumption) ?_; rotate_left; · (intro w hSw; (try dsimp only at hSw); go_simp; (first | done | with_reducible rfl)))
        try simp only [Act.put, List.setIfInBounds_toArray, List.set_cons_zero, List.set_cons_succ]
        (refine wpAnyH_take (i := 9) (oi := { dst := some 49, op := Op.extract (Operand.tmp 40) 0, type := 24, pos := "law.go:141", after := #[{ on := 8, ground := Ground.data }], guard := none }) (v := ?_) rfl (by kernel_rfl) (by kernel_rfl) (by kernel_rfl) (fun _ _ _ h => h) (Or.inl ⟨by rfl, ?_⟩) (by assumption) ?_; rotate_left; · (intro w hSw; (try dsimp only at hSw); go_simp; (first | done | with_reducible rfl)))
        try simp only [Act.put, List.setIfInBounds_toArray, List.set_cons_zero, List.set_cons_succ]
        (refine wpAnyH_take (i := 10) (oi := { dst := some 50, op := Op.extract (Operand.tmp 40) 1, type := 31, pos := "law.go:141", after := #[{ on := 8, ground := Ground.data }, { on := 12, ground := Ground.gcOnly Departure.lateStores }], guard := none }) (v := ?_) rfl (by kernel_rfl) (by kernel_rfl) (by kernel_rfl) (fun _ _ _ h => h) (Or.inl ⟨by rfl, ?_⟩) (by assumption) ?_; rotate_left; · (intro w hSw; (try dsimp only at hSw); go_simp; (first | done | with_reducible rfl)))
        try simp only [Act.put, List.setIfInBounds_toArray, List.set_cons_zero, List.set_cons_succ]
        refine wpAnyH_ready (rs := [12]) (by kernel_rfl) (by simp) ?_
        refine (AllReadyH.cons (o := { dst := none, op := Op.store 24 (Operand.tmp 9) (Operand.tmp 49), type := 0, pos := "law.go:141", after := #[{ on := 11, ground := Ground.data }, { on := 9, ground := Ground.data }, { on := 7, ground := Ground.chain }, { on := 0, ground := Ground.phase }, { on := 1, ground := Ground.phase }, { on := 2, ground := Ground.phase }, { on := 3, ground := Ground.phase }, { on := 4, ground := Ground.phase }, { on := 5, ground := Ground.phase }, { on := 6, ground := Ground.phase }, { on := 7, ground := Ground.phase }, { on := 8, ground := Ground.phase }, { on := 9, ground := Ground.phase }, { on := 10, ground := Ground.textOnly Departure.lateStores }, { on := 11, ground := Ground.phase }], guard := none }) rfl (fun K hK => ?_) AllReadyH.nil)
        go_simp
        refine hK.out _ _ ?_ (fun hHeld => ?_)
        · first
          | exact HS.out _ (grew_set (grew_set HGv2.out _ (Nat.le_refl _)) _ (Nat.le_refl _))
          | exact HS.out _ (grew_drew (grew_set (grew_set HGv2.out _ (Nat.le_refl _)) _ (Nat.le_refl _)))
          | exact HS.out _ (grew_set (grew_set HGv2.out _ HGv1.out.size) _ HGv1.out.size)
          | exact HS.out _ (grew_drew (grew_set (grew_set HGv2.out _ HGv1.out.size) _ HGv1.out.size))
          | exact HS.out _ (grew_trans HGv2.out (grew_refl _))
          | exact HS.out _ (grew_trans HGv2.out (grew_drew (grew_refl _)))
          | exact HS.out _ (grew_trans HGv2.out (grew_drew (grew_alloc _ _ _)))
          | exact HS.out _ (grew_trans HGv2.out (grew_alloc _ _ _))
          | (trace_state; fail)
        clear hK K
        try simp only [Act.put, List.setIfInBounds_toArray, List.set_cons_zero, List.set_cons_succ]
        (refine wpAnyH_take (i := 13) (oi := { dst := some 8, op := Op.assign (Operand.tmp 50), type := 31, pos := "law.go:141", after := #[{ on := 10, ground := Ground.data }, { on := 12, ground := Ground.chain }, { on := 0, ground := Ground.phase }, { on := 1, ground := Ground.phase }, { on := 2, ground := Ground.phase }, { on := 3, ground := Ground.phase }, { on := 4, ground := Ground.phase }, { on := 5, ground := Ground.phase }, { on := 6, ground := Ground.phase }, { on := 7, ground := Ground.phase }, { on := 8, ground := Ground.phase }, { on := 9, ground := Ground.phase }, { on := 10, ground := Ground.phase }, { on := 11, ground := Ground.phase }, { on := 12, ground := Ground.phase }], guard := none }) (v := ?_) rfl (by kernel_rfl) (by kernel_rfl) (by kernel_rfl) (fun _ _ _ h => h) (Or.inl ⟨by rfl, ?_⟩) (by assumption) ?_; rotate_left; · (intro w hSw; (try dsimp only at hSw); go_simp; (first | done | with_reducible rfl)))
        try simp only [Act.put, List.setIfInBounds_toArray, List.set_cons_zero, List.set_cons_succ]
        refine wpAnyH_done (by kernel_rfl) ?_ _
        clear hHeld
        first
          | (have hX : Own2 ((v2.setCell ⟨wt.heap.size, 0, none⟩ (.int .i64 (last + 2))).setCell ⟨wt.heap.size, 1, none⟩ (.slice A6 bl.length c6)) wt.heap.size (.int .i64 (last + 2)) (.slice A6 bl.length c6) ∧ (∀ u : Value, RowE enLg (((v2.setCell ⟨wt.heap.size, 0, none⟩ (.int .i64 (last + 2))).setCell ⟨wt.heap.size, 1, none⟩ (.slice A6 bl.length c6)).setCell ⟨wt.heap.size, 0, none⟩ u) A6 bl.length bl) ∧ RowE enLg ((v2.setCell ⟨wt.heap.size, 0, none⟩ (.int .i64 (last + 2))).setCell ⟨wt.heap.size, 1, none⟩ (.slice A6 bl.length c6)) A6 bl.length bl ∧ Grew wt ((v2.setCell ⟨wt.heap.size, 0, none⟩ (.int .i64 (last + 2))).setCell ⟨wt.heap.size, 1, none⟩ (.slice A6 bl.length c6)) ∧ wt.heap.size ≤ wt.heap.size := ⟨HW0.out.set _ _, fun u => (((hl6.set _ 0 _ HL0.out).set _ 1 _ HL0.out).set _ 0 u HL0.out).row, ((hl6.set _ 0 _ HL0.out).set _ 1 _ HL0.out).row, grew_set (grew_set HGv2.out _ (Nat.le_refl _)) _ (Nat.le_refl _), (Nat.le_refl _)⟩; (try clear t0 t1 t2 t3 t4); generalize ((v2.setCell ⟨wt.heap.size, 0, none⟩ (.int .i64 (last + 2))).setCell ⟨wt.heap.size, 1, none⟩ (.slice A6 bl.length c6)) = wF at *; generalize hTF : wt.heap.size = TF at *)
          | (have hX : Own2 ((v2.setCell ⟨v1.heap.size, 0, none⟩ (.int .i64 (last + 2))).setCell ⟨v1.heap.size, 1, none⟩ (.slice A6 bl.length c6)) v1.heap.size (.int .i64 (last + 2)) (.slice A6 bl.length c6) ∧ (∀ u : Value, RowE enLg (((v2.setCell ⟨v1.heap.size, 0, none⟩ (.int .i64 (last + 2))).setCell ⟨v1.heap.size, 1, none⟩ (.slice A6 bl.length c6)).setCell ⟨v1.heap.size, 0, none⟩ u) A6 bl.length bl) ∧ RowE enLg ((v2.setCell ⟨v1.heap.size, 0, none⟩ (.int .i64 (last + 2))).setCell ⟨v1.heap.size, 1, none⟩ (.slice A6 bl.length c6)) A6 bl.length bl ∧ Grew wt ((v2.setCell ⟨v1.heap.size, 0, none⟩ (.int .i64 (last + 2))).setCell ⟨v1.heap.size, 1, none⟩ (.slice A6 bl.length c6)) ∧ wt.heap.size ≤ v1.heap.size := ⟨HW1.out.set _ _, fun u => (((hl6.set _ 0 _ (by simp)).set _ 1 _ (by simp)).set _ 0 u (by simp)).row, ((hl6.set _ 0 _ (by simp)).set _ 1 _ (by simp)).row, grew_set (grew_set HGv2.out _ HGv1.out.size) _ HGv1.out.size, HGv1.out.size⟩; (try clear t0 t1 t2 t3 t4); generalize ((v2.setCell ⟨v1.heap.size, 0, none⟩ (.int .i64 (last + 2))).setCell ⟨v1.heap.size, 1, none⟩ (.slice A6 bl.length c6)) = wF at *; generalize hTF : v1.heap.size = TF at *)
          | (have hX : Own2 (v2.alloc (.cells #[.int .i64 (last + 2), (.slice A6 bl.length c6)] 24)) v2.heap.size (.int .i64 (last + 2)) (.slice A6 bl.length c6) ∧ (∀ u : Value, RowE enLg ((v2.alloc (.cells #[.int .i64 (last + 2), (.slice A6 bl.length c6)] 24)).setCell ⟨v2.heap.size, 0, none⟩ u) A6 bl.length bl) ∧ RowE enLg (v2.alloc (.cells #[.int .i64 (last + 2), (.slice A6 bl.length c6)] 24)) A6 bl.length bl ∧ Grew wt (v2.alloc (.cells #[.int .i64 (last + 2), (.slice A6 bl.length c6)] 24)) ∧ wt.heap.size ≤ v2.heap.size := ⟨Own2.new _ _ _ _ _ rfl, fun u => hl6.row.keep (grew_set (grew_alloc _ _ _) _ (Nat.le_refl _)), hl6.row.keep (grew_alloc _ _ _), grew_trans HGv2.out (grew_alloc _ _ _), HGv2.out.size⟩; (try clear t0 t1 t2 t3 t4); generalize (v2.alloc (.cells #[.int .i64 (last + 2), (.slice A6 bl.length c6)] 24)) = wF at *; generalize hTF : v2.heap.size = TF at *)
        have HX := Lib.hid hX
        obtain ⟨⟨u0, u1, uf0, uf1, ul⟩, -, -, hgX, hTX⟩ := hX
        obtain ⟨-, ⟨s0, s1⟩, -, hz2⟩ := HC.out wF (grew_trans HG4.out hgX)
        have hne : w1.heap.size ≠ TF := by have := HZ.out; omega
        have hne2 : TF ≠ w1.heap.size := Ne.symm hne
        have HXG := Lib.hid (fun u => (grew_set (grew_trans HG4.out HX.out.2.2.2.1) u (p := ⟨TF, 0, none⟩) (by show _ ≤ TF; have := HG4.out.size; have := HX.out.2.2.2.2; omega) : Grew w2 (wF.setCell ⟨TF, 0, none⟩ u)))
        clear hl6 hr5 hn5 hgX hTX
        go_wp2_with (first
          | (go_at_call 17; ((with_reducible refine (keep_yes last A6 A1 bl.length c6 c1 bl _ (HX.out.2.1 _) ((HLk.out _ (HXG.out _)).row) (by have := HL.out.len; omega)).mono ?_); rintro e w8 ⟨rfl, hg⟩; have HG8 := Lib.hid (grew_trans HGW.out (grew_trans (HXG.out _) hg)); clear hg))
          | (go_at_call 21; ((with_reducible refine (WK _).mono ?_); rintro e w9 ⟨rfl, hg⟩; have HG9 := Lib.hid (grew_trans HG8.out hg); clear hg)))
        go_ret
        exact ⟨rfl, HG9.out⟩
    · have CPn := fun w' g => (CP w' g).mono fun e w'' h => postR_no h0 h
      clear CP
      unfold ldV at CPn
      generalize postE last bl (last + 1) pl = pe at *
      have d1 : (pe != 0) = true := by simpa using h0
      go_wp2_with (first
        | (go_at_call 15; ((with_reducible refine (CPn _ (grew_refl _)).mono ?_); rintro e w3 ⟨A2, c2, rfl, hn, hg⟩; have HG3 := Lib.hid hg; clear hg hn CPn))
        | (go_at_call 21; ((with_reducible refine (WK _).mono ?_); rintro e w9 ⟨rfl, hg⟩; have HG9 := Lib.hid (grew_trans HGW.out (grew_trans HG3.out (grew_trans (grew_alloc _ _ _) hg))); clear hg)))
      go_ret
      exact ⟨rfl, HG9.out⟩
  · have CH := fun w' (g : Grew w w') => heavy_not (c := c) (HA.out.keep g) hf
    clear h h2 hB hf
    go_enter Try.func6, Try.ntmps6
    go_wp2_with (go_at_call 22; ((with_reducible refine (CH _ (grew_alloc _ _ _)).mono ?_); rintro e w1 ⟨rfl, rfl⟩; clear CH))
    go_ret
    exact ⟨rfl, grew_alloc _ _ _⟩
theorem ledgerTurns_row {cs : Array Value} {x : Int × List Lg} (A : Option Addr) (n c : Nat) (l : List Ld) (w : World) (h : Posts w A n l) (e : spLd.rd w cs.toList x) :
    Calls Try.prog 6 #[.slice A n c, .agg cs] w fun e w' => e = .returned (.bool true) ∧ Grew w w' := by
  obtain ⟨B, m, d, e1, hi⟩ := ld_of e
  rw [e1]
  exact ledgerTurns_walk A n c l x.1 B m d x.2 w h hi.row hi.nil hi.max
end Go.Proofs.Ytafglljfgoeapaa.NumK
namespace Go.Proofs.Ytafglljfgoeapaa.ledgerTurns
open Go.ChangeShapes Go.WideShapes Go.ChangeAt Go.RowKit
set_option linter.unusedVariables false

theorem own : ownKnob Try.prog.godebug = none := by kernel_rfl
theorem laidOut : laidOutB Try.prog = true := by kernel_rfl

set_option maxRecDepth 100000 in
theorem lifted (os : Os) (started : os.Started) (H : Type) (enc : TypeId × Value → H) :
    ReturnsInHanded {} Try.checked os 6 .any (Rows.ledgerTurnsSpec.pre6 enc Try.prog Try.f6 Rows.ledgerTurnsRow.domain false) (Rows.ledgerTurnsSpec.post enc Try.prog Try.f6 false true false false) := by
  refine returnsInHanded_of_change (C := Try.checked) own started (by kernel_rfl) Try.func6
    (ChangeSpec.witness6 (enc := enc) (C := Try.checked) false ⟨#[], #[.slice none 0 0, .agg #[.int .i64 0, .slice none 0 0]], []⟩ 8 (by kernel_rfl) (by kernel_rfl) (by kernel_rfl) (by kernel_rfl)) ?_
  intro W base args ds gs before hval0 hW hcnd _
  have hval : ∀ (j : Nat) t v, Try.f6.params[j]? = some t → args[j]? = some v → Value.okWide Try.prog W .any base t v := hval0
  have hW' := hW
  obtain ⟨p, q, hA0, hV, rfl, hfz, hnd⟩ := hW
  have hA : DataW.TrodAll enc Try.prog W 0 (fun _ => true) true Try.f6.params.toList args.toList ds p := hA0
  skip
  rw [Try.params6] at hA hval
  obtain ⟨v0, vs0, d0, ds0, p0, q0, hargs, rfl, rfl, h0, r0⟩ := trodAll_cons hA
  obtain ⟨v1, vs1, d1, ds1, p1, q1, rfl, rfl, rfl, h1, r1⟩ := trodAll_cons r0
  obtain ⟨rfl, rfl, rfl⟩ := trodAll_nil r1
  obtain rfl : args = #[v0, v1] := by cases args; simp_all
  obtain ⟨rfl, rfl⟩ := trodVars_none hV
  have k0 := h0
  have lt0 : ∀ x ∈ p0, x.block < W.heap.size := by obtain ⟨m, hm⟩ := k0; exact DataW.trod_lt m _ _ _ hm
  obtain ⟨A0, len0, cap0, l0, rfl, ro0, n0, c0, m0⟩ := NumK.arg_slice Try.underlying45 NumK.opens_posts (hval 0 45 v0 rfl rfl) h0
  have k1 := h1
  have lt1 : ∀ x ∈ p1, x.block < W.heap.size := by obtain ⟨m, hm⟩ := k1; exact DataW.trod_lt m _ _ _ hm
  obtain ⟨cs1, x1, rfl, e1⟩ := NumK.arg_struct Try.underlying50 NumK.opens_post (hval 1 50 v1 rfl rfl) h1
  clear hA0 hval0
  refine (NumK.ledgerTurns_row A0 len0 cap0 l0 W (NumK.posts_of_row ro0) e1).mono fun e W' ⟨he, bel⟩ => ?_
  subst he
  exact ⟨_, rfl, _, _, _, [], _, [], hW', trodAll_mk1 (shut_bool Try.underlying4 _), (trodAll_cons_mk (Below.trod laidOut (by kernel_rfl) (of_decide_eq_true (by kernel_rfl)) k0 bel lt0) (trodAll_cons_mk (Below.trod laidOut (by kernel_rfl) (of_decide_eq_true (by kernel_rfl)) k1 bel lt1) trodAll_mk0)), rfl, bel.frame _, fun h => by cases h⟩

theorem over : Rows.ledgerTurnsRow.holds Try.pinned (OpenSpec.ofChange Rows.ledgerTurnsSpec) :=
  OpenClaim.holds_of_wide 6 Try.f6 rfl rfl rfl rfl rfl rfl rfl ⟨rfl, rfl, rfl, rfl, rfl⟩ rfl rfl rfl rfl rfl (by kernel_rfl) Try.func6 (by kernel_rfl)
    (of_decide_eq_true (by kernel_rfl)) (by unfold Func.isWrapper; first | (rw [if_pos (by decide +kernel)]; kernel_rfl) | (rw [if_neg (by decide +kernel)]; exact ⟨rfl, rfl⟩))
    (fun os started H enc _ => lifted os started H enc)

/-! ### the statement -/
theorem proved : Rows.LedgerTurnsSaid := over
end Go.Proofs.Ytafglljfgoeapaa.ledgerTurns
