/- book.Correct. -/
import Derived.Test.YtahioajpmlochaaGreatRH23
import Derived.Test.YtahioajpmlochaaGreatRH18
import Derived.Test.YtahioajpmlochaaGreatRH3
import Derived.Test.YtahioajpmlochaaGreatRH20
import Derived.Test.YtahioajpmlochaaGreatRH11
namespace Go.Proofs.YtahioajpmlochaaGreat.NumK
open Go.RowKit
set_option linter.unusedVariables false

theorem OwnB.put {w : World} {base b2 : Nat} {b : Bk} {A1 A2 : Option Addr} {c1 c2 : Nat} (h : OwnB w base b A1 A2 c1 c2) (hb : b2 < base) (vs : List Value) : OwnB (putC w b2 0 vs) base b A1 A2 c1 c2 := ⟨OwnE.put hb vs 0 _ h.t, OwnE.put hb vs 0 _ h.p, h.ne⟩
theorem OwnB.setO {w : World} {base : Nat} {b : Bk} {A1 A2 : Option Addr} {c1 c2 : Nat} (h : OwnB w base b A1 A2 c1 c2) {t : Nat} (h1 : ∀ x, A1 = some x → x.block ≠ t) (h2 : ∀ x, A2 = some x → x.block ≠ t) (b2 i : Nat) (u : Value) (e : b2 = t) : OwnB (w.setCell ⟨b2, i, none⟩ u) base b A1 A2 c1 c2 := by
  subst e
  exact ⟨h.t.setO _ i u fun g hg => by obtain ⟨x, hx, rfl⟩ := own_addr hg; exact h1 x hx, h.p.setO _ i u fun g hg => by obtain ⟨x, hx, rfl⟩ := own_addr hg; exact h2 x hx, h.ne⟩
theorem OwnB.putN {w : World} {base b2 : Nat} {b : Bk} {A1 A2 : Option Addr} {c1 c2 : Nat} (h : OwnB w base b A1 A2 c1 c2) (h1 : ∀ x, A1 = some x → x.block ≠ b2) (h2 : ∀ x, A2 = some x → x.block ≠ b2) (vs : List Value) : OwnB (putC w b2 0 vs) base b A1 A2 c1 c2 :=
  ⟨h.t.putN (fun g hg => by obtain ⟨x, hx, rfl⟩ := own_addr hg; exact h1 x hx) vs 0 _, h.p.putN (fun g hg => by obtain ⟨x, hx, rfl⟩ := own_addr hg; exact h2 x hx) vs 0 _, h.ne⟩
theorem cancel_len {b : Bk} {no : Int} (h : cancelE b no = 0) : (cancelB b no).2.1.length = b.2.1.length ∧ (cancelB b no).2.2.length ≤ 128 := by
  rw [cancelB_ok h]
  exact ⟨off_len _ _, plA_len _⟩
theorem corr_no {b : Bk} {no q p : Int} (h : cancelE b no ≠ 0) {w : World} : ∀ w', Grew w w' → BookN (corrB b no q p) (corrN b no q p) (corrE b no q p) w (.returned (.tuple #[.agg #[.int .i64 0, .slice none 0 0, .slice none 0 0], .int .i64 0, .int .i64 (cancelE b no)])) w' := fun w' g => by
  have h1 : corrE b no q p = cancelE b no := by unfold corrE; rw [if_neg h]
  have h2 : corrB b no q p = bk0 := by unfold corrB; rw [if_neg h]
  have h3 : corrN b no q p = 0 := by unfold corrN; rw [if_neg h]
  rw [h1]
  exact bookN_no h2 h3 g

set_option maxRecDepth 100000 in
set_option maxHeartbeats 8000000 in
theorem corr_any (b : Bk) (no qq pp : Int) (A1 A2 : Option Addr) (n1 n2 c1 c2 : Nat) (w : World) (h : InB w b A1 A2 n1 n2 c1 c2) (hn : n1 ≤ 10000 ∧ n2 ≤ 10000) :
    Calls Tryz.prog 28 #[vBk b.1 A1 A2 n1 n2 c1 c2, .int .i64 no, .int .i64 qq, .int .i64 pp] w (BookN (corrB b no qq pp) (corrN b no qq pp) (corrE b no qq pp) w) := by
  have CC := fun w' (g : Grew w w') => cancel_any b no A1 A2 n1 n2 c1 c2 w' (h.keep g) hn
  unfold BookE at CC
  by_cases he : cancelE b no = 0
  · rw [he] at CC
    have hany := (cancelE_ok.1 he).2.1
    obtain ⟨i, hix⟩ : ∃ i, ixT b.2.1 no = some i := by
      cases hx : ixT b.2.1 no with
      | some i => exact ⟨i, rfl⟩
      | none => rw [ixT_none hx] at hany; cases hany
    obtain ⟨i1, -, i3, -⟩ := ixT_some hix
    have CS := fun w' (g : Grew w w') => standing_any b A1 A2 n1 n2 c1 c2 no w' (h.keep g) (by omega)
    unfold ixV at CS
    rw [hix] at CS
    dsimp only at CS
    have hcl := cancel_len he
    have CE := fun (A' A'' : Option Addr) (c' c'' : Nat) w' (ho : InB w' (cancelB b no) A' A'' (cancelB b no).2.1.length (cancelB b no).2.2.length c' c'') => enter_any (cancelB b no) (termsT (theT b.2.1 no) qq pp) A' A'' (cancelB b no).2.1.length (cancelB b no).2.2.length c' c'' w' ho ⟨by rw [hcl.1, h.t.len]; exact hn.1, by omega⟩
    unfold BookN at CE
    have HYES : Hid (∀ w' A A' c c', OwnB w' w.heap.size (enterB (cancelB b no) (termsT (theT b.2.1 no) qq pp)) A A' c c' → Grew w w' → BookN (corrB b no qq pp) (corrN b no qq pp) (corrE b no qq pp) w (.returned (.tuple #[vBk (enterB (cancelB b no) (termsT (theT b.2.1 no) qq pp)).1 A A' (enterB (cancelB b no) (termsT (theT b.2.1 no) qq pp)).2.1.length (enterB (cancelB b no) (termsT (theT b.2.1 no) qq pp)).2.2.length c c', .int .i64 (enterN (cancelB b no) (termsT (theT b.2.1 no) qq pp)), .int .i64 (enterE (cancelB b no) (termsT (theT b.2.1 no) qq pp))])) w') := fun w' A A' c c' ho g => by
      have h1 : corrE b no qq pp = enterE (cancelB b no) (termsT (theT b.2.1 no) qq pp) := by unfold corrE; rw [if_pos he]
      have h2 : corrB b no qq pp = enterB (cancelB b no) (termsT (theT b.2.1 no) qq pp) := by unfold corrB; rw [if_pos he]
      have h3 : corrN b no qq pp = enterN (cancelB b no) (termsT (theT b.2.1 no) qq pp) := by unfold corrN; rw [if_pos he]
      rw [h1, h2, h3]
      exact ⟨A, A', c, c', rfl, ho, g⟩
    have hin : i < n1 := by rw [← h.t.len]; exact i1
    obtain ⟨bb, o, rfl, hbb, hcc⟩ := h.t.tr hin
    have HTC : Hid (∀ w', Grew w w' → CTr w' bb (o + i * 7) (b.2.1.getD i tr0)) := fun w' g => (hcc i hin).keep g hbb
    rw [i3] at CE HYES
    clear hcc hbb h he hany hix hcl i3
    have k0 : (0 : Int) ≤ (i : Int) := by omega
    have k1 : (i : Int) < (n1 : Int) := by omega
    generalize BookN (corrB b no qq pp) (corrN b no qq pp) (corrE b no qq pp) w = PP at *
    generalize cancelB b no = cb at *
    obtain ⟨cx, lc, pc⟩ := cb
    generalize b.2.1.getD i tr0 = tt at *
    obtain ⟨⟨q1, q2, q3, q4, q5, q6⟩, q7⟩ := tt
    have HTM : Hid (termsT ((q1, q2, q3, q4, q5, q6), q7) qq pp = ((q1, q2, q3, q4, qq, pp), q7)) := rfl
    rw [HTM.out] at CE HYES
    generalize enterE (cx, lc, pc) ((q1, q2, q3, q4, qq, pp), q7) = ee at *
    generalize enterN (cx, lc, pc) ((q1, q2, q3, q4, qq, pp), q7) = en at *
    generalize enterB (cx, lc, pc) ((q1, q2, q3, q4, qq, pp), q7) = eb at *
    obtain ⟨ex, el, ep⟩ := eb
    dsimp only [vBk, vTr] at CC CE CS HYES
    dsimp only [vBk] at *
    generalize b.1 = nx at *
    have HX0 : Hid (OwnC ((w.alloc (.cells #[.int .i64 nx, .slice (some ⟨bb, o, none⟩) n1 c1, .slice A2 n2 c2] 28)).alloc (.cells #[.int .i64 0, .slice none 0 0, .slice none 0 0] 28)) w.heap.size [.int .i64 nx, .slice (some ⟨bb, o, none⟩) n1 c1, .slice A2 n2 c2]) := (OwnC.new w [.int .i64 nx, .slice (some ⟨bb, o, none⟩) n1 c1, .slice A2 n2 c2] _ _ rfl).keep (grew_alloc _ _ _)
    have HZ0 : Hid (OwnC ((w.alloc (.cells #[.int .i64 nx, .slice (some ⟨bb, o, none⟩) n1 c1, .slice A2 n2 c2] 28)).alloc (.cells #[.int .i64 0, .slice none 0 0, .slice none 0 0] 28)) (w.heap.size + 1) [.int .i64 0, .slice none 0 0, .slice none 0 0]) := OwnC.new _ [.int .i64 0, .slice none 0 0, .slice none 0 0] _ _ (by simp)
    have HG0 : Hid (Grew w ((w.alloc (.cells #[.int .i64 nx, .slice (some ⟨bb, o, none⟩) n1 c1, .slice A2 n2 c2] 28)).alloc (.cells #[.int .i64 0, .slice none 0 0, .slice none 0 0] 28))) := grew_trans (grew_alloc _ _ _) (grew_alloc _ _ _)
    go_enter Tryz.func28, Tryz.ntmps28
    go_upto_region 1 with fail
    generalize (w.alloc (.cells #[.int .i64 nx, .slice (some ⟨bb, o, none⟩) n1 c1, .slice A2 n2 c2] 28)).alloc (.cells #[.int .i64 0, .slice none 0 0, .slice none 0 0] 28) = w0 at *
    have x0 : w0.cell? ⟨w.heap.size, 0, none⟩ = some (.int .i64 nx) := HX0.out.at 0 _ rfl
    have x1 : w0.cell? ⟨w.heap.size, 1, none⟩ = some (.slice (some ⟨bb, o, none⟩) n1 c1) := HX0.out.at 1 _ rfl
    have x2 : w0.cell? ⟨w.heap.size, 2, none⟩ = some (.slice A2 n2 c2) := HX0.out.at 2 _ rfl
    go_upto_region 4 with (go_at_call 27; ((with_reducible refine (CC _ HG0.out).mono ?_); rintro e w3 ⟨A', A'', c', c'', rfl, hb, hg⟩; have HB3 := Lib.hid hb; have HG3 := Lib.hid (grew_trans HG0.out hg); have HX3 := Lib.hid (HX0.out.keep hg); have HZ3 := Lib.hid (HZ0.out.keep hg); have hs3 : w.heap.size + 2 ≤ w3.heap.size := (by have h9 := HZ3.out.lt; omega); clear hb hg CC x0 x1 x2))
    have HE4 := Lib.hid (OwnC.new w3 [.int .i64 cx, .slice A' lc.length c', .slice A'' pc.length c''] 28 _ rfl)
    have HX4 := Lib.hid (HX3.out.keep (grew_alloc w3 #[.int .i64 cx, .slice A' lc.length c', .slice A'' pc.length c''] 28))
    have HZ4 := Lib.hid (HZ3.out.keep (grew_alloc w3 #[.int .i64 cx, .slice A' lc.length c', .slice A'' pc.length c''] 28))
    have HB4 := Lib.hid (HB3.out.keep (grew_alloc w3 #[.int .i64 cx, .slice A' lc.length c', .slice A'' pc.length c''] 28))
    have HG4 := Lib.hid (grew_trans HG3.out (grew_alloc w3 #[.int .i64 cx, .slice A' lc.length c', .slice A'' pc.length c''] 28))
    generalize w3.alloc (.cells #[.int .i64 cx, .slice A' lc.length c', .slice A'' pc.length c''] 28) = w4 at *
    have hE4 := HE4.out.lt
    generalize w3.heap.size = E at *
    clear HX3 HZ3 HB3 HG3
    have HSO : Hid (∀ w', OwnC w' (w.heap.size) [.int .i64 nx, .slice (some ⟨bb, o, none⟩) n1 c1, .slice A2 n2 c2] → CTr w' bb (o + i * 7) ((q1, q2, q3, q4, q5, q6), q7) → (w'.cell? ⟨w.heap.size, 0, none⟩ = some (.int .i64 nx) ∧ w'.cell? ⟨w.heap.size, 1, none⟩ = some (.slice (some ⟨bb, o, none⟩) n1 c1) ∧ w'.cell? ⟨w.heap.size, 2, none⟩ = some (.slice A2 n2 c2) ∧ w'.cell? ⟨bb, o + i * 7, none⟩ = some (.int .i64 q1) ∧ w'.cell? ⟨bb, o + i * 7 + 1, none⟩ = some (.int .i64 q2) ∧ w'.cell? ⟨bb, o + i * 7 + 2, none⟩ = some (.int .i64 q3) ∧ w'.cell? ⟨bb, o + i * 7 + 3, none⟩ = some (.int .i64 q4) ∧ w'.cell? ⟨bb, o + i * 7 + 4, none⟩ = some (.int .i64 q5) ∧ w'.cell? ⟨bb, o + i * 7 + 5, none⟩ = some (.int .i64 q6) ∧ w'.cell? ⟨bb, o + i * 7 + 6, none⟩ = some (.bool q7))) := fun w' hx ht => ⟨hx.at 0 _ rfl, hx.at 1 _ rfl, hx.at 2 _ rfl, ht.1, ht.2.1, ht.2.2.1, ht.2.2.2.1, ht.2.2.2.2.1, ht.2.2.2.2.2.1, ht.2.2.2.2.2.2⟩
    have HS : Hid (∀ w', Grew w4 w' → (w'.cell? ⟨w.heap.size, 0, none⟩ = some (.int .i64 nx) ∧ w'.cell? ⟨w.heap.size, 1, none⟩ = some (.slice (some ⟨bb, o, none⟩) n1 c1) ∧ w'.cell? ⟨w.heap.size, 2, none⟩ = some (.slice A2 n2 c2) ∧ w'.cell? ⟨bb, o + i * 7, none⟩ = some (.int .i64 q1) ∧ w'.cell? ⟨bb, o + i * 7 + 1, none⟩ = some (.int .i64 q2) ∧ w'.cell? ⟨bb, o + i * 7 + 2, none⟩ = some (.int .i64 q3) ∧ w'.cell? ⟨bb, o + i * 7 + 3, none⟩ = some (.int .i64 q4) ∧ w'.cell? ⟨bb, o + i * 7 + 4, none⟩ = some (.int .i64 q5) ∧ w'.cell? ⟨bb, o + i * 7 + 5, none⟩ = some (.int .i64 q6) ∧ w'.cell? ⟨bb, o + i * 7 + 6, none⟩ = some (.bool q7))) := fun w' g => HSO.out _ (HX4.out.keep g) (HTC.out _ (grew_trans HG4.out g))
    have HS2a := HS.out _ (grew_drew (grew_alloc w4 #[.int .i64 0, .int .i64 0, .int .i64 0, .int .i64 0, .int .i64 0, .int .i64 0, .bool false] 50))
    refine wp_region_noPanic ?_
    refine wp_region_held_drew (S := fun w' => w'.cell? ⟨w.heap.size, 0, none⟩ = some (.int .i64 nx) ∧ w'.cell? ⟨w.heap.size, 1, none⟩ = some (.slice (some ⟨bb, o, none⟩) n1 c1) ∧ w'.cell? ⟨w.heap.size, 2, none⟩ = some (.slice A2 n2 c2) ∧ w'.cell? ⟨bb, o + i * 7, none⟩ = some (.int .i64 q1) ∧ w'.cell? ⟨bb, o + i * 7 + 1, none⟩ = some (.int .i64 q2) ∧ w'.cell? ⟨bb, o + i * 7 + 2, none⟩ = some (.int .i64 q3) ∧ w'.cell? ⟨bb, o + i * 7 + 3, none⟩ = some (.int .i64 q4) ∧ w'.cell? ⟨bb, o + i * 7 + 4, none⟩ = some (.int .i64 q5) ∧ w'.cell? ⟨bb, o + i * 7 + 5, none⟩ = some (.int .i64 q6) ∧ w'.cell? ⟨bb, o + i * 7 + 6, none⟩ = some (.bool q7)) (by kernel_rfl) (HS.out _ (grew_drew (grew_refl _))) (fun hHeld => ?_)
    (refine wpAnyH_take (i := 0) (oi := { dst := some 24, op := Op.fieldAddr 28 (Operand.tmp 4) 1, type := 0, pos := "book.go:102", after := #[], guard := none }) (v := ?_) rfl (by kernel_rfl) (by kernel_rfl) (by kernel_rfl) (fun _ _ _ h => h) (Or.inl ⟨by rfl, ?_⟩) (by assumption) ?_; rotate_left; · (intro w hSw; (try dsimp only at hSw); go_simp; (first | done | with_reducible rfl)))
    try simp only [Act.put, List.setIfInBounds_toArray, List.set_cons_zero, List.set_cons_succ]
    (refine wpAnyH_take (i := 1) (oi := { dst := some 25, op := Op.load 25 (Operand.tmp 24), type := 25, pos := "book.go:102", after := #[{ on := 0, ground := Ground.data }], guard := none }) (v := ?_) rfl (by kernel_rfl) (by kernel_rfl) (by kernel_rfl) (fun _ _ _ h => h) (Or.inl ⟨by rfl, ?_⟩) (by assumption) ?_; rotate_left; · (intro w hSw; (try dsimp only at hSw); go_simp; (first | done | with_reducible rfl)))
    try simp only [Act.put, List.setIfInBounds_toArray, List.set_cons_zero, List.set_cons_succ]
    (refine wpAnyH_take (i := 2) (oi := { dst := some 26, op := Op.load 28 (Operand.tmp 4), type := 28, pos := "book.go:102", after := #[], guard := none }) (v := ?_) rfl (by kernel_rfl) (by kernel_rfl) (by kernel_rfl) (fun _ _ _ h => h) (Or.inl ⟨by rfl, ?_⟩) (by assumption) ?_; rotate_left; · (intro w hSw; (try dsimp only at hSw); go_simp; (first | done | with_reducible rfl)))
    try simp only [Act.put, List.setIfInBounds_toArray, List.set_cons_zero, List.set_cons_succ]
    (refine wpAnyH_take (i := 3) (oi := { dst := some 27, op := Op.move (Operand.tmp 1), type := 3, pos := "book.go:102", after := #[], guard := none }) (v := ?_) rfl (by kernel_rfl) (by kernel_rfl) (by kernel_rfl) (fun _ _ _ h => h) (Or.inl ⟨by rfl, ?_⟩) (by assumption) ?_; rotate_left; · (intro w hSw; (try dsimp only at hSw); go_simp; (first | done | with_reducible rfl)))
    try simp only [Act.put, List.setIfInBounds_toArray, List.set_cons_zero, List.set_cons_succ]
    refine wpAnyH_ready (rs := [4, 7]) (by kernel_rfl) (by simp) ?_
    refine (AllReadyH.cons (o := { dst := some 28, op := Op.call { callee := Callee.value (Operand.func 51), args := #[Operand.tmp 26, Operand.tmp 27], argTypes := #[28, 3] }, type := 3, pos := "book.go:102", after := #[{ on := 2, ground := Ground.data }, { on := 3, ground := Ground.data }], guard := none }) rfl (fun K hK => ?_) (AllReadyH.cons (o := { dst := some 13, op := Op.alloc 50, type := 0, pos := "book.go:102", after := #[], guard := none }) rfl (fun K hK => ?_) AllReadyH.nil))
    · go_simp
      (go_at_call 51; (with_reducible refine (CS _ (grew_trans HG4.out (by repeat (first | exact grew_refl _ | refine grew_drew ?_ | refine grew_trans ?_ (grew_alloc _ _ _))))).mono ?_); rintro e w5 ⟨rfl, hg⟩; have HR5 := Lib.hid hg; have HG5 : Hid (Grew w4 w5) := grew_trans (by repeat (first | exact grew_refl _ | refine grew_drew ?_ | refine grew_trans ?_ (grew_alloc _ _ _))) hg; have HS5 := HS.out _ HG5.out; have HS5a := HS.out _ (grew_trans HG5.out (grew_alloc w5 #[.int .i64 0, .int .i64 0, .int .i64 0, .int .i64 0, .int .i64 0, .int .i64 0, .bool false] 50)); have hs5 : w4.heap.size ≤ w5.heap.size := HG5.out.size; clear hg)
      refine hK.out _ _ ?_ (fun hHeld => ?_)
      · first
        | exact HS5
      clear hK K
      try simp only [Act.put, List.setIfInBounds_toArray, List.set_cons_zero, List.set_cons_succ]
      (refine wpAnyH_take (i := 5) (oi := { dst := some 29, op := Op.indexAddr 25 (Operand.tmp 25) (Operand.tmp 28), type := 0, pos := "book.go:102", after := #[{ on := 1, ground := Ground.data }, { on := 4, ground := Ground.data }], guard := none }) (v := ?_) rfl (by kernel_rfl) (by kernel_rfl) (by kernel_rfl) (fun _ _ _ h => h) (Or.inl ⟨by rfl, ?_⟩) (by assumption) ?_; rotate_left; · (intro w hSw; (try dsimp only at hSw); go_simp; (first | done | with_reducible rfl)))
      try simp only [Act.put, List.setIfInBounds_toArray, List.set_cons_zero, List.set_cons_succ]
      (refine wpAnyH_take (i := 6) (oi := { dst := some 30, op := Op.load 50 (Operand.tmp 29), type := 50, pos := "book.go:102", after := #[{ on := 5, ground := Ground.data }], guard := none }) (v := ?_) rfl (by kernel_rfl) (by kernel_rfl) (by kernel_rfl) (fun _ _ _ h => h) (Or.inl ⟨by rfl, ?_⟩) (by assumption) ?_; rotate_left; · (intro w hSw; (try dsimp only at hSw); go_simp; (first | done | with_reducible rfl)))
      try simp only [Act.put, List.setIfInBounds_toArray, List.set_cons_zero, List.set_cons_succ]
      refine wpAnyH_ready (rs := [7]) (by kernel_rfl) (by simp) ?_
      refine (AllReadyH.cons (o := { dst := some 13, op := Op.alloc 50, type := 0, pos := "book.go:102", after := #[], guard := none }) rfl (fun K hK => ?_) AllReadyH.nil)
      go_simp
      refine hK.out _ _ ?_ (fun hHeld => ?_)
      · first
        | exact HS2a
        | exact HS5a
      clear hK K
      try simp only [Act.put, List.setIfInBounds_toArray, List.set_cons_zero, List.set_cons_succ]
      refine wpAnyH_ready (rs := [8]) (by kernel_rfl) (by simp) ?_
      refine (AllReadyH.cons (o := { dst := none, op := Op.store 50 (Operand.tmp 13) (Operand.tmp 30), type := 0, pos := "book.go:102", after := #[{ on := 7, ground := Ground.data }, { on := 6, ground := Ground.data }, { on := 4, ground := Ground.chain }, { on := 0, ground := Ground.phase }, { on := 1, ground := Ground.phase }, { on := 2, ground := Ground.phase }, { on := 3, ground := Ground.phase }, { on := 4, ground := Ground.phase }, { on := 5, ground := Ground.phase }, { on := 6, ground := Ground.phase }, { on := 7, ground := Ground.phase }], guard := none }) rfl (fun K hK => ?_) AllReadyH.nil)
      first
        | (have HEB := (OwnC.new w4 [.int .i64 0, .int .i64 0, .int .i64 0, .int .i64 0, .int .i64 0, .int .i64 0, .bool false] 50 _ rfl).keep (grew_trans (grew_drew (grew_refl _)) HR5.out); have e0 : w5.cell? ⟨w4.heap.size, 0, none⟩ = some (.int .i64 0) := HEB.at 0 _ rfl; have g0 : w5.frozen? ⟨w4.heap.size, 0, none⟩ = false := HEB.fr 0 (by show 0 < 7; omega); have e1 : w5.cell? ⟨w4.heap.size, 1, none⟩ = some (.int .i64 0) := HEB.at 1 _ rfl; have g1 : w5.frozen? ⟨w4.heap.size, 1, none⟩ = false := HEB.fr 1 (by show 1 < 7; omega); have e2 : w5.cell? ⟨w4.heap.size, 2, none⟩ = some (.int .i64 0) := HEB.at 2 _ rfl; have g2 : w5.frozen? ⟨w4.heap.size, 2, none⟩ = false := HEB.fr 2 (by show 2 < 7; omega); have e3 : w5.cell? ⟨w4.heap.size, 3, none⟩ = some (.int .i64 0) := HEB.at 3 _ rfl; have g3 : w5.frozen? ⟨w4.heap.size, 3, none⟩ = false := HEB.fr 3 (by show 3 < 7; omega); have e4 : w5.cell? ⟨w4.heap.size, 4, none⟩ = some (.int .i64 0) := HEB.at 4 _ rfl; have g4 : w5.frozen? ⟨w4.heap.size, 4, none⟩ = false := HEB.fr 4 (by show 4 < 7; omega); have e5 : w5.cell? ⟨w4.heap.size, 5, none⟩ = some (.int .i64 0) := HEB.at 5 _ rfl; have g5 : w5.frozen? ⟨w4.heap.size, 5, none⟩ = false := HEB.fr 5 (by show 5 < 7; omega); have e6 : w5.cell? ⟨w4.heap.size, 6, none⟩ = some (.bool false) := HEB.at 6 _ rfl; have g6 : w5.frozen? ⟨w4.heap.size, 6, none⟩ = false := HEB.fr 6 (by show 6 < 7; omega); clear HEB; have HKEEP := HSO.out ((((((((w5).setCell ⟨w4.heap.size, 0, none⟩ (.int .i64 q1)).setCell ⟨w4.heap.size, 1, none⟩ (.int .i64 q2)).setCell ⟨w4.heap.size, 2, none⟩ (.int .i64 q3)).setCell ⟨w4.heap.size, 3, none⟩ (.int .i64 q4)).setCell ⟨w4.heap.size, 4, none⟩ (.int .i64 q5)).setCell ⟨w4.heap.size, 5, none⟩ (.int .i64 q6)).setCell ⟨w4.heap.size, 6, none⟩ (.bool q7)) (OwnC.other (OwnC.other (OwnC.other (OwnC.other (OwnC.other (OwnC.other (OwnC.other (HX4.out.keep HG5.out) ⟨w4.heap.size, 0, none⟩ (.int .i64 q1) (by show w4.heap.size ≠ w.heap.size; omega)) ⟨w4.heap.size, 1, none⟩ (.int .i64 q2) (by show w4.heap.size ≠ w.heap.size; omega)) ⟨w4.heap.size, 2, none⟩ (.int .i64 q3) (by show w4.heap.size ≠ w.heap.size; omega)) ⟨w4.heap.size, 3, none⟩ (.int .i64 q4) (by show w4.heap.size ≠ w.heap.size; omega)) ⟨w4.heap.size, 4, none⟩ (.int .i64 q5) (by show w4.heap.size ≠ w.heap.size; omega)) ⟨w4.heap.size, 5, none⟩ (.int .i64 q6) (by show w4.heap.size ≠ w.heap.size; omega)) ⟨w4.heap.size, 6, none⟩ (.bool q7) (by show w4.heap.size ≠ w.heap.size; omega)) (HTC.out _ (grew_set (grew_set (grew_set (grew_set (grew_set (grew_set (grew_set (grew_trans HG4.out HG5.out) (p := ⟨w4.heap.size, 0, none⟩) (.int .i64 q1) (by show w.heap.size ≤ w4.heap.size; omega)) (p := ⟨w4.heap.size, 1, none⟩) (.int .i64 q2) (by show w.heap.size ≤ w4.heap.size; omega)) (p := ⟨w4.heap.size, 2, none⟩) (.int .i64 q3) (by show w.heap.size ≤ w4.heap.size; omega)) (p := ⟨w4.heap.size, 3, none⟩) (.int .i64 q4) (by show w.heap.size ≤ w4.heap.size; omega)) (p := ⟨w4.heap.size, 4, none⟩) (.int .i64 q5) (by show w.heap.size ≤ w4.heap.size; omega)) (p := ⟨w4.heap.size, 5, none⟩) (.int .i64 q6) (by show w.heap.size ≤ w4.heap.size; omega)) (p := ⟨w4.heap.size, 6, none⟩) (.bool q7) (by show w.heap.size ≤ w4.heap.size; omega))))
        | (have HKEEP := HS.out _ (grew_trans HG5.out (grew_alloc w5 #[.int .i64 q1, .int .i64 q2, .int .i64 q3, .int .i64 q4, .int .i64 q5, .int .i64 q6, .bool q7] 50)))
      go_simp
      refine hK.out _ _ ?_ (fun hHeld => ?_)
      · first
        | exact HKEEP
      clear hK K
      try simp only [Act.put, List.setIfInBounds_toArray, List.set_cons_zero, List.set_cons_succ]
      refine wpAnyH_done (by kernel_rfl) ?_ _
      clear hHeld
      first
        | (have HEB := (OwnC.new w4 [.int .i64 0, .int .i64 0, .int .i64 0, .int .i64 0, .int .i64 0, .int .i64 0, .bool false] 50 _ rfl).keep (grew_trans (grew_drew (grew_refl _)) HR5.out); have hbt : ∀ x, A' = some x → x.block ≠ w4.heap.size := (fun x hx => by have := (HB4.out.t.block x hx).2; omega); have hbp : ∀ x, A'' = some x → x.block ≠ w4.heap.size := (fun x hx => by have := (HB4.out.p.block x hx).2; omega); have HA : Hid (OwnC ((((((((w5).setCell ⟨w4.heap.size, 0, none⟩ (.int .i64 q1)).setCell ⟨w4.heap.size, 1, none⟩ (.int .i64 q2)).setCell ⟨w4.heap.size, 2, none⟩ (.int .i64 q3)).setCell ⟨w4.heap.size, 3, none⟩ (.int .i64 q4)).setCell ⟨w4.heap.size, 4, none⟩ (.int .i64 q5)).setCell ⟨w4.heap.size, 5, none⟩ (.int .i64 q6)).setCell ⟨w4.heap.size, 6, none⟩ (.bool q7)) (w4.heap.size) [.int .i64 q1, .int .i64 q2, .int .i64 q3, .int .i64 q4, .int .i64 q5, .int .i64 q6, .bool q7] ∧ OwnC ((((((((w5).setCell ⟨w4.heap.size, 0, none⟩ (.int .i64 q1)).setCell ⟨w4.heap.size, 1, none⟩ (.int .i64 q2)).setCell ⟨w4.heap.size, 2, none⟩ (.int .i64 q3)).setCell ⟨w4.heap.size, 3, none⟩ (.int .i64 q4)).setCell ⟨w4.heap.size, 4, none⟩ (.int .i64 q5)).setCell ⟨w4.heap.size, 5, none⟩ (.int .i64 q6)).setCell ⟨w4.heap.size, 6, none⟩ (.bool q7)) E [.int .i64 cx, .slice A' lc.length c', .slice A'' pc.length c''] ∧ OwnC ((((((((w5).setCell ⟨w4.heap.size, 0, none⟩ (.int .i64 q1)).setCell ⟨w4.heap.size, 1, none⟩ (.int .i64 q2)).setCell ⟨w4.heap.size, 2, none⟩ (.int .i64 q3)).setCell ⟨w4.heap.size, 3, none⟩ (.int .i64 q4)).setCell ⟨w4.heap.size, 4, none⟩ (.int .i64 q5)).setCell ⟨w4.heap.size, 5, none⟩ (.int .i64 q6)).setCell ⟨w4.heap.size, 6, none⟩ (.bool q7)) (w.heap.size + 1) [.int .i64 0, .slice none 0 0, .slice none 0 0] ∧ OwnB ((((((((w5).setCell ⟨w4.heap.size, 0, none⟩ (.int .i64 q1)).setCell ⟨w4.heap.size, 1, none⟩ (.int .i64 q2)).setCell ⟨w4.heap.size, 2, none⟩ (.int .i64 q3)).setCell ⟨w4.heap.size, 3, none⟩ (.int .i64 q4)).setCell ⟨w4.heap.size, 4, none⟩ (.int .i64 q5)).setCell ⟨w4.heap.size, 5, none⟩ (.int .i64 q6)).setCell ⟨w4.heap.size, 6, none⟩ (.bool q7)) w0.heap.size (cx, lc, pc) A' A'' c' c'' ∧ Grew w ((((((((w5).setCell ⟨w4.heap.size, 0, none⟩ (.int .i64 q1)).setCell ⟨w4.heap.size, 1, none⟩ (.int .i64 q2)).setCell ⟨w4.heap.size, 2, none⟩ (.int .i64 q3)).setCell ⟨w4.heap.size, 3, none⟩ (.int .i64 q4)).setCell ⟨w4.heap.size, 4, none⟩ (.int .i64 q5)).setCell ⟨w4.heap.size, 5, none⟩ (.int .i64 q6)).setCell ⟨w4.heap.size, 6, none⟩ (.bool q7)) ∧ E < w4.heap.size) := ⟨OwnC.set (OwnC.set (OwnC.set (OwnC.set (OwnC.set (OwnC.set (OwnC.set (HEB) 0 (.int .i64 q1) (by show 0 < 7; omega)) 1 (.int .i64 q2) (by show 1 < 7; omega)) 2 (.int .i64 q3) (by show 2 < 7; omega)) 3 (.int .i64 q4) (by show 3 < 7; omega)) 4 (.int .i64 q5) (by show 4 < 7; omega)) 5 (.int .i64 q6) (by show 5 < 7; omega)) 6 (.bool q7) (by show 6 < 7; omega), OwnC.other (OwnC.other (OwnC.other (OwnC.other (OwnC.other (OwnC.other (OwnC.other (HE4.out.keep HG5.out) ⟨w4.heap.size, 0, none⟩ (.int .i64 q1) (by show w4.heap.size ≠ E; omega)) ⟨w4.heap.size, 1, none⟩ (.int .i64 q2) (by show w4.heap.size ≠ E; omega)) ⟨w4.heap.size, 2, none⟩ (.int .i64 q3) (by show w4.heap.size ≠ E; omega)) ⟨w4.heap.size, 3, none⟩ (.int .i64 q4) (by show w4.heap.size ≠ E; omega)) ⟨w4.heap.size, 4, none⟩ (.int .i64 q5) (by show w4.heap.size ≠ E; omega)) ⟨w4.heap.size, 5, none⟩ (.int .i64 q6) (by show w4.heap.size ≠ E; omega)) ⟨w4.heap.size, 6, none⟩ (.bool q7) (by show w4.heap.size ≠ E; omega), OwnC.other (OwnC.other (OwnC.other (OwnC.other (OwnC.other (OwnC.other (OwnC.other (HZ4.out.keep HG5.out) ⟨w4.heap.size, 0, none⟩ (.int .i64 q1) (by show w4.heap.size ≠ w.heap.size + 1; omega)) ⟨w4.heap.size, 1, none⟩ (.int .i64 q2) (by show w4.heap.size ≠ w.heap.size + 1; omega)) ⟨w4.heap.size, 2, none⟩ (.int .i64 q3) (by show w4.heap.size ≠ w.heap.size + 1; omega)) ⟨w4.heap.size, 3, none⟩ (.int .i64 q4) (by show w4.heap.size ≠ w.heap.size + 1; omega)) ⟨w4.heap.size, 4, none⟩ (.int .i64 q5) (by show w4.heap.size ≠ w.heap.size + 1; omega)) ⟨w4.heap.size, 5, none⟩ (.int .i64 q6) (by show w4.heap.size ≠ w.heap.size + 1; omega)) ⟨w4.heap.size, 6, none⟩ (.bool q7) (by show w4.heap.size ≠ w.heap.size + 1; omega), OwnB.setO (OwnB.setO (OwnB.setO (OwnB.setO (OwnB.setO (OwnB.setO (OwnB.setO (HB4.out.keep HG5.out) hbt hbp w4.heap.size 0 (.int .i64 q1) rfl) hbt hbp w4.heap.size 1 (.int .i64 q2) rfl) hbt hbp w4.heap.size 2 (.int .i64 q3) rfl) hbt hbp w4.heap.size 3 (.int .i64 q4) rfl) hbt hbp w4.heap.size 4 (.int .i64 q5) rfl) hbt hbp w4.heap.size 5 (.int .i64 q6) rfl) hbt hbp w4.heap.size 6 (.bool q7) rfl, grew_set (grew_set (grew_set (grew_set (grew_set (grew_set (grew_set (grew_trans HG4.out HG5.out) (p := ⟨w4.heap.size, 0, none⟩) (.int .i64 q1) (by show w.heap.size ≤ w4.heap.size; omega)) (p := ⟨w4.heap.size, 1, none⟩) (.int .i64 q2) (by show w.heap.size ≤ w4.heap.size; omega)) (p := ⟨w4.heap.size, 2, none⟩) (.int .i64 q3) (by show w.heap.size ≤ w4.heap.size; omega)) (p := ⟨w4.heap.size, 3, none⟩) (.int .i64 q4) (by show w.heap.size ≤ w4.heap.size; omega)) (p := ⟨w4.heap.size, 4, none⟩) (.int .i64 q5) (by show w.heap.size ≤ w4.heap.size; omega)) (p := ⟨w4.heap.size, 5, none⟩) (.int .i64 q6) (by show w.heap.size ≤ w4.heap.size; omega)) (p := ⟨w4.heap.size, 6, none⟩) (.bool q7) (by show w.heap.size ≤ w4.heap.size; omega), by omega⟩; generalize (((((((w5).setCell ⟨w4.heap.size, 0, none⟩ (.int .i64 q1)).setCell ⟨w4.heap.size, 1, none⟩ (.int .i64 q2)).setCell ⟨w4.heap.size, 2, none⟩ (.int .i64 q3)).setCell ⟨w4.heap.size, 3, none⟩ (.int .i64 q4)).setCell ⟨w4.heap.size, 4, none⟩ (.int .i64 q5)).setCell ⟨w4.heap.size, 5, none⟩ (.int .i64 q6)).setCell ⟨w4.heap.size, 6, none⟩ (.bool q7) = wT at *; generalize hT : w4.heap.size = T at *)
        | (have HA : Hid (OwnC (w5.alloc (.cells #[.int .i64 q1, .int .i64 q2, .int .i64 q3, .int .i64 q4, .int .i64 q5, .int .i64 q6, .bool q7] 50)) (w5.heap.size) [.int .i64 q1, .int .i64 q2, .int .i64 q3, .int .i64 q4, .int .i64 q5, .int .i64 q6, .bool q7] ∧ OwnC (w5.alloc (.cells #[.int .i64 q1, .int .i64 q2, .int .i64 q3, .int .i64 q4, .int .i64 q5, .int .i64 q6, .bool q7] 50)) E [.int .i64 cx, .slice A' lc.length c', .slice A'' pc.length c''] ∧ OwnC (w5.alloc (.cells #[.int .i64 q1, .int .i64 q2, .int .i64 q3, .int .i64 q4, .int .i64 q5, .int .i64 q6, .bool q7] 50)) (w.heap.size + 1) [.int .i64 0, .slice none 0 0, .slice none 0 0] ∧ OwnB (w5.alloc (.cells #[.int .i64 q1, .int .i64 q2, .int .i64 q3, .int .i64 q4, .int .i64 q5, .int .i64 q6, .bool q7] 50)) w0.heap.size (cx, lc, pc) A' A'' c' c'' ∧ Grew w (w5.alloc (.cells #[.int .i64 q1, .int .i64 q2, .int .i64 q3, .int .i64 q4, .int .i64 q5, .int .i64 q6, .bool q7] 50)) ∧ E < w5.heap.size) := ⟨OwnC.new w5 [.int .i64 q1, .int .i64 q2, .int .i64 q3, .int .i64 q4, .int .i64 q5, .int .i64 q6, .bool q7] _ _ rfl, (HE4.out.keep HG5.out).keep (grew_alloc _ _ _), (HZ4.out.keep HG5.out).keep (grew_alloc _ _ _), (HB4.out.keep HG5.out).keep (grew_alloc _ _ _), grew_trans HG4.out (grew_trans HG5.out (grew_alloc _ _ _)), by omega⟩; generalize w5.alloc (.cells #[.int .i64 q1, .int .i64 q2, .int .i64 q3, .int .i64 q4, .int .i64 q5, .int .i64 q6, .bool q7] 50) = wT at *; generalize hT : w5.heap.size = T at *)
      clear HS HSO HS5 HS5a HS2a HKEEP
      obtain ⟨a1, a2, a3, a4, a5, a6⟩ := HA.out
      have t4 : wT.cell? ⟨T, 4, none⟩ = some (.int .i64 q5) := a1.at 4 _ rfl
      have t5 : wT.cell? ⟨T, 5, none⟩ = some (.int .i64 q6) := a1.at 5 _ rfl
      have u4 : wT.frozen? ⟨T, 4, none⟩ = false := a1.fr 4 (by show 4 < 7; omega)
      have u5 : wT.frozen? ⟨T, 5, none⟩ = false := a1.fr 5 (by show 5 < 7; omega)
      have hzt : w.heap.size + 1 < E := by omega
      have HT : Hid (OwnC ((wT.setCell ⟨T, 4, none⟩ (.int .i64 qq)).setCell ⟨T, 5, none⟩ (.int .i64 pp)) T [.int .i64 q1, .int .i64 q2, .int .i64 q3, .int .i64 q4, .int .i64 qq, .int .i64 pp, .bool q7]) := (a1.set 4 (.int .i64 qq) (by show 4 < 7; omega)).set 5 (.int .i64 pp) (by show 5 < 7; omega)
      have HE : Hid (OwnC ((wT.setCell ⟨T, 4, none⟩ (.int .i64 qq)).setCell ⟨T, 5, none⟩ (.int .i64 pp)) E [.int .i64 cx, .slice A' lc.length c', .slice A'' pc.length c'']) := (a2.other ⟨T, 4, none⟩ _ (by show T ≠ E; omega)).other ⟨T, 5, none⟩ _ (by show T ≠ E; omega)
      have HZ : Hid (OwnC ((wT.setCell ⟨T, 4, none⟩ (.int .i64 qq)).setCell ⟨T, 5, none⟩ (.int .i64 pp)) (w.heap.size + 1) [.int .i64 0, .slice none 0 0, .slice none 0 0]) := (a3.other ⟨T, 4, none⟩ _ (by show T ≠ w.heap.size + 1; omega)).other ⟨T, 5, none⟩ _ (by show T ≠ w.heap.size + 1; omega)
      have hbt : ∀ x, A' = some x → x.block ≠ T := fun x hx => by have := (HB4.out.t.block x hx).2; omega
      have hbp : ∀ x, A'' = some x → x.block ≠ T := fun x hx => by have := (HB4.out.p.block x hx).2; omega
      have HB : Hid (OwnB ((wT.setCell ⟨T, 4, none⟩ (.int .i64 qq)).setCell ⟨T, 5, none⟩ (.int .i64 pp)) w0.heap.size (cx, lc, pc) A' A'' c' c'') := (a4.setO hbt hbp T 4 _ rfl).setO hbt hbp T 5 _ rfl
      have HG : Hid (Grew w ((wT.setCell ⟨T, 4, none⟩ (.int .i64 qq)).setCell ⟨T, 5, none⟩ (.int .i64 pp))) := grew_set (grew_set a5 _ (by show _ ≤ T; omega)) _ (by show _ ≤ T; omega)
      clear a1 a2 a3 a4 a5 a6 HA HX4 HZ4 HE4 HG5 HR5
      apply_assumption
      go_upto_region 6 with fail
      clear t4 t5 u4 u5
      generalize (wT.setCell ⟨T, 4, none⟩ (.int .i64 qq)).setCell ⟨T, 5, none⟩ (.int .i64 pp) = wQ at *
      have e0 : wQ.cell? ⟨E, 0, none⟩ = some (.int .i64 cx) := HE.out.at 0 _ rfl
      have e1 : wQ.cell? ⟨E, 1, none⟩ = some (.slice A' lc.length c') := HE.out.at 1 _ rfl
      have e2 : wQ.cell? ⟨E, 2, none⟩ = some (.slice A'' pc.length c'') := HE.out.at 2 _ rfl
      have t0 : wQ.cell? ⟨T, 0, none⟩ = some (.int .i64 q1) := HT.out.at 0 _ rfl
      have t1 : wQ.cell? ⟨T, 1, none⟩ = some (.int .i64 q2) := HT.out.at 1 _ rfl
      have t2 : wQ.cell? ⟨T, 2, none⟩ = some (.int .i64 q3) := HT.out.at 2 _ rfl
      have t3 : wQ.cell? ⟨T, 3, none⟩ = some (.int .i64 q4) := HT.out.at 3 _ rfl
      have t4 : wQ.cell? ⟨T, 4, none⟩ = some (.int .i64 qq) := HT.out.at 4 _ rfl
      have t5 : wQ.cell? ⟨T, 5, none⟩ = some (.int .i64 pp) := HT.out.at 5 _ rfl
      have t6 : wQ.cell? ⟨T, 6, none⟩ = some (.bool q7) := HT.out.at 6 _ rfl
      go_wp2_with (go_at_call 30; ((with_reducible refine (CE _ _ _ _ _ HB.out.in).mono ?_); rintro e w8 ⟨B1, B2, d1, d2, rfl, hb, hg⟩; have HB8 := Lib.hid (hb.mono HG.out.size); have hbs : w.heap.size + 2 ≤ wQ.heap.size := (by have h9 := HZ.out.lt; have h8 := HE.out.lt; omega); have HB9 := Lib.hid (hb.mono hbs); have HG8 := Lib.hid (grew_trans HG.out hg); have HZ8 := Lib.hid (HZ.out.keep hg); have y0 : w8.cell? ⟨w.heap.size + 1, 0, none⟩ = some (.int .i64 0) := HZ8.out.at 0 _ rfl; have f0 : w8.frozen? ⟨w.heap.size + 1, 0, none⟩ = false := HZ8.out.fr 0 (by decide); have y1 : w8.cell? ⟨w.heap.size + 1, 1, none⟩ = some (.slice none 0 0) := HZ8.out.at 1 _ rfl; have f1 : w8.frozen? ⟨w.heap.size + 1, 1, none⟩ = false := HZ8.out.fr 1 (by decide); have y2 : w8.cell? ⟨w.heap.size + 1, 2, none⟩ = some (.slice none 0 0) := HZ8.out.at 2 _ rfl; have f2 : w8.frozen? ⟨w.heap.size + 1, 2, none⟩ = false := HZ8.out.fr 2 (by decide); clear hb hg CE))
      have HP := HZ8.out.all [.int .i64 ex, .slice B1 el.length d1, .slice B2 ep.length d2] rfl
      have HGP := grew_put (w := w) (w.heap.size + 1) (by omega) [.int .i64 ex, .slice B1 el.length d1, .slice B2 ep.length d2] 0 _ HG8.out
      have HBP := HB9.out.put (b2 := w.heap.size + 1) (by omega) [.int .i64 ex, .slice B1 el.length d1, .slice B2 ep.length d2]
      change bodyPost _ _ _ _ _ (putC w8 (w.heap.size + 1) 0 [.int .i64 ex, .slice B1 el.length d1, .slice B2 ep.length d2])
      clear y0 y1 y2 f0 f1 f2
      generalize putC w8 (w.heap.size + 1) 0 [.int .i64 ex, .slice B1 el.length d1, .slice B2 ep.length d2] = w9 at *
      have z0 : w9.cell? ⟨w.heap.size + 1, 0, none⟩ = _ := HP.at 0 _ rfl
      have z1 : w9.cell? ⟨w.heap.size + 1, 1, none⟩ = _ := HP.at 1 _ rfl
      have z2 : w9.cell? ⟨w.heap.size + 1, 2, none⟩ = _ := HP.at 2 _ rfl
      refine bodyPost_ret (v := .tuple #[.agg #[.int .i64 ex, .slice B1 el.length d1, .slice B2 ep.length d2], .int .i64 en, .int .i64 ee]) (by simp [results, Tryz.results28, go_sem, z0, z1, z2]) rfl ?_
      exact HYES.out _ _ _ _ _ (HBP.mono (by omega)) HGP
    · go_simp
      refine hK.out _ _ ?_ (fun hHeld => ?_)
      · first
        | exact HS2a
        | exact HS5a
      clear hK K
      try simp only [Act.put, List.setIfInBounds_toArray, List.set_cons_zero, List.set_cons_succ]
      refine wpAnyH_ready (rs := [4]) (by kernel_rfl) (by simp) ?_
      refine (AllReadyH.cons (o := { dst := some 28, op := Op.call { callee := Callee.value (Operand.func 51), args := #[Operand.tmp 26, Operand.tmp 27], argTypes := #[28, 3] }, type := 3, pos := "book.go:102", after := #[{ on := 2, ground := Ground.data }, { on := 3, ground := Ground.data }], guard := none }) rfl (fun K hK => ?_) AllReadyH.nil)
      go_simp
      (go_at_call 51; (with_reducible refine (CS _ (grew_trans HG4.out (by repeat (first | exact grew_refl _ | refine grew_drew ?_ | refine grew_trans ?_ (grew_alloc _ _ _))))).mono ?_); rintro e w5 ⟨rfl, hg⟩; have HR5 := Lib.hid hg; have HG5 : Hid (Grew w4 w5) := grew_trans (by repeat (first | exact grew_refl _ | refine grew_drew ?_ | refine grew_trans ?_ (grew_alloc _ _ _))) hg; have HS5 := HS.out _ HG5.out; have HS5a := HS.out _ (grew_trans HG5.out (grew_alloc w5 #[.int .i64 0, .int .i64 0, .int .i64 0, .int .i64 0, .int .i64 0, .int .i64 0, .bool false] 50)); have hs5 : w4.heap.size ≤ w5.heap.size := HG5.out.size; clear hg)
      refine hK.out _ _ ?_ (fun hHeld => ?_)
      · first
        | exact HS5
      clear hK K
      try simp only [Act.put, List.setIfInBounds_toArray, List.set_cons_zero, List.set_cons_succ]
      (refine wpAnyH_take (i := 5) (oi := { dst := some 29, op := Op.indexAddr 25 (Operand.tmp 25) (Operand.tmp 28), type := 0, pos := "book.go:102", after := #[{ on := 1, ground := Ground.data }, { on := 4, ground := Ground.data }], guard := none }) (v := ?_) rfl (by kernel_rfl) (by kernel_rfl) (by kernel_rfl) (fun _ _ _ h => h) (Or.inl ⟨by rfl, ?_⟩) (by assumption) ?_; rotate_left; · (intro w hSw; (try dsimp only at hSw); go_simp; (first | done | with_reducible rfl)))
      try simp only [Act.put, List.setIfInBounds_toArray, List.set_cons_zero, List.set_cons_succ]
      (refine wpAnyH_take (i := 6) (oi := { dst := some 30, op := Op.load 50 (Operand.tmp 29), type := 50, pos := "book.go:102", after := #[{ on := 5, ground := Ground.data }], guard := none }) (v := ?_) rfl (by kernel_rfl) (by kernel_rfl) (by kernel_rfl) (fun _ _ _ h => h) (Or.inl ⟨by rfl, ?_⟩) (by assumption) ?_; rotate_left; · (intro w hSw; (try dsimp only at hSw); go_simp; (first | done | with_reducible rfl)))
      try simp only [Act.put, List.setIfInBounds_toArray, List.set_cons_zero, List.set_cons_succ]
      refine wpAnyH_ready (rs := [8]) (by kernel_rfl) (by simp) ?_
      refine (AllReadyH.cons (o := { dst := none, op := Op.store 50 (Operand.tmp 13) (Operand.tmp 30), type := 0, pos := "book.go:102", after := #[{ on := 7, ground := Ground.data }, { on := 6, ground := Ground.data }, { on := 4, ground := Ground.chain }, { on := 0, ground := Ground.phase }, { on := 1, ground := Ground.phase }, { on := 2, ground := Ground.phase }, { on := 3, ground := Ground.phase }, { on := 4, ground := Ground.phase }, { on := 5, ground := Ground.phase }, { on := 6, ground := Ground.phase }, { on := 7, ground := Ground.phase }], guard := none }) rfl (fun K hK => ?_) AllReadyH.nil)
      first
        | (have HEB := (OwnC.new w4 [.int .i64 0, .int .i64 0, .int .i64 0, .int .i64 0, .int .i64 0, .int .i64 0, .bool false] 50 _ rfl).keep (grew_trans (grew_drew (grew_refl _)) HR5.out); have e0 : w5.cell? ⟨w4.heap.size, 0, none⟩ = some (.int .i64 0) := HEB.at 0 _ rfl; have g0 : w5.frozen? ⟨w4.heap.size, 0, none⟩ = false := HEB.fr 0 (by show 0 < 7; omega); have e1 : w5.cell? ⟨w4.heap.size, 1, none⟩ = some (.int .i64 0) := HEB.at 1 _ rfl; have g1 : w5.frozen? ⟨w4.heap.size, 1, none⟩ = false := HEB.fr 1 (by show 1 < 7; omega); have e2 : w5.cell? ⟨w4.heap.size, 2, none⟩ = some (.int .i64 0) := HEB.at 2 _ rfl; have g2 : w5.frozen? ⟨w4.heap.size, 2, none⟩ = false := HEB.fr 2 (by show 2 < 7; omega); have e3 : w5.cell? ⟨w4.heap.size, 3, none⟩ = some (.int .i64 0) := HEB.at 3 _ rfl; have g3 : w5.frozen? ⟨w4.heap.size, 3, none⟩ = false := HEB.fr 3 (by show 3 < 7; omega); have e4 : w5.cell? ⟨w4.heap.size, 4, none⟩ = some (.int .i64 0) := HEB.at 4 _ rfl; have g4 : w5.frozen? ⟨w4.heap.size, 4, none⟩ = false := HEB.fr 4 (by show 4 < 7; omega); have e5 : w5.cell? ⟨w4.heap.size, 5, none⟩ = some (.int .i64 0) := HEB.at 5 _ rfl; have g5 : w5.frozen? ⟨w4.heap.size, 5, none⟩ = false := HEB.fr 5 (by show 5 < 7; omega); have e6 : w5.cell? ⟨w4.heap.size, 6, none⟩ = some (.bool false) := HEB.at 6 _ rfl; have g6 : w5.frozen? ⟨w4.heap.size, 6, none⟩ = false := HEB.fr 6 (by show 6 < 7; omega); clear HEB; have HKEEP := HSO.out ((((((((w5).setCell ⟨w4.heap.size, 0, none⟩ (.int .i64 q1)).setCell ⟨w4.heap.size, 1, none⟩ (.int .i64 q2)).setCell ⟨w4.heap.size, 2, none⟩ (.int .i64 q3)).setCell ⟨w4.heap.size, 3, none⟩ (.int .i64 q4)).setCell ⟨w4.heap.size, 4, none⟩ (.int .i64 q5)).setCell ⟨w4.heap.size, 5, none⟩ (.int .i64 q6)).setCell ⟨w4.heap.size, 6, none⟩ (.bool q7)) (OwnC.other (OwnC.other (OwnC.other (OwnC.other (OwnC.other (OwnC.other (OwnC.other (HX4.out.keep HG5.out) ⟨w4.heap.size, 0, none⟩ (.int .i64 q1) (by show w4.heap.size ≠ w.heap.size; omega)) ⟨w4.heap.size, 1, none⟩ (.int .i64 q2) (by show w4.heap.size ≠ w.heap.size; omega)) ⟨w4.heap.size, 2, none⟩ (.int .i64 q3) (by show w4.heap.size ≠ w.heap.size; omega)) ⟨w4.heap.size, 3, none⟩ (.int .i64 q4) (by show w4.heap.size ≠ w.heap.size; omega)) ⟨w4.heap.size, 4, none⟩ (.int .i64 q5) (by show w4.heap.size ≠ w.heap.size; omega)) ⟨w4.heap.size, 5, none⟩ (.int .i64 q6) (by show w4.heap.size ≠ w.heap.size; omega)) ⟨w4.heap.size, 6, none⟩ (.bool q7) (by show w4.heap.size ≠ w.heap.size; omega)) (HTC.out _ (grew_set (grew_set (grew_set (grew_set (grew_set (grew_set (grew_set (grew_trans HG4.out HG5.out) (p := ⟨w4.heap.size, 0, none⟩) (.int .i64 q1) (by show w.heap.size ≤ w4.heap.size; omega)) (p := ⟨w4.heap.size, 1, none⟩) (.int .i64 q2) (by show w.heap.size ≤ w4.heap.size; omega)) (p := ⟨w4.heap.size, 2, none⟩) (.int .i64 q3) (by show w.heap.size ≤ w4.heap.size; omega)) (p := ⟨w4.heap.size, 3, none⟩) (.int .i64 q4) (by show w.heap.size ≤ w4.heap.size; omega)) (p := ⟨w4.heap.size, 4, none⟩) (.int .i64 q5) (by show w.heap.size ≤ w4.heap.size; omega)) (p := ⟨w4.heap.size, 5, none⟩) (.int .i64 q6) (by show w.heap.size ≤ w4.heap.size; omega)) (p := ⟨w4.heap.size, 6, none⟩) (.bool q7) (by show w.heap.size ≤ w4.heap.size; omega))))
        | (have HKEEP := HS.out _ (grew_trans HG5.out (grew_alloc w5 #[.int .i64 q1, .int .i64 q2, .int .i64 q3, .int .i64 q4, .int .i64 q5, .int .i64 q6, .bool q7] 50)))
      go_simp
      refine hK.out _ _ ?_ (fun hHeld => ?_)
      · first
        | exact HKEEP
      clear hK K
      try simp only [Act.put, List.setIfInBounds_toArray, List.set_cons_zero, List.set_cons_succ]
      refine wpAnyH_done (by kernel_rfl) ?_ _
      clear hHeld
      first
        | (have HEB := (OwnC.new w4 [.int .i64 0, .int .i64 0, .int .i64 0, .int .i64 0, .int .i64 0, .int .i64 0, .bool false] 50 _ rfl).keep (grew_trans (grew_drew (grew_refl _)) HR5.out); have hbt : ∀ x, A' = some x → x.block ≠ w4.heap.size := (fun x hx => by have := (HB4.out.t.block x hx).2; omega); have hbp : ∀ x, A'' = some x → x.block ≠ w4.heap.size := (fun x hx => by have := (HB4.out.p.block x hx).2; omega); have HA : Hid (OwnC ((((((((w5).setCell ⟨w4.heap.size, 0, none⟩ (.int .i64 q1)).setCell ⟨w4.heap.size, 1, none⟩ (.int .i64 q2)).setCell ⟨w4.heap.size, 2, none⟩ (.int .i64 q3)).setCell ⟨w4.heap.size, 3, none⟩ (.int .i64 q4)).setCell ⟨w4.heap.size, 4, none⟩ (.int .i64 q5)).setCell ⟨w4.heap.size, 5, none⟩ (.int .i64 q6)).setCell ⟨w4.heap.size, 6, none⟩ (.bool q7)) (w4.heap.size) [.int .i64 q1, .int .i64 q2, .int .i64 q3, .int .i64 q4, .int .i64 q5, .int .i64 q6, .bool q7] ∧ OwnC ((((((((w5).setCell ⟨w4.heap.size, 0, none⟩ (.int .i64 q1)).setCell ⟨w4.heap.size, 1, none⟩ (.int .i64 q2)).setCell ⟨w4.heap.size, 2, none⟩ (.int .i64 q3)).setCell ⟨w4.heap.size, 3, none⟩ (.int .i64 q4)).setCell ⟨w4.heap.size, 4, none⟩ (.int .i64 q5)).setCell ⟨w4.heap.size, 5, none⟩ (.int .i64 q6)).setCell ⟨w4.heap.size, 6, none⟩ (.bool q7)) E [.int .i64 cx, .slice A' lc.length c', .slice A'' pc.length c''] ∧ OwnC ((((((((w5).setCell ⟨w4.heap.size, 0, none⟩ (.int .i64 q1)).setCell ⟨w4.heap.size, 1, none⟩ (.int .i64 q2)).setCell ⟨w4.heap.size, 2, none⟩ (.int .i64 q3)).setCell ⟨w4.heap.size, 3, none⟩ (.int .i64 q4)).setCell ⟨w4.heap.size, 4, none⟩ (.int .i64 q5)).setCell ⟨w4.heap.size, 5, none⟩ (.int .i64 q6)).setCell ⟨w4.heap.size, 6, none⟩ (.bool q7)) (w.heap.size + 1) [.int .i64 0, .slice none 0 0, .slice none 0 0] ∧ OwnB ((((((((w5).setCell ⟨w4.heap.size, 0, none⟩ (.int .i64 q1)).setCell ⟨w4.heap.size, 1, none⟩ (.int .i64 q2)).setCell ⟨w4.heap.size, 2, none⟩ (.int .i64 q3)).setCell ⟨w4.heap.size, 3, none⟩ (.int .i64 q4)).setCell ⟨w4.heap.size, 4, none⟩ (.int .i64 q5)).setCell ⟨w4.heap.size, 5, none⟩ (.int .i64 q6)).setCell ⟨w4.heap.size, 6, none⟩ (.bool q7)) w0.heap.size (cx, lc, pc) A' A'' c' c'' ∧ Grew w ((((((((w5).setCell ⟨w4.heap.size, 0, none⟩ (.int .i64 q1)).setCell ⟨w4.heap.size, 1, none⟩ (.int .i64 q2)).setCell ⟨w4.heap.size, 2, none⟩ (.int .i64 q3)).setCell ⟨w4.heap.size, 3, none⟩ (.int .i64 q4)).setCell ⟨w4.heap.size, 4, none⟩ (.int .i64 q5)).setCell ⟨w4.heap.size, 5, none⟩ (.int .i64 q6)).setCell ⟨w4.heap.size, 6, none⟩ (.bool q7)) ∧ E < w4.heap.size) := ⟨OwnC.set (OwnC.set (OwnC.set (OwnC.set (OwnC.set (OwnC.set (OwnC.set (HEB) 0 (.int .i64 q1) (by show 0 < 7; omega)) 1 (.int .i64 q2) (by show 1 < 7; omega)) 2 (.int .i64 q3) (by show 2 < 7; omega)) 3 (.int .i64 q4) (by show 3 < 7; omega)) 4 (.int .i64 q5) (by show 4 < 7; omega)) 5 (.int .i64 q6) (by show 5 < 7; omega)) 6 (.bool q7) (by show 6 < 7; omega), OwnC.other (OwnC.other (OwnC.other (OwnC.other (OwnC.other (OwnC.other (OwnC.other (HE4.out.keep HG5.out) ⟨w4.heap.size, 0, none⟩ (.int .i64 q1) (by show w4.heap.size ≠ E; omega)) ⟨w4.heap.size, 1, none⟩ (.int .i64 q2) (by show w4.heap.size ≠ E; omega)) ⟨w4.heap.size, 2, none⟩ (.int .i64 q3) (by show w4.heap.size ≠ E; omega)) ⟨w4.heap.size, 3, none⟩ (.int .i64 q4) (by show w4.heap.size ≠ E; omega)) ⟨w4.heap.size, 4, none⟩ (.int .i64 q5) (by show w4.heap.size ≠ E; omega)) ⟨w4.heap.size, 5, none⟩ (.int .i64 q6) (by show w4.heap.size ≠ E; omega)) ⟨w4.heap.size, 6, none⟩ (.bool q7) (by show w4.heap.size ≠ E; omega), OwnC.other (OwnC.other (OwnC.other (OwnC.other (OwnC.other (OwnC.other (OwnC.other (HZ4.out.keep HG5.out) ⟨w4.heap.size, 0, none⟩ (.int .i64 q1) (by show w4.heap.size ≠ w.heap.size + 1; omega)) ⟨w4.heap.size, 1, none⟩ (.int .i64 q2) (by show w4.heap.size ≠ w.heap.size + 1; omega)) ⟨w4.heap.size, 2, none⟩ (.int .i64 q3) (by show w4.heap.size ≠ w.heap.size + 1; omega)) ⟨w4.heap.size, 3, none⟩ (.int .i64 q4) (by show w4.heap.size ≠ w.heap.size + 1; omega)) ⟨w4.heap.size, 4, none⟩ (.int .i64 q5) (by show w4.heap.size ≠ w.heap.size + 1; omega)) ⟨w4.heap.size, 5, none⟩ (.int .i64 q6) (by show w4.heap.size ≠ w.heap.size + 1; omega)) ⟨w4.heap.size, 6, none⟩ (.bool q7) (by show w4.heap.size ≠ w.heap.size + 1; omega), OwnB.setO (OwnB.setO (OwnB.setO (OwnB.setO (OwnB.setO (OwnB.setO (OwnB.setO (HB4.out.keep HG5.out) hbt hbp w4.heap.size 0 (.int .i64 q1) rfl) hbt hbp w4.heap.size 1 (.int .i64 q2) rfl) hbt hbp w4.heap.size 2 (.int .i64 q3) rfl) hbt hbp w4.heap.size 3 (.int .i64 q4) rfl) hbt hbp w4.heap.size 4 (.int .i64 q5) rfl) hbt hbp w4.heap.size 5 (.int .i64 q6) rfl) hbt hbp w4.heap.size 6 (.bool q7) rfl, grew_set (grew_set (grew_set (grew_set (grew_set (grew_set (grew_set (grew_trans HG4.out HG5.out) (p := ⟨w4.heap.size, 0, none⟩) (.int .i64 q1) (by show w.heap.size ≤ w4.heap.size; omega)) (p := ⟨w4.heap.size, 1, none⟩) (.int .i64 q2) (by show w.heap.size ≤ w4.heap.size; omega)) (p := ⟨w4.heap.size, 2, none⟩) (.int .i64 q3) (by show w.heap.size ≤ w4.heap.size; omega)) (p := ⟨w4.heap.size, 3, none⟩) (.int .i64 q4) (by show w.heap.size ≤ w4.heap.size; omega)) (p := ⟨w4.heap.size, 4, none⟩) (.int .i64 q5) (by show w.heap.size ≤ w4.heap.size; omega)) (p := ⟨w4.heap.size, 5, none⟩) (.int .i64 q6) (by show w.heap.size ≤ w4.heap.size; omega)) (p := ⟨w4.heap.size, 6, none⟩) (.bool q7) (by show w.heap.size ≤ w4.heap.size; omega), by omega⟩; generalize (((((((w5).setCell ⟨w4.heap.size, 0, none⟩ (.int .i64 q1)).setCell ⟨w4.heap.size, 1, none⟩ (.int .i64 q2)).setCell ⟨w4.heap.size, 2, none⟩ (.int .i64 q3)).setCell ⟨w4.heap.size, 3, none⟩ (.int .i64 q4)).setCell ⟨w4.heap.size, 4, none⟩ (.int .i64 q5)).setCell ⟨w4.heap.size, 5, none⟩ (.int .i64 q6)).setCell ⟨w4.heap.size, 6, none⟩ (.bool q7) = wT at *; generalize hT : w4.heap.size = T at *)
        | (have HA : Hid (OwnC (w5.alloc (.cells #[.int .i64 q1, .int .i64 q2, .int .i64 q3, .int .i64 q4, .int .i64 q5, .int .i64 q6, .bool q7] 50)) (w5.heap.size) [.int .i64 q1, .int .i64 q2, .int .i64 q3, .int .i64 q4, .int .i64 q5, .int .i64 q6, .bool q7] ∧ OwnC (w5.alloc (.cells #[.int .i64 q1, .int .i64 q2, .int .i64 q3, .int .i64 q4, .int .i64 q5, .int .i64 q6, .bool q7] 50)) E [.int .i64 cx, .slice A' lc.length c', .slice A'' pc.length c''] ∧ OwnC (w5.alloc (.cells #[.int .i64 q1, .int .i64 q2, .int .i64 q3, .int .i64 q4, .int .i64 q5, .int .i64 q6, .bool q7] 50)) (w.heap.size + 1) [.int .i64 0, .slice none 0 0, .slice none 0 0] ∧ OwnB (w5.alloc (.cells #[.int .i64 q1, .int .i64 q2, .int .i64 q3, .int .i64 q4, .int .i64 q5, .int .i64 q6, .bool q7] 50)) w0.heap.size (cx, lc, pc) A' A'' c' c'' ∧ Grew w (w5.alloc (.cells #[.int .i64 q1, .int .i64 q2, .int .i64 q3, .int .i64 q4, .int .i64 q5, .int .i64 q6, .bool q7] 50)) ∧ E < w5.heap.size) := ⟨OwnC.new w5 [.int .i64 q1, .int .i64 q2, .int .i64 q3, .int .i64 q4, .int .i64 q5, .int .i64 q6, .bool q7] _ _ rfl, (HE4.out.keep HG5.out).keep (grew_alloc _ _ _), (HZ4.out.keep HG5.out).keep (grew_alloc _ _ _), (HB4.out.keep HG5.out).keep (grew_alloc _ _ _), grew_trans HG4.out (grew_trans HG5.out (grew_alloc _ _ _)), by omega⟩; generalize w5.alloc (.cells #[.int .i64 q1, .int .i64 q2, .int .i64 q3, .int .i64 q4, .int .i64 q5, .int .i64 q6, .bool q7] 50) = wT at *; generalize hT : w5.heap.size = T at *)
      clear HS HSO HS5 HS5a HS2a HKEEP
      obtain ⟨a1, a2, a3, a4, a5, a6⟩ := HA.out
      have t4 : wT.cell? ⟨T, 4, none⟩ = some (.int .i64 q5) := a1.at 4 _ rfl
      have t5 : wT.cell? ⟨T, 5, none⟩ = some (.int .i64 q6) := a1.at 5 _ rfl
      have u4 : wT.frozen? ⟨T, 4, none⟩ = false := a1.fr 4 (by show 4 < 7; omega)
      have u5 : wT.frozen? ⟨T, 5, none⟩ = false := a1.fr 5 (by show 5 < 7; omega)
      have hzt : w.heap.size + 1 < E := by omega
      have HT : Hid (OwnC ((wT.setCell ⟨T, 4, none⟩ (.int .i64 qq)).setCell ⟨T, 5, none⟩ (.int .i64 pp)) T [.int .i64 q1, .int .i64 q2, .int .i64 q3, .int .i64 q4, .int .i64 qq, .int .i64 pp, .bool q7]) := (a1.set 4 (.int .i64 qq) (by show 4 < 7; omega)).set 5 (.int .i64 pp) (by show 5 < 7; omega)
      have HE : Hid (OwnC ((wT.setCell ⟨T, 4, none⟩ (.int .i64 qq)).setCell ⟨T, 5, none⟩ (.int .i64 pp)) E [.int .i64 cx, .slice A' lc.length c', .slice A'' pc.length c'']) := (a2.other ⟨T, 4, none⟩ _ (by show T ≠ E; omega)).other ⟨T, 5, none⟩ _ (by show T ≠ E; omega)
      have HZ : Hid (OwnC ((wT.setCell ⟨T, 4, none⟩ (.int .i64 qq)).setCell ⟨T, 5, none⟩ (.int .i64 pp)) (w.heap.size + 1) [.int .i64 0, .slice none 0 0, .slice none 0 0]) := (a3.other ⟨T, 4, none⟩ _ (by show T ≠ w.heap.size + 1; omega)).other ⟨T, 5, none⟩ _ (by show T ≠ w.heap.size + 1; omega)
      have hbt : ∀ x, A' = some x → x.block ≠ T := fun x hx => by have := (HB4.out.t.block x hx).2; omega
      have hbp : ∀ x, A'' = some x → x.block ≠ T := fun x hx => by have := (HB4.out.p.block x hx).2; omega
      have HB : Hid (OwnB ((wT.setCell ⟨T, 4, none⟩ (.int .i64 qq)).setCell ⟨T, 5, none⟩ (.int .i64 pp)) w0.heap.size (cx, lc, pc) A' A'' c' c'') := (a4.setO hbt hbp T 4 _ rfl).setO hbt hbp T 5 _ rfl
      have HG : Hid (Grew w ((wT.setCell ⟨T, 4, none⟩ (.int .i64 qq)).setCell ⟨T, 5, none⟩ (.int .i64 pp))) := grew_set (grew_set a5 _ (by show _ ≤ T; omega)) _ (by show _ ≤ T; omega)
      clear a1 a2 a3 a4 a5 a6 HA HX4 HZ4 HE4 HG5 HR5
      apply_assumption
      go_upto_region 6 with fail
      clear t4 t5 u4 u5
      generalize (wT.setCell ⟨T, 4, none⟩ (.int .i64 qq)).setCell ⟨T, 5, none⟩ (.int .i64 pp) = wQ at *
      have e0 : wQ.cell? ⟨E, 0, none⟩ = some (.int .i64 cx) := HE.out.at 0 _ rfl
      have e1 : wQ.cell? ⟨E, 1, none⟩ = some (.slice A' lc.length c') := HE.out.at 1 _ rfl
      have e2 : wQ.cell? ⟨E, 2, none⟩ = some (.slice A'' pc.length c'') := HE.out.at 2 _ rfl
      have t0 : wQ.cell? ⟨T, 0, none⟩ = some (.int .i64 q1) := HT.out.at 0 _ rfl
      have t1 : wQ.cell? ⟨T, 1, none⟩ = some (.int .i64 q2) := HT.out.at 1 _ rfl
      have t2 : wQ.cell? ⟨T, 2, none⟩ = some (.int .i64 q3) := HT.out.at 2 _ rfl
      have t3 : wQ.cell? ⟨T, 3, none⟩ = some (.int .i64 q4) := HT.out.at 3 _ rfl
      have t4 : wQ.cell? ⟨T, 4, none⟩ = some (.int .i64 qq) := HT.out.at 4 _ rfl
      have t5 : wQ.cell? ⟨T, 5, none⟩ = some (.int .i64 pp) := HT.out.at 5 _ rfl
      have t6 : wQ.cell? ⟨T, 6, none⟩ = some (.bool q7) := HT.out.at 6 _ rfl
      go_wp2_with (go_at_call 30; ((with_reducible refine (CE _ _ _ _ _ HB.out.in).mono ?_); rintro e w8 ⟨B1, B2, d1, d2, rfl, hb, hg⟩; have HB8 := Lib.hid (hb.mono HG.out.size); have hbs : w.heap.size + 2 ≤ wQ.heap.size := (by have h9 := HZ.out.lt; have h8 := HE.out.lt; omega); have HB9 := Lib.hid (hb.mono hbs); have HG8 := Lib.hid (grew_trans HG.out hg); have HZ8 := Lib.hid (HZ.out.keep hg); have y0 : w8.cell? ⟨w.heap.size + 1, 0, none⟩ = some (.int .i64 0) := HZ8.out.at 0 _ rfl; have f0 : w8.frozen? ⟨w.heap.size + 1, 0, none⟩ = false := HZ8.out.fr 0 (by decide); have y1 : w8.cell? ⟨w.heap.size + 1, 1, none⟩ = some (.slice none 0 0) := HZ8.out.at 1 _ rfl; have f1 : w8.frozen? ⟨w.heap.size + 1, 1, none⟩ = false := HZ8.out.fr 1 (by decide); have y2 : w8.cell? ⟨w.heap.size + 1, 2, none⟩ = some (.slice none 0 0) := HZ8.out.at 2 _ rfl; have f2 : w8.frozen? ⟨w.heap.size + 1, 2, none⟩ = false := HZ8.out.fr 2 (by decide); clear hb hg CE))
      have HP := HZ8.out.all [.int .i64 ex, .slice B1 el.length d1, .slice B2 ep.length d2] rfl
      have HGP := grew_put (w := w) (w.heap.size + 1) (by omega) [.int .i64 ex, .slice B1 el.length d1, .slice B2 ep.length d2] 0 _ HG8.out
      have HBP := HB9.out.put (b2 := w.heap.size + 1) (by omega) [.int .i64 ex, .slice B1 el.length d1, .slice B2 ep.length d2]
      change bodyPost _ _ _ _ _ (putC w8 (w.heap.size + 1) 0 [.int .i64 ex, .slice B1 el.length d1, .slice B2 ep.length d2])
      clear y0 y1 y2 f0 f1 f2
      generalize putC w8 (w.heap.size + 1) 0 [.int .i64 ex, .slice B1 el.length d1, .slice B2 ep.length d2] = w9 at *
      have z0 : w9.cell? ⟨w.heap.size + 1, 0, none⟩ = _ := HP.at 0 _ rfl
      have z1 : w9.cell? ⟨w.heap.size + 1, 1, none⟩ = _ := HP.at 1 _ rfl
      have z2 : w9.cell? ⟨w.heap.size + 1, 2, none⟩ = _ := HP.at 2 _ rfl
      refine bodyPost_ret (v := .tuple #[.agg #[.int .i64 ex, .slice B1 el.length d1, .slice B2 ep.length d2], .int .i64 en, .int .i64 ee]) (by simp [results, Tryz.results28, go_sem, z0, z1, z2]) rfl ?_
      exact HYES.out _ _ _ _ _ (HBP.mono (by omega)) HGP
  · have HF := Lib.hid (corr_no he (q := qq) (p := pp) (w := w))
    rw [cancelE_no he] at CC
    clear h
    generalize BookN (corrB b no qq pp) (corrN b no qq pp) (corrE b no qq pp) w = PP at *
    generalize hae : cancelE b no = ae at *
    have d5 : (ae != 0) = true := by simpa using he
    clear hae he
    dsimp only [vBk] at *
    generalize b.1 = nx at *
    have HX0 : Hid (OwnC ((w.alloc (.cells #[.int .i64 nx, .slice A1 n1 c1, .slice A2 n2 c2] 28)).alloc (.cells #[.int .i64 0, .slice none 0 0, .slice none 0 0] 28)) w.heap.size [.int .i64 nx, .slice A1 n1 c1, .slice A2 n2 c2]) := (OwnC.new w [.int .i64 nx, .slice A1 n1 c1, .slice A2 n2 c2] _ _ rfl).keep (grew_alloc _ _ _)
    have HZ0 : Hid (OwnC ((w.alloc (.cells #[.int .i64 nx, .slice A1 n1 c1, .slice A2 n2 c2] 28)).alloc (.cells #[.int .i64 0, .slice none 0 0, .slice none 0 0] 28)) (w.heap.size + 1) [.int .i64 0, .slice none 0 0, .slice none 0 0]) := OwnC.new _ [.int .i64 0, .slice none 0 0, .slice none 0 0] _ _ (by simp)
    have HG0 : Hid (Grew w ((w.alloc (.cells #[.int .i64 nx, .slice A1 n1 c1, .slice A2 n2 c2] 28)).alloc (.cells #[.int .i64 0, .slice none 0 0, .slice none 0 0] 28))) := grew_trans (grew_alloc _ _ _) (grew_alloc _ _ _)
    go_enter Tryz.func28, Tryz.ntmps28
    go_upto_region 1 with fail
    generalize (w.alloc (.cells #[.int .i64 nx, .slice A1 n1 c1, .slice A2 n2 c2] 28)).alloc (.cells #[.int .i64 0, .slice none 0 0, .slice none 0 0] 28) = w0 at *
    have x0 : w0.cell? ⟨w.heap.size, 0, none⟩ = some (.int .i64 nx) := HX0.out.at 0 _ rfl
    have x1 : w0.cell? ⟨w.heap.size, 1, none⟩ = some (.slice A1 n1 c1) := HX0.out.at 1 _ rfl
    have x2 : w0.cell? ⟨w.heap.size, 2, none⟩ = some (.slice A2 n2 c2) := HX0.out.at 2 _ rfl
    go_upto_region 2 with (go_at_call 27; ((with_reducible refine (CC _ HG0.out).mono ?_); rintro e w3 ⟨A', A'', c', c'', rfl, hb, hg⟩; have HB3 := Lib.hid hb; have HG3 := Lib.hid (grew_trans HG0.out hg); have HX3 := Lib.hid (HX0.out.keep hg); have HZ3 := Lib.hid (HZ0.out.keep hg); have hs3 : w.heap.size + 2 ≤ w3.heap.size := (by have h9 := HZ3.out.lt; omega); clear hb hg CC x0 x1 x2))
    have HZ4 := Lib.hid (HZ3.out.keep (grew_alloc w3 #[.int .i64 0, .slice A' 0 c', .slice A'' 0 c''] 28))
    have HG4 := Lib.hid (grew_trans HG3.out (grew_alloc w3 #[.int .i64 0, .slice A' 0 c', .slice A'' 0 c''] 28))
    generalize w3.alloc (.cells #[.int .i64 0, .slice A' 0 c', .slice A'' 0 c''] 28) = w4 at *
    have y0 : w4.cell? ⟨w.heap.size + 1, 0, none⟩ = some (.int .i64 0) := HZ4.out.at 0 _ rfl
    have f0 : w4.frozen? ⟨w.heap.size + 1, 0, none⟩ = false := HZ4.out.fr 0 (by decide)
    have y1 : w4.cell? ⟨w.heap.size + 1, 1, none⟩ = some (.slice none 0 0) := HZ4.out.at 1 _ rfl
    have f1 : w4.frozen? ⟨w.heap.size + 1, 1, none⟩ = false := HZ4.out.fr 1 (by decide)
    have y2 : w4.cell? ⟨w.heap.size + 1, 2, none⟩ = some (.slice none 0 0) := HZ4.out.at 2 _ rfl
    have f2 : w4.frozen? ⟨w.heap.size + 1, 2, none⟩ = false := HZ4.out.fr 2 (by decide)
    go_wp2
    have HP := HZ4.out.all [.int .i64 0, .slice none 0 0, .slice none 0 0] rfl
    have HGP := grew_put (w := w) (w.heap.size + 1) (by omega) [.int .i64 0, .slice none 0 0, .slice none 0 0] 0 _ HG4.out
    change bodyPost _ _ _ _ _ (putC w4 (w.heap.size + 1) 0 [.int .i64 0, .slice none 0 0, .slice none 0 0])
    clear y0 y1 y2 f0 f1 f2
    generalize putC w4 (w.heap.size + 1) 0 [.int .i64 0, .slice none 0 0, .slice none 0 0] = w9 at *
    have z0 : w9.cell? ⟨w.heap.size + 1, 0, none⟩ = _ := HP.at 0 _ rfl
    have z1 : w9.cell? ⟨w.heap.size + 1, 1, none⟩ = _ := HP.at 1 _ rfl
    have z2 : w9.cell? ⟨w.heap.size + 1, 2, none⟩ = _ := HP.at 2 _ rfl
    refine bodyPost_ret (v := .tuple #[.agg #[.int .i64 0, .slice none 0 0, .slice none 0 0], .int .i64 0, .int .i64 ae]) (by simp [results, Tryz.results28, go_sem, z0, z1, z2]) rfl ?_
    exact HF.out _ HGP
end Go.Proofs.YtahioajpmlochaaGreat.NumK
namespace Go.Proofs.YtahioajpmlochaaGreat.NumK
open Go.RowKit
set_option linter.unusedVariables false

/-- An act: what, the number, the quantity, the price; the trade. -/
abbrev Ac13 := (Int × Int × Int × Int) × Tr
abbrev ac130 : Ac13 := ((0, 0, 0, 0), tr0)
def enAc13 : En Ac13 := ⟨11, fun a => [.int .i64 a.1.1, .int .i64 a.1.2.1, .int .i64 a.1.2.2.1, .int .i64 a.1.2.2.2] ++ enTr.cs a.2, fun _ => rfl, fun a v hv => by
  simp [enTr] at hv; rcases hv with rfl | rfl | rfl | rfl | rfl | rfl | rfl | rfl | rfl | rfl | rfl <;> rfl, by decide⟩
abbrev vAc13 (a : Ac13) : Value := .agg #[.int .i64 a.1.1, .int .i64 a.1.2.1, .int .i64 a.1.2.2.1, .int .i64 a.1.2.2.2, .int .i64 a.2.1.1, .int .i64 a.2.1.2.1, .int .i64 a.2.1.2.2.1, .int .i64 a.2.1.2.2.2.1, .int .i64 a.2.1.2.2.2.2.1, .int .i64 a.2.1.2.2.2.2.2, .bool a.2.2]
/-- Which act. -/
def kind13 (a : Ac13) : Int := (IntKind.u64.wrap a.1.1).tmod 6
def doE (b : Bk) (a : Ac13) : Int := if kind13 a = 3 then cancelE b a.1.2.1 else if kind13 a = 4 then corrE b a.1.2.1 a.1.2.2.1 a.1.2.2.2 else if kind13 a = 5 then 0 else enterE b a.2
def doB (b : Bk) (a : Ac13) : Bk := if kind13 a = 3 then cancelB b a.1.2.1 else if kind13 a = 4 then corrB b a.1.2.1 a.1.2.2.1 a.1.2.2.2 else if kind13 a = 5 then clearB b else enterB b a.2
theorem GB.do {b : Bk} {k : Nat} {a : Ac13} (h : GB b k) (he : doE b a = 0) : GB (doB b a) (k + 1) := by
  unfold doE at he
  unfold doB
  by_cases h3 : kind13 a = 3
  · rw [if_pos h3] at he ⊢; exact (h.cancel he).mono (Nat.le_succ _)
  · rw [if_neg h3] at he ⊢
    by_cases h4 : kind13 a = 4
    · rw [if_pos h4] at he ⊢; exact h.corr he
    · rw [if_neg h4] at he ⊢
      by_cases h5 : kind13 a = 5
      · rw [if_pos h5]; exact h.clear.mono (Nat.le_succ _)
      · rw [if_neg h5] at he ⊢; exact h.enter he

set_option maxRecDepth 100000 in
set_option maxHeartbeats 8000000 in
theorem do13_any (b : Bk) (a : Ac13) (A1 A2 : Option Addr) (n1 n2 c1 c2 : Nat) (w : World) (h : InB w b A1 A2 n1 n2 c1 c2) (hn : n1 ≤ 10000 ∧ n2 ≤ 10000) :
    Calls Tryz.prog 11 #[vBk b.1 A1 A2 n1 n2 c1 c2, vAc13 a] w (BookE (doB b a) (doE b a) w) := by
  have HKI : Hid (kind13 a = (IntKind.u64.wrap a.1.1).tmod 6) := rfl
  have HPP : Hid (∀ e w', BookE (doB b a) (doE b a) w e w' → BookE (doB b a) (doE b a) w e w') := fun _ _ h => h
  by_cases k3 : kind13 a = 3
  · have CC := fun w' (g : Grew w w') => cancel_any b a.1.2.1 A1 A2 n1 n2 c1 c2 w' (h.keep g) hn
    have hE : doE b a = cancelE b a.1.2.1 := by unfold doE; rw [if_pos k3]
    have hB : doB b a = cancelB b a.1.2.1 := by unfold doB; rw [if_pos k3]
    rw [hE, hB]
    unfold BookE at CC
    rw [HKI.out] at k3
    obtain ⟨⟨a1, a2, a3, a4⟩, ⟨⟨q1, q2, q3, q4, q5, q6⟩, q7⟩⟩ := a
    clear HPP HKI hE hB h
    dsimp only [vBk, vAc13, vTr] at *
    generalize cancelE b a2 = ee at *
    generalize cancelB b a2 = eb at *
    obtain ⟨ex, el, ep⟩ := eb
    dsimp only at CC
    generalize b.1 = nx at *
    have HX0 : Hid (OwnC (((w.alloc (.cells #[.int .i64 nx, .slice A1 n1 c1, .slice A2 n2 c2] 28)).alloc (.cells #[.int .i64 a1, .int .i64 a2, .int .i64 a3, .int .i64 a4, .int .i64 q1, .int .i64 q2, .int .i64 q3, .int .i64 q4, .int .i64 q5, .int .i64 q6, .bool q7] 52)).alloc (.cells #[.int .i64 0, .slice none 0 0, .slice none 0 0] 28)) w.heap.size [.int .i64 nx, .slice A1 n1 c1, .slice A2 n2 c2]) := ((OwnC.new w [.int .i64 nx, .slice A1 n1 c1, .slice A2 n2 c2] _ _ rfl).keep (grew_alloc _ _ _)).keep (grew_alloc _ _ _)
    have HA0 : Hid (OwnC (((w.alloc (.cells #[.int .i64 nx, .slice A1 n1 c1, .slice A2 n2 c2] 28)).alloc (.cells #[.int .i64 a1, .int .i64 a2, .int .i64 a3, .int .i64 a4, .int .i64 q1, .int .i64 q2, .int .i64 q3, .int .i64 q4, .int .i64 q5, .int .i64 q6, .bool q7] 52)).alloc (.cells #[.int .i64 0, .slice none 0 0, .slice none 0 0] 28)) (w.heap.size + 1) [.int .i64 a1, .int .i64 a2, .int .i64 a3, .int .i64 a4, .int .i64 q1, .int .i64 q2, .int .i64 q3, .int .i64 q4, .int .i64 q5, .int .i64 q6, .bool q7]) := (OwnC.new _ [.int .i64 a1, .int .i64 a2, .int .i64 a3, .int .i64 a4, .int .i64 q1, .int .i64 q2, .int .i64 q3, .int .i64 q4, .int .i64 q5, .int .i64 q6, .bool q7] _ _ (by simp)).keep (grew_alloc _ _ _)
    have HZ0 : Hid (OwnC (((w.alloc (.cells #[.int .i64 nx, .slice A1 n1 c1, .slice A2 n2 c2] 28)).alloc (.cells #[.int .i64 a1, .int .i64 a2, .int .i64 a3, .int .i64 a4, .int .i64 q1, .int .i64 q2, .int .i64 q3, .int .i64 q4, .int .i64 q5, .int .i64 q6, .bool q7] 52)).alloc (.cells #[.int .i64 0, .slice none 0 0, .slice none 0 0] 28)) (w.heap.size + 1 + 1) [.int .i64 0, .slice none 0 0, .slice none 0 0]) := OwnC.new _ [.int .i64 0, .slice none 0 0, .slice none 0 0] _ _ (by simp)
    have HG0 : Hid (Grew w (((w.alloc (.cells #[.int .i64 nx, .slice A1 n1 c1, .slice A2 n2 c2] 28)).alloc (.cells #[.int .i64 a1, .int .i64 a2, .int .i64 a3, .int .i64 a4, .int .i64 q1, .int .i64 q2, .int .i64 q3, .int .i64 q4, .int .i64 q5, .int .i64 q6, .bool q7] 52)).alloc (.cells #[.int .i64 0, .slice none 0 0, .slice none 0 0] 28))) := grew_trans (grew_trans (grew_alloc _ _ _) (grew_alloc _ _ _)) (grew_alloc _ _ _)
    have d3 : ((IntKind.u64.wrap a1).tmod 6 == 3) = true := by simpa using k3
    go_enter Tryz.func11, Tryz.ntmps11
    go_upto_region 1 with fail
    generalize ((w.alloc (.cells #[.int .i64 nx, .slice A1 n1 c1, .slice A2 n2 c2] 28)).alloc (.cells #[.int .i64 a1, .int .i64 a2, .int .i64 a3, .int .i64 a4, .int .i64 q1, .int .i64 q2, .int .i64 q3, .int .i64 q4, .int .i64 q5, .int .i64 q6, .bool q7] 52)).alloc (.cells #[.int .i64 0, .slice none 0 0, .slice none 0 0] 28) = w0 at *
    have hsz : w.heap.size + 1 + 1 < w0.heap.size := HZ0.out.lt
    have x0 : w0.cell? ⟨w.heap.size, 0, none⟩ = some (.int .i64 nx) := HX0.out.at 0 _ rfl
    have x1 : w0.cell? ⟨w.heap.size, 1, none⟩ = some (.slice A1 n1 c1) := HX0.out.at 1 _ rfl
    have x2 : w0.cell? ⟨w.heap.size, 2, none⟩ = some (.slice A2 n2 c2) := HX0.out.at 2 _ rfl
    have s0 : w0.cell? ⟨w.heap.size + 1, 0, none⟩ = some (.int .i64 a1) := HA0.out.at 0 _ rfl
    have s1 : w0.cell? ⟨w.heap.size + 1, 1, none⟩ = some (.int .i64 a2) := HA0.out.at 1 _ rfl
    have s2 : w0.cell? ⟨w.heap.size + 1, 2, none⟩ = some (.int .i64 a3) := HA0.out.at 2 _ rfl
    have s3 : w0.cell? ⟨w.heap.size + 1, 3, none⟩ = some (.int .i64 a4) := HA0.out.at 3 _ rfl
    have s4 : w0.cell? ⟨w.heap.size + 1, 4, none⟩ = some (.int .i64 q1) := HA0.out.at 4 _ rfl
    have s5 : w0.cell? ⟨w.heap.size + 1, 5, none⟩ = some (.int .i64 q2) := HA0.out.at 5 _ rfl
    have s6 : w0.cell? ⟨w.heap.size + 1, 6, none⟩ = some (.int .i64 q3) := HA0.out.at 6 _ rfl
    have s7 : w0.cell? ⟨w.heap.size + 1, 7, none⟩ = some (.int .i64 q4) := HA0.out.at 7 _ rfl
    have s8 : w0.cell? ⟨w.heap.size + 1, 8, none⟩ = some (.int .i64 q5) := HA0.out.at 8 _ rfl
    have s9 : w0.cell? ⟨w.heap.size + 1, 9, none⟩ = some (.int .i64 q6) := HA0.out.at 9 _ rfl
    have s10 : w0.cell? ⟨w.heap.size + 1, 10, none⟩ = some (.bool q7) := HA0.out.at 10 _ rfl
    go_wp2_with (go_at_call 27; ((with_reducible refine (CC _ HG0.out).mono ?_); rintro e w1 ⟨B1, B2, d1, d2, rfl, hb, hg⟩; have HB1 := Lib.hid (hb.mono hsz); have HG1 := Lib.hid (grew_trans HG0.out hg); have HZ1 := Lib.hid (HZ0.out.keep hg); have hs1 := HZ1.out.lt; have y0 : w1.cell? ⟨w.heap.size + 1 + 1, 0, none⟩ = some (.int .i64 0) := HZ1.out.at 0 _ rfl; have f0 : w1.frozen? ⟨w.heap.size + 1 + 1, 0, none⟩ = false := HZ1.out.fr 0 (by decide); have y1 : w1.cell? ⟨w.heap.size + 1 + 1, 1, none⟩ = some (.slice none 0 0) := HZ1.out.at 1 _ rfl; have f1 : w1.frozen? ⟨w.heap.size + 1 + 1, 1, none⟩ = false := HZ1.out.fr 1 (by decide); have y2 : w1.cell? ⟨w.heap.size + 1 + 1, 2, none⟩ = some (.slice none 0 0) := HZ1.out.at 2 _ rfl; have f2 : w1.frozen? ⟨w.heap.size + 1 + 1, 2, none⟩ = false := HZ1.out.fr 2 (by decide); clear hb hg CC; clear x0 x1 x2 s0 s1 s2 s3 s4 s5 s6 s7 s8 s9 s10))
    have HP := (HZ1.out.all [.int .i64 ex, .slice B1 el.length d1, .slice B2 ep.length d2] rfl)
    have HGP := grew_put (w := w) (w.heap.size + 1 + 1) (by omega) [.int .i64 ex, .slice B1 el.length d1, .slice B2 ep.length d2] 0 _ HG1.out
    have HBP := (HB1.out.put (b2 := w.heap.size + 1 + 1) (by omega) [.int .i64 ex, .slice B1 el.length d1, .slice B2 ep.length d2])
    change bodyPost _ _ _ _ _ (putC w1 (w.heap.size + 1 + 1) 0 [.int .i64 ex, .slice B1 el.length d1, .slice B2 ep.length d2])
    clear y0 y1 y2 f0 f1 f2
    generalize (putC w1 (w.heap.size + 1 + 1) 0 [.int .i64 ex, .slice B1 el.length d1, .slice B2 ep.length d2]) = w9 at *
    have z0 : w9.cell? ⟨w.heap.size + 1 + 1, 0, none⟩ = _ := HP.at 0 _ rfl
    have z1 : w9.cell? ⟨w.heap.size + 1 + 1, 1, none⟩ = _ := HP.at 1 _ rfl
    have z2 : w9.cell? ⟨w.heap.size + 1 + 1, 2, none⟩ = _ := HP.at 2 _ rfl
    refine bodyPost_ret (v := .tuple #[.agg #[.int .i64 ex, .slice B1 el.length d1, .slice B2 ep.length d2], .int .i64 ee]) (by simp [results, Tryz.results11, go_sem, z0, z1, z2]) rfl ?_
    exact ⟨B1, B2, d1, d2, rfl, HBP.mono (by omega), HGP⟩
  · by_cases k4 : kind13 a = 4
    · have CC := fun w' (g : Grew w w') => corr_any b a.1.2.1 a.1.2.2.1 a.1.2.2.2 A1 A2 n1 n2 c1 c2 w' (h.keep g) hn
      have hE : doE b a = corrE b a.1.2.1 a.1.2.2.1 a.1.2.2.2 := by unfold doE; rw [if_neg k3, if_pos k4]
      have hB : doB b a = corrB b a.1.2.1 a.1.2.2.1 a.1.2.2.2 := by unfold doB; rw [if_neg k3, if_pos k4]
      rw [hE, hB]
      unfold BookN at CC
      rw [HKI.out] at k3 k4
      obtain ⟨⟨a1, a2, a3, a4⟩, ⟨⟨q1, q2, q3, q4, q5, q6⟩, q7⟩⟩ := a
      clear HPP HKI hE hB h
      dsimp only [vBk, vAc13, vTr] at *
      generalize corrE b a2 a3 a4 = ee at *
      generalize corrN b a2 a3 a4 = en at *
      generalize corrB b a2 a3 a4 = eb at *
      obtain ⟨ex, el, ep⟩ := eb
      dsimp only at CC
      generalize b.1 = nx at *
      have HX0 : Hid (OwnC (((w.alloc (.cells #[.int .i64 nx, .slice A1 n1 c1, .slice A2 n2 c2] 28)).alloc (.cells #[.int .i64 a1, .int .i64 a2, .int .i64 a3, .int .i64 a4, .int .i64 q1, .int .i64 q2, .int .i64 q3, .int .i64 q4, .int .i64 q5, .int .i64 q6, .bool q7] 52)).alloc (.cells #[.int .i64 0, .slice none 0 0, .slice none 0 0] 28)) w.heap.size [.int .i64 nx, .slice A1 n1 c1, .slice A2 n2 c2]) := ((OwnC.new w [.int .i64 nx, .slice A1 n1 c1, .slice A2 n2 c2] _ _ rfl).keep (grew_alloc _ _ _)).keep (grew_alloc _ _ _)
      have HA0 : Hid (OwnC (((w.alloc (.cells #[.int .i64 nx, .slice A1 n1 c1, .slice A2 n2 c2] 28)).alloc (.cells #[.int .i64 a1, .int .i64 a2, .int .i64 a3, .int .i64 a4, .int .i64 q1, .int .i64 q2, .int .i64 q3, .int .i64 q4, .int .i64 q5, .int .i64 q6, .bool q7] 52)).alloc (.cells #[.int .i64 0, .slice none 0 0, .slice none 0 0] 28)) (w.heap.size + 1) [.int .i64 a1, .int .i64 a2, .int .i64 a3, .int .i64 a4, .int .i64 q1, .int .i64 q2, .int .i64 q3, .int .i64 q4, .int .i64 q5, .int .i64 q6, .bool q7]) := (OwnC.new _ [.int .i64 a1, .int .i64 a2, .int .i64 a3, .int .i64 a4, .int .i64 q1, .int .i64 q2, .int .i64 q3, .int .i64 q4, .int .i64 q5, .int .i64 q6, .bool q7] _ _ (by simp)).keep (grew_alloc _ _ _)
      have HZ0 : Hid (OwnC (((w.alloc (.cells #[.int .i64 nx, .slice A1 n1 c1, .slice A2 n2 c2] 28)).alloc (.cells #[.int .i64 a1, .int .i64 a2, .int .i64 a3, .int .i64 a4, .int .i64 q1, .int .i64 q2, .int .i64 q3, .int .i64 q4, .int .i64 q5, .int .i64 q6, .bool q7] 52)).alloc (.cells #[.int .i64 0, .slice none 0 0, .slice none 0 0] 28)) (w.heap.size + 1 + 1) [.int .i64 0, .slice none 0 0, .slice none 0 0]) := OwnC.new _ [.int .i64 0, .slice none 0 0, .slice none 0 0] _ _ (by simp)
      have HG0 : Hid (Grew w (((w.alloc (.cells #[.int .i64 nx, .slice A1 n1 c1, .slice A2 n2 c2] 28)).alloc (.cells #[.int .i64 a1, .int .i64 a2, .int .i64 a3, .int .i64 a4, .int .i64 q1, .int .i64 q2, .int .i64 q3, .int .i64 q4, .int .i64 q5, .int .i64 q6, .bool q7] 52)).alloc (.cells #[.int .i64 0, .slice none 0 0, .slice none 0 0] 28))) := grew_trans (grew_trans (grew_alloc _ _ _) (grew_alloc _ _ _)) (grew_alloc _ _ _)
      have d3 : ((IntKind.u64.wrap a1).tmod 6 == 3) = false := by simpa using k3
      have d4 : ((IntKind.u64.wrap a1).tmod 6 == 4) = true := by simpa using k4
      go_enter Tryz.func11, Tryz.ntmps11
      go_upto_region 1 with fail
      generalize ((w.alloc (.cells #[.int .i64 nx, .slice A1 n1 c1, .slice A2 n2 c2] 28)).alloc (.cells #[.int .i64 a1, .int .i64 a2, .int .i64 a3, .int .i64 a4, .int .i64 q1, .int .i64 q2, .int .i64 q3, .int .i64 q4, .int .i64 q5, .int .i64 q6, .bool q7] 52)).alloc (.cells #[.int .i64 0, .slice none 0 0, .slice none 0 0] 28) = w0 at *
      have hsz : w.heap.size + 1 + 1 < w0.heap.size := HZ0.out.lt
      have x0 : w0.cell? ⟨w.heap.size, 0, none⟩ = some (.int .i64 nx) := HX0.out.at 0 _ rfl
      have x1 : w0.cell? ⟨w.heap.size, 1, none⟩ = some (.slice A1 n1 c1) := HX0.out.at 1 _ rfl
      have x2 : w0.cell? ⟨w.heap.size, 2, none⟩ = some (.slice A2 n2 c2) := HX0.out.at 2 _ rfl
      have s0 : w0.cell? ⟨w.heap.size + 1, 0, none⟩ = some (.int .i64 a1) := HA0.out.at 0 _ rfl
      have s1 : w0.cell? ⟨w.heap.size + 1, 1, none⟩ = some (.int .i64 a2) := HA0.out.at 1 _ rfl
      have s2 : w0.cell? ⟨w.heap.size + 1, 2, none⟩ = some (.int .i64 a3) := HA0.out.at 2 _ rfl
      have s3 : w0.cell? ⟨w.heap.size + 1, 3, none⟩ = some (.int .i64 a4) := HA0.out.at 3 _ rfl
      have s4 : w0.cell? ⟨w.heap.size + 1, 4, none⟩ = some (.int .i64 q1) := HA0.out.at 4 _ rfl
      have s5 : w0.cell? ⟨w.heap.size + 1, 5, none⟩ = some (.int .i64 q2) := HA0.out.at 5 _ rfl
      have s6 : w0.cell? ⟨w.heap.size + 1, 6, none⟩ = some (.int .i64 q3) := HA0.out.at 6 _ rfl
      have s7 : w0.cell? ⟨w.heap.size + 1, 7, none⟩ = some (.int .i64 q4) := HA0.out.at 7 _ rfl
      have s8 : w0.cell? ⟨w.heap.size + 1, 8, none⟩ = some (.int .i64 q5) := HA0.out.at 8 _ rfl
      have s9 : w0.cell? ⟨w.heap.size + 1, 9, none⟩ = some (.int .i64 q6) := HA0.out.at 9 _ rfl
      have s10 : w0.cell? ⟨w.heap.size + 1, 10, none⟩ = some (.bool q7) := HA0.out.at 10 _ rfl
      go_wp2_with (go_at_call 28; ((with_reducible refine (CC _ HG0.out).mono ?_); rintro e w1 ⟨B1, B2, d1, d2, rfl, hb, hg⟩; have HB1 := Lib.hid (hb.mono hsz); have HG1 := Lib.hid (grew_trans HG0.out hg); have HZ1 := Lib.hid (HZ0.out.keep hg); have hs1 := HZ1.out.lt; have y0 : w1.cell? ⟨w.heap.size + 1 + 1, 0, none⟩ = some (.int .i64 0) := HZ1.out.at 0 _ rfl; have f0 : w1.frozen? ⟨w.heap.size + 1 + 1, 0, none⟩ = false := HZ1.out.fr 0 (by decide); have y1 : w1.cell? ⟨w.heap.size + 1 + 1, 1, none⟩ = some (.slice none 0 0) := HZ1.out.at 1 _ rfl; have f1 : w1.frozen? ⟨w.heap.size + 1 + 1, 1, none⟩ = false := HZ1.out.fr 1 (by decide); have y2 : w1.cell? ⟨w.heap.size + 1 + 1, 2, none⟩ = some (.slice none 0 0) := HZ1.out.at 2 _ rfl; have f2 : w1.frozen? ⟨w.heap.size + 1 + 1, 2, none⟩ = false := HZ1.out.fr 2 (by decide); clear hb hg CC; clear x0 x1 x2 s0 s1 s2 s3 s4 s5 s6 s7 s8 s9 s10))
      have HP := (HZ1.out.all [.int .i64 ex, .slice B1 el.length d1, .slice B2 ep.length d2] rfl).keep (grew_alloc (putC w1 (w.heap.size + 1 + 1) 0 [.int .i64 ex, .slice B1 el.length d1, .slice B2 ep.length d2]) #[.int .i64 ex, .slice B1 el.length d1, .slice B2 ep.length d2] 28)
      have HGP := grew_trans (grew_put (w := w) (w.heap.size + 1 + 1) (by omega) [.int .i64 ex, .slice B1 el.length d1, .slice B2 ep.length d2] 0 _ HG1.out) (grew_alloc (putC w1 (w.heap.size + 1 + 1) 0 [.int .i64 ex, .slice B1 el.length d1, .slice B2 ep.length d2]) #[.int .i64 ex, .slice B1 el.length d1, .slice B2 ep.length d2] 28)
      have HBP := (HB1.out.put (b2 := w.heap.size + 1 + 1) (by omega) [.int .i64 ex, .slice B1 el.length d1, .slice B2 ep.length d2]).keep (grew_alloc (putC w1 (w.heap.size + 1 + 1) 0 [.int .i64 ex, .slice B1 el.length d1, .slice B2 ep.length d2]) #[.int .i64 ex, .slice B1 el.length d1, .slice B2 ep.length d2] 28)
      change bodyPost _ _ _ _ _ ((putC w1 (w.heap.size + 1 + 1) 0 [.int .i64 ex, .slice B1 el.length d1, .slice B2 ep.length d2]).alloc (.cells #[.int .i64 ex, .slice B1 el.length d1, .slice B2 ep.length d2] 28))
      clear y0 y1 y2 f0 f1 f2
      generalize ((putC w1 (w.heap.size + 1 + 1) 0 [.int .i64 ex, .slice B1 el.length d1, .slice B2 ep.length d2]).alloc (.cells #[.int .i64 ex, .slice B1 el.length d1, .slice B2 ep.length d2] 28)) = w9 at *
      have z0 : w9.cell? ⟨w.heap.size + 1 + 1, 0, none⟩ = _ := HP.at 0 _ rfl
      have z1 : w9.cell? ⟨w.heap.size + 1 + 1, 1, none⟩ = _ := HP.at 1 _ rfl
      have z2 : w9.cell? ⟨w.heap.size + 1 + 1, 2, none⟩ = _ := HP.at 2 _ rfl
      refine bodyPost_ret (v := .tuple #[.agg #[.int .i64 ex, .slice B1 el.length d1, .slice B2 ep.length d2], .int .i64 ee]) (by simp [results, Tryz.results11, go_sem, z0, z1, z2]) rfl ?_
      exact ⟨B1, B2, d1, d2, rfl, HBP.mono (by omega), HGP⟩
    · by_cases k5 : kind13 a = 5
      · have CC := fun w' (g : Grew w w') => clear_any b A1 A2 n1 n2 c1 c2 w' (h.keep g) (by omega)
        have hE : doE b a = 0 := by unfold doE; rw [if_neg k3, if_neg k4, if_pos k5]
        have hB : doB b a = clearB b := by unfold doB; rw [if_neg k3, if_neg k4, if_pos k5]
        rw [hE, hB]
        unfold BookP at CC
        rw [HKI.out] at k3 k4 k5
        obtain ⟨⟨a1, a2, a3, a4⟩, ⟨⟨q1, q2, q3, q4, q5, q6⟩, q7⟩⟩ := a
        clear HPP HKI hE hB h
        dsimp only [vBk, vAc13, vTr] at *
        generalize clearB b = eb at *
        obtain ⟨ex, el, ep⟩ := eb
        dsimp only at CC
        generalize b.1 = nx at *
        have HX0 : Hid (OwnC (((w.alloc (.cells #[.int .i64 nx, .slice A1 n1 c1, .slice A2 n2 c2] 28)).alloc (.cells #[.int .i64 a1, .int .i64 a2, .int .i64 a3, .int .i64 a4, .int .i64 q1, .int .i64 q2, .int .i64 q3, .int .i64 q4, .int .i64 q5, .int .i64 q6, .bool q7] 52)).alloc (.cells #[.int .i64 0, .slice none 0 0, .slice none 0 0] 28)) w.heap.size [.int .i64 nx, .slice A1 n1 c1, .slice A2 n2 c2]) := ((OwnC.new w [.int .i64 nx, .slice A1 n1 c1, .slice A2 n2 c2] _ _ rfl).keep (grew_alloc _ _ _)).keep (grew_alloc _ _ _)
        have HA0 : Hid (OwnC (((w.alloc (.cells #[.int .i64 nx, .slice A1 n1 c1, .slice A2 n2 c2] 28)).alloc (.cells #[.int .i64 a1, .int .i64 a2, .int .i64 a3, .int .i64 a4, .int .i64 q1, .int .i64 q2, .int .i64 q3, .int .i64 q4, .int .i64 q5, .int .i64 q6, .bool q7] 52)).alloc (.cells #[.int .i64 0, .slice none 0 0, .slice none 0 0] 28)) (w.heap.size + 1) [.int .i64 a1, .int .i64 a2, .int .i64 a3, .int .i64 a4, .int .i64 q1, .int .i64 q2, .int .i64 q3, .int .i64 q4, .int .i64 q5, .int .i64 q6, .bool q7]) := (OwnC.new _ [.int .i64 a1, .int .i64 a2, .int .i64 a3, .int .i64 a4, .int .i64 q1, .int .i64 q2, .int .i64 q3, .int .i64 q4, .int .i64 q5, .int .i64 q6, .bool q7] _ _ (by simp)).keep (grew_alloc _ _ _)
        have HZ0 : Hid (OwnC (((w.alloc (.cells #[.int .i64 nx, .slice A1 n1 c1, .slice A2 n2 c2] 28)).alloc (.cells #[.int .i64 a1, .int .i64 a2, .int .i64 a3, .int .i64 a4, .int .i64 q1, .int .i64 q2, .int .i64 q3, .int .i64 q4, .int .i64 q5, .int .i64 q6, .bool q7] 52)).alloc (.cells #[.int .i64 0, .slice none 0 0, .slice none 0 0] 28)) (w.heap.size + 1 + 1) [.int .i64 0, .slice none 0 0, .slice none 0 0]) := OwnC.new _ [.int .i64 0, .slice none 0 0, .slice none 0 0] _ _ (by simp)
        have HG0 : Hid (Grew w (((w.alloc (.cells #[.int .i64 nx, .slice A1 n1 c1, .slice A2 n2 c2] 28)).alloc (.cells #[.int .i64 a1, .int .i64 a2, .int .i64 a3, .int .i64 a4, .int .i64 q1, .int .i64 q2, .int .i64 q3, .int .i64 q4, .int .i64 q5, .int .i64 q6, .bool q7] 52)).alloc (.cells #[.int .i64 0, .slice none 0 0, .slice none 0 0] 28))) := grew_trans (grew_trans (grew_alloc _ _ _) (grew_alloc _ _ _)) (grew_alloc _ _ _)
        have d3 : ((IntKind.u64.wrap a1).tmod 6 == 3) = false := by simpa using k3
        have d4 : ((IntKind.u64.wrap a1).tmod 6 == 4) = false := by simpa using k4
        have d5 : ((IntKind.u64.wrap a1).tmod 6 == 5) = true := by simpa using k5
        go_enter Tryz.func11, Tryz.ntmps11
        go_upto_region 1 with fail
        generalize ((w.alloc (.cells #[.int .i64 nx, .slice A1 n1 c1, .slice A2 n2 c2] 28)).alloc (.cells #[.int .i64 a1, .int .i64 a2, .int .i64 a3, .int .i64 a4, .int .i64 q1, .int .i64 q2, .int .i64 q3, .int .i64 q4, .int .i64 q5, .int .i64 q6, .bool q7] 52)).alloc (.cells #[.int .i64 0, .slice none 0 0, .slice none 0 0] 28) = w0 at *
        have hsz : w.heap.size + 1 + 1 < w0.heap.size := HZ0.out.lt
        have x0 : w0.cell? ⟨w.heap.size, 0, none⟩ = some (.int .i64 nx) := HX0.out.at 0 _ rfl
        have x1 : w0.cell? ⟨w.heap.size, 1, none⟩ = some (.slice A1 n1 c1) := HX0.out.at 1 _ rfl
        have x2 : w0.cell? ⟨w.heap.size, 2, none⟩ = some (.slice A2 n2 c2) := HX0.out.at 2 _ rfl
        have s0 : w0.cell? ⟨w.heap.size + 1, 0, none⟩ = some (.int .i64 a1) := HA0.out.at 0 _ rfl
        have s1 : w0.cell? ⟨w.heap.size + 1, 1, none⟩ = some (.int .i64 a2) := HA0.out.at 1 _ rfl
        have s2 : w0.cell? ⟨w.heap.size + 1, 2, none⟩ = some (.int .i64 a3) := HA0.out.at 2 _ rfl
        have s3 : w0.cell? ⟨w.heap.size + 1, 3, none⟩ = some (.int .i64 a4) := HA0.out.at 3 _ rfl
        have s4 : w0.cell? ⟨w.heap.size + 1, 4, none⟩ = some (.int .i64 q1) := HA0.out.at 4 _ rfl
        have s5 : w0.cell? ⟨w.heap.size + 1, 5, none⟩ = some (.int .i64 q2) := HA0.out.at 5 _ rfl
        have s6 : w0.cell? ⟨w.heap.size + 1, 6, none⟩ = some (.int .i64 q3) := HA0.out.at 6 _ rfl
        have s7 : w0.cell? ⟨w.heap.size + 1, 7, none⟩ = some (.int .i64 q4) := HA0.out.at 7 _ rfl
        have s8 : w0.cell? ⟨w.heap.size + 1, 8, none⟩ = some (.int .i64 q5) := HA0.out.at 8 _ rfl
        have s9 : w0.cell? ⟨w.heap.size + 1, 9, none⟩ = some (.int .i64 q6) := HA0.out.at 9 _ rfl
        have s10 : w0.cell? ⟨w.heap.size + 1, 10, none⟩ = some (.bool q7) := HA0.out.at 10 _ rfl
        go_wp2_with (go_at_call 29; ((with_reducible refine (CC _ HG0.out).mono ?_); rintro e w1 ⟨B1, B2, d1, d2, rfl, hb, hg⟩; have HB1 := Lib.hid (hb.mono hsz); have HG1 := Lib.hid (grew_trans HG0.out hg); have HZ1 := Lib.hid (HZ0.out.keep hg); have hs1 := HZ1.out.lt; have y0 : w1.cell? ⟨w.heap.size + 1 + 1, 0, none⟩ = some (.int .i64 0) := HZ1.out.at 0 _ rfl; have f0 : w1.frozen? ⟨w.heap.size + 1 + 1, 0, none⟩ = false := HZ1.out.fr 0 (by decide); have y1 : w1.cell? ⟨w.heap.size + 1 + 1, 1, none⟩ = some (.slice none 0 0) := HZ1.out.at 1 _ rfl; have f1 : w1.frozen? ⟨w.heap.size + 1 + 1, 1, none⟩ = false := HZ1.out.fr 1 (by decide); have y2 : w1.cell? ⟨w.heap.size + 1 + 1, 2, none⟩ = some (.slice none 0 0) := HZ1.out.at 2 _ rfl; have f2 : w1.frozen? ⟨w.heap.size + 1 + 1, 2, none⟩ = false := HZ1.out.fr 2 (by decide); clear hb hg CC; clear x0 x1 x2 s0 s1 s2 s3 s4 s5 s6 s7 s8 s9 s10))
        have HP := (HZ1.out.all [.int .i64 ex, .slice B1 el.length d1, .slice B2 ep.length d2] rfl)
        have HGP := grew_put (w := w) (w.heap.size + 1 + 1) (by omega) [.int .i64 ex, .slice B1 el.length d1, .slice B2 ep.length d2] 0 _ HG1.out
        have HBP := (HB1.out.put (b2 := w.heap.size + 1 + 1) (by omega) [.int .i64 ex, .slice B1 el.length d1, .slice B2 ep.length d2])
        change bodyPost _ _ _ _ _ (putC w1 (w.heap.size + 1 + 1) 0 [.int .i64 ex, .slice B1 el.length d1, .slice B2 ep.length d2])
        clear y0 y1 y2 f0 f1 f2
        generalize (putC w1 (w.heap.size + 1 + 1) 0 [.int .i64 ex, .slice B1 el.length d1, .slice B2 ep.length d2]) = w9 at *
        have z0 : w9.cell? ⟨w.heap.size + 1 + 1, 0, none⟩ = _ := HP.at 0 _ rfl
        have z1 : w9.cell? ⟨w.heap.size + 1 + 1, 1, none⟩ = _ := HP.at 1 _ rfl
        have z2 : w9.cell? ⟨w.heap.size + 1 + 1, 2, none⟩ = _ := HP.at 2 _ rfl
        refine bodyPost_ret (v := .tuple #[.agg #[.int .i64 ex, .slice B1 el.length d1, .slice B2 ep.length d2], .int .i64 0]) (by simp [results, Tryz.results11, go_sem, z0, z1, z2]) rfl ?_
        exact ⟨B1, B2, d1, d2, rfl, HBP.mono (by omega), HGP⟩
      · have CC := fun w' (g : Grew w w') => enter_any b a.2 A1 A2 n1 n2 c1 c2 w' (h.keep g) hn
        have hE : doE b a = enterE b a.2 := by unfold doE; rw [if_neg k3, if_neg k4, if_neg k5]
        have hB : doB b a = enterB b a.2 := by unfold doB; rw [if_neg k3, if_neg k4, if_neg k5]
        rw [hE, hB]
        unfold BookN at CC
        rw [HKI.out] at k3 k4 k5
        obtain ⟨⟨a1, a2, a3, a4⟩, ⟨⟨q1, q2, q3, q4, q5, q6⟩, q7⟩⟩ := a
        clear HPP HKI hE hB h
        dsimp only [vBk, vAc13, vTr] at *
        generalize enterE b ((q1, q2, q3, q4, q5, q6), q7) = ee at *
        generalize enterN b ((q1, q2, q3, q4, q5, q6), q7) = en at *
        generalize enterB b ((q1, q2, q3, q4, q5, q6), q7) = eb at *
        obtain ⟨ex, el, ep⟩ := eb
        dsimp only at CC
        generalize b.1 = nx at *
        have HX0 : Hid (OwnC (((w.alloc (.cells #[.int .i64 nx, .slice A1 n1 c1, .slice A2 n2 c2] 28)).alloc (.cells #[.int .i64 a1, .int .i64 a2, .int .i64 a3, .int .i64 a4, .int .i64 q1, .int .i64 q2, .int .i64 q3, .int .i64 q4, .int .i64 q5, .int .i64 q6, .bool q7] 52)).alloc (.cells #[.int .i64 0, .slice none 0 0, .slice none 0 0] 28)) w.heap.size [.int .i64 nx, .slice A1 n1 c1, .slice A2 n2 c2]) := ((OwnC.new w [.int .i64 nx, .slice A1 n1 c1, .slice A2 n2 c2] _ _ rfl).keep (grew_alloc _ _ _)).keep (grew_alloc _ _ _)
        have HA0 : Hid (OwnC (((w.alloc (.cells #[.int .i64 nx, .slice A1 n1 c1, .slice A2 n2 c2] 28)).alloc (.cells #[.int .i64 a1, .int .i64 a2, .int .i64 a3, .int .i64 a4, .int .i64 q1, .int .i64 q2, .int .i64 q3, .int .i64 q4, .int .i64 q5, .int .i64 q6, .bool q7] 52)).alloc (.cells #[.int .i64 0, .slice none 0 0, .slice none 0 0] 28)) (w.heap.size + 1) [.int .i64 a1, .int .i64 a2, .int .i64 a3, .int .i64 a4, .int .i64 q1, .int .i64 q2, .int .i64 q3, .int .i64 q4, .int .i64 q5, .int .i64 q6, .bool q7]) := (OwnC.new _ [.int .i64 a1, .int .i64 a2, .int .i64 a3, .int .i64 a4, .int .i64 q1, .int .i64 q2, .int .i64 q3, .int .i64 q4, .int .i64 q5, .int .i64 q6, .bool q7] _ _ (by simp)).keep (grew_alloc _ _ _)
        have HZ0 : Hid (OwnC (((w.alloc (.cells #[.int .i64 nx, .slice A1 n1 c1, .slice A2 n2 c2] 28)).alloc (.cells #[.int .i64 a1, .int .i64 a2, .int .i64 a3, .int .i64 a4, .int .i64 q1, .int .i64 q2, .int .i64 q3, .int .i64 q4, .int .i64 q5, .int .i64 q6, .bool q7] 52)).alloc (.cells #[.int .i64 0, .slice none 0 0, .slice none 0 0] 28)) (w.heap.size + 1 + 1) [.int .i64 0, .slice none 0 0, .slice none 0 0]) := OwnC.new _ [.int .i64 0, .slice none 0 0, .slice none 0 0] _ _ (by simp)
        have HG0 : Hid (Grew w (((w.alloc (.cells #[.int .i64 nx, .slice A1 n1 c1, .slice A2 n2 c2] 28)).alloc (.cells #[.int .i64 a1, .int .i64 a2, .int .i64 a3, .int .i64 a4, .int .i64 q1, .int .i64 q2, .int .i64 q3, .int .i64 q4, .int .i64 q5, .int .i64 q6, .bool q7] 52)).alloc (.cells #[.int .i64 0, .slice none 0 0, .slice none 0 0] 28))) := grew_trans (grew_trans (grew_alloc _ _ _) (grew_alloc _ _ _)) (grew_alloc _ _ _)
        have d3 : ((IntKind.u64.wrap a1).tmod 6 == 3) = false := by simpa using k3
        have d4 : ((IntKind.u64.wrap a1).tmod 6 == 4) = false := by simpa using k4
        have d5 : ((IntKind.u64.wrap a1).tmod 6 == 5) = false := by simpa using k5
        go_enter Tryz.func11, Tryz.ntmps11
        go_upto_region 1 with fail
        generalize ((w.alloc (.cells #[.int .i64 nx, .slice A1 n1 c1, .slice A2 n2 c2] 28)).alloc (.cells #[.int .i64 a1, .int .i64 a2, .int .i64 a3, .int .i64 a4, .int .i64 q1, .int .i64 q2, .int .i64 q3, .int .i64 q4, .int .i64 q5, .int .i64 q6, .bool q7] 52)).alloc (.cells #[.int .i64 0, .slice none 0 0, .slice none 0 0] 28) = w0 at *
        have hsz : w.heap.size + 1 + 1 < w0.heap.size := HZ0.out.lt
        have x0 : w0.cell? ⟨w.heap.size, 0, none⟩ = some (.int .i64 nx) := HX0.out.at 0 _ rfl
        have x1 : w0.cell? ⟨w.heap.size, 1, none⟩ = some (.slice A1 n1 c1) := HX0.out.at 1 _ rfl
        have x2 : w0.cell? ⟨w.heap.size, 2, none⟩ = some (.slice A2 n2 c2) := HX0.out.at 2 _ rfl
        have s0 : w0.cell? ⟨w.heap.size + 1, 0, none⟩ = some (.int .i64 a1) := HA0.out.at 0 _ rfl
        have s1 : w0.cell? ⟨w.heap.size + 1, 1, none⟩ = some (.int .i64 a2) := HA0.out.at 1 _ rfl
        have s2 : w0.cell? ⟨w.heap.size + 1, 2, none⟩ = some (.int .i64 a3) := HA0.out.at 2 _ rfl
        have s3 : w0.cell? ⟨w.heap.size + 1, 3, none⟩ = some (.int .i64 a4) := HA0.out.at 3 _ rfl
        have s4 : w0.cell? ⟨w.heap.size + 1, 4, none⟩ = some (.int .i64 q1) := HA0.out.at 4 _ rfl
        have s5 : w0.cell? ⟨w.heap.size + 1, 5, none⟩ = some (.int .i64 q2) := HA0.out.at 5 _ rfl
        have s6 : w0.cell? ⟨w.heap.size + 1, 6, none⟩ = some (.int .i64 q3) := HA0.out.at 6 _ rfl
        have s7 : w0.cell? ⟨w.heap.size + 1, 7, none⟩ = some (.int .i64 q4) := HA0.out.at 7 _ rfl
        have s8 : w0.cell? ⟨w.heap.size + 1, 8, none⟩ = some (.int .i64 q5) := HA0.out.at 8 _ rfl
        have s9 : w0.cell? ⟨w.heap.size + 1, 9, none⟩ = some (.int .i64 q6) := HA0.out.at 9 _ rfl
        have s10 : w0.cell? ⟨w.heap.size + 1, 10, none⟩ = some (.bool q7) := HA0.out.at 10 _ rfl
        go_wp2_with (go_at_call 30; ((with_reducible refine (CC _ HG0.out).mono ?_); rintro e w1 ⟨B1, B2, d1, d2, rfl, hb, hg⟩; have HB1 := Lib.hid (hb.mono hsz); have HG1 := Lib.hid (grew_trans HG0.out hg); have HZ1 := Lib.hid (HZ0.out.keep hg); have hs1 := HZ1.out.lt; have y0 : w1.cell? ⟨w.heap.size + 1 + 1, 0, none⟩ = some (.int .i64 0) := HZ1.out.at 0 _ rfl; have f0 : w1.frozen? ⟨w.heap.size + 1 + 1, 0, none⟩ = false := HZ1.out.fr 0 (by decide); have y1 : w1.cell? ⟨w.heap.size + 1 + 1, 1, none⟩ = some (.slice none 0 0) := HZ1.out.at 1 _ rfl; have f1 : w1.frozen? ⟨w.heap.size + 1 + 1, 1, none⟩ = false := HZ1.out.fr 1 (by decide); have y2 : w1.cell? ⟨w.heap.size + 1 + 1, 2, none⟩ = some (.slice none 0 0) := HZ1.out.at 2 _ rfl; have f2 : w1.frozen? ⟨w.heap.size + 1 + 1, 2, none⟩ = false := HZ1.out.fr 2 (by decide); clear hb hg CC; clear x0 x1 x2 s0 s1 s2 s3 s4 s5 s6 s7 s8 s9 s10))
        have HP := (HZ1.out.all [.int .i64 ex, .slice B1 el.length d1, .slice B2 ep.length d2] rfl).keep (grew_alloc (putC w1 (w.heap.size + 1 + 1) 0 [.int .i64 ex, .slice B1 el.length d1, .slice B2 ep.length d2]) #[.int .i64 ex, .slice B1 el.length d1, .slice B2 ep.length d2] 28)
        have HGP := grew_trans (grew_put (w := w) (w.heap.size + 1 + 1) (by omega) [.int .i64 ex, .slice B1 el.length d1, .slice B2 ep.length d2] 0 _ HG1.out) (grew_alloc (putC w1 (w.heap.size + 1 + 1) 0 [.int .i64 ex, .slice B1 el.length d1, .slice B2 ep.length d2]) #[.int .i64 ex, .slice B1 el.length d1, .slice B2 ep.length d2] 28)
        have HBP := (HB1.out.put (b2 := w.heap.size + 1 + 1) (by omega) [.int .i64 ex, .slice B1 el.length d1, .slice B2 ep.length d2]).keep (grew_alloc (putC w1 (w.heap.size + 1 + 1) 0 [.int .i64 ex, .slice B1 el.length d1, .slice B2 ep.length d2]) #[.int .i64 ex, .slice B1 el.length d1, .slice B2 ep.length d2] 28)
        change bodyPost _ _ _ _ _ ((putC w1 (w.heap.size + 1 + 1) 0 [.int .i64 ex, .slice B1 el.length d1, .slice B2 ep.length d2]).alloc (.cells #[.int .i64 ex, .slice B1 el.length d1, .slice B2 ep.length d2] 28))
        clear y0 y1 y2 f0 f1 f2
        generalize ((putC w1 (w.heap.size + 1 + 1) 0 [.int .i64 ex, .slice B1 el.length d1, .slice B2 ep.length d2]).alloc (.cells #[.int .i64 ex, .slice B1 el.length d1, .slice B2 ep.length d2] 28)) = w9 at *
        have z0 : w9.cell? ⟨w.heap.size + 1 + 1, 0, none⟩ = _ := HP.at 0 _ rfl
        have z1 : w9.cell? ⟨w.heap.size + 1 + 1, 1, none⟩ = _ := HP.at 1 _ rfl
        have z2 : w9.cell? ⟨w.heap.size + 1 + 1, 2, none⟩ = _ := HP.at 2 _ rfl
        refine bodyPost_ret (v := .tuple #[.agg #[.int .i64 ex, .slice B1 el.length d1, .slice B2 ep.length d2], .int .i64 ee]) (by simp [results, Tryz.results11, go_sem, z0, z1, z2]) rfl ?_
        exact ⟨B1, B2, d1, d2, rfl, HBP.mono (by omega), HGP⟩

end Go.Proofs.YtahioajpmlochaaGreat.NumK
namespace Go.Proofs.YtahioajpmlochaaGreat.NumK
open Go.RowKit
set_option linter.unusedVariables false

/-! ### a book behind acts -/
def growS (b : Bk) (a : Ac13) : Bk := if doE b a = 0 then doB b a else b
def growL (l : List Ac13) : Bk := l.foldl growS bk0
theorem grow_snoc (l : List Ac13) {k : Nat} (h : k < l.length) : growL (l.take (k + 1)) = growS (growL (l.take k)) (l.getD k ac130) := by
  have : l.take (k + 1) = l.take k ++ [l.getD k ac130] := by
    rw [List.take_add_one, List.getElem?_eq_getElem h]
    simp [List.getD_eq_getElem?_getD, h]
  rw [this]; unfold growL; rw [List.foldl_append]; rfl
theorem grow_take (l : List Ac13) {n k : Nat} (hn : l.length = n) (hk : k ≤ n) (h : ¬ (k < n ∧ k < 100)) (h2 : k ≤ 100) : growL (l.take k) = growL (l.take 100) := by
  have : l.take k = l.take 100 := by
    by_cases h3 : k = 100
    · rw [h3]
    · rw [List.take_of_length_le (by omega), List.take_of_length_le (by omega)]
  rw [this]
theorem GB.grow (l : List Ac13) : ∀ k, GB (growL (l.take k)) k
  | 0 => GB.zero
  | k + 1 => by
    by_cases h : k < l.length
    · rw [grow_snoc l h]
      unfold growS
      split
      · rename_i he; exact (GB.grow l k).do he
      · exact (GB.grow l k).mono (Nat.le_succ _)
    · rw [show l.take (k + 1) = l.take k by rw [List.take_of_length_le (by omega), List.take_of_length_le (by omega)]]
      exact (GB.grow l k).mono (Nat.le_succ _)
/-- An act in memory. -/
def CAc13 (w : World) (b p : Nat) (a : Ac13) : Prop :=
  w.cell? ⟨b, p, none⟩ = some (.int .i64 a.1.1) ∧ w.cell? ⟨b, p + 1, none⟩ = some (.int .i64 a.1.2.1) ∧ w.cell? ⟨b, p + 2, none⟩ = some (.int .i64 a.1.2.2.1) ∧ w.cell? ⟨b, p + 3, none⟩ = some (.int .i64 a.1.2.2.2)
    ∧ w.cell? ⟨b, p + 4, none⟩ = some (.int .i64 a.2.1.1) ∧ w.cell? ⟨b, p + 5, none⟩ = some (.int .i64 a.2.1.2.1) ∧ w.cell? ⟨b, p + 6, none⟩ = some (.int .i64 a.2.1.2.2.1) ∧ w.cell? ⟨b, p + 7, none⟩ = some (.int .i64 a.2.1.2.2.2.1)
    ∧ w.cell? ⟨b, p + 8, none⟩ = some (.int .i64 a.2.1.2.2.2.2.1) ∧ w.cell? ⟨b, p + 9, none⟩ = some (.int .i64 a.2.1.2.2.2.2.2) ∧ w.cell? ⟨b, p + 10, none⟩ = some (.bool a.2.2)
theorem CAc13.keep {w w' : World} {b p : Nat} {t : Ac13} (h : CAc13 w b p t) (g : Grew w w') (hb : b < w.heap.size) : CAc13 w' b p t := by
  obtain ⟨h1, h2, h3, h4, h5, h6, h7, h8, h9, h10, h11⟩ := h
  exact ⟨(grew_cell g (p := ⟨b, _, none⟩) hb).trans h1, (grew_cell g (p := ⟨b, _, none⟩) hb).trans h2, (grew_cell g (p := ⟨b, _, none⟩) hb).trans h3, (grew_cell g (p := ⟨b, _, none⟩) hb).trans h4, (grew_cell g (p := ⟨b, _, none⟩) hb).trans h5, (grew_cell g (p := ⟨b, _, none⟩) hb).trans h6, (grew_cell g (p := ⟨b, _, none⟩) hb).trans h7, (grew_cell g (p := ⟨b, _, none⟩) hb).trans h8, (grew_cell g (p := ⟨b, _, none⟩) hb).trans h9, (grew_cell g (p := ⟨b, _, none⟩) hb).trans h10, (grew_cell g (p := ⟨b, _, none⟩) hb).trans h11⟩
theorem RowE.ac13 {w : World} {n : Nat} {l : List Ac13} {A : Option Addr} (h : RowE enAc13 w A n l) {j : Nat} (hj : j < n) : ∃ b o, A = some ⟨b, o, none⟩ ∧ b < w.heap.size ∧ ∀ j, j < n → CAc13 w b (o + j * 11) (l.getD j ac130) := by
  have hl := h.len
  obtain ⟨b, o, e, hb, hc⟩ := h.at (by omega)
  refine ⟨b, o, e, hb, fun j hj => ?_⟩
  have hj' : j < l.length := by omega
  rw [getD_at l ac130 j hj']
  exact ⟨hc j hj' 0 (by decide), hc j hj' 1 (by decide), hc j hj' 2 (by decide), hc j hj' 3 (by decide), hc j hj' 4 (by decide), hc j hj' 5 (by decide), hc j hj' 6 (by decide), hc j hj' 7 (by decide), hc j hj' 8 (by decide), hc j hj' 9 (by decide), hc j hj' 10 (by decide)⟩
set_option maxRecDepth 100000 in
set_option maxHeartbeats 8000000 in
theorem grown13_any (A : Option Addr) (n c : Nat) (l : List Ac13) (w : World) (h : RowE enAc13 w A n l) (hn : n ≤ 100000) :
    Calls Tryz.prog 4 #[.slice A n c] w (BookP (growL (l.take 100)) w) := by
  have HL := Lib.hid h.len
  have HI := Lib.hid h
  have HF : Hid (∀ w' A' A'' c' c'', OwnB w' w.heap.size (growL (l.take 100)) A' A'' c' c'' → Grew w w' → BookP (growL (l.take 100)) w (.returned (.agg #[.int .i64 (growL (l.take 100)).1, .slice A' (growL (l.take 100)).2.1.length c', .slice A'' (growL (l.take 100)).2.2.length c''])) w') := fun w' A' A'' c' c'' ho g => ⟨A', A'', c', c'', rfl, ho, g⟩
  generalize BookP (growL (l.take 100)) w = PP at *
  clear h
  go_enter Tryz.func4, Tryz.ntmps4
  go_upto_region 3 with fail
  go_loopw [4] (fun vi wr => ∃ (k : Nat) (nx : Int) (lt : List Tr) (lp : List Po) (A1 A2 : Option Addr) (c1 c2 : Nat), vi = .int .i64 k ∧ k ≤ n ∧ k ≤ 100 ∧ Hid (growL (l.take k) = (nx, lt, lp)) ∧ Hid (OwnC wr (w.heap.size + 1) [.int .i64 nx, .slice A1 lt.length c1, .slice A2 lp.length c2]) ∧ Hid (OwnC wr w.heap.size [.int .i64 0, .slice none 0 0, .slice none 0 0]) ∧ Hid (OwnB wr (w.heap.size + 2) (nx, lt, lp) A1 A2 c1 c2) ∧ Hid (Grew w wr)) (fun vi _ => n - (intOf vi).toNat)
  case atStart => exact ⟨0, 0, [], [], none, none, 0, 0, rfl, Nat.zero_le _, Nat.zero_le _, rfl, OwnC.new _ _ _ _ (by simp), (OwnC.new w _ _ _ rfl).keep (grew_alloc _ _ _), OwnB.nil _ _, grew_trans (grew_alloc _ _ _) (grew_alloc _ _ _)⟩
  case round =>
    obtain ⟨k, nx, lt, lp, A1, A2, c1, c2, rfl, hk, hk2, HE, HX, HR, HB, HG⟩ := hrel
    by_cases hlt : k < n ∧ k < 100
    · obtain ⟨b, o, rfl, hb, hc⟩ := (HI.out.keep HG.out).ac13 hlt.1
      have HC1 : Hid (∀ w', Grew wr w' → CAc13 w' b (o + k * 11) (l.getD k ac130)) := fun w' g => (hc k hlt.1).keep g hb
      have HGB := Lib.hid (GB.grow l k)
      rw [HE.out] at HGB
      have hlen := right_lens HGB.out.right
      have CD := fun w' (g : Grew wr w') => do13_any (nx, lt, lp) (l.getD k ac130) A1 A2 lt.length lp.length c1 c2 w' (HB.out.in.keep g) ⟨by have := hlen.1; dsimp only at this; omega, by have := hlen.2; dsimp only at this; omega⟩
      unfold BookE at CD
      have HNX : Hid (growL (l.take (k + 1)) = growS (nx, lt, lp) (l.getD k ac130)) := by show _ = _; rw [grow_snoc l (by rw [HL.out]; exact hlt.1), HE.out]
      clear hc hb
      have i0 : (0 : Int) ≤ (k : Int) := by omega
      have i1 : (k : Int) < (n : Int) := by omega
      have i2 : (k : Int) < 100 := by omega
      unfold growS at HNX
      generalize l.getD k ac130 = x at *
      generalize doE (nx, lt, lp) x = ee at *
      generalize hdb : doB (nx, lt, lp) x = eb at *
      clear hdb
      obtain ⟨ex, el, ep⟩ := eb
      obtain ⟨⟨a1, a2, a3, a4⟩, ⟨⟨q1, q2, q3, q4, q5, q6⟩, q7⟩⟩ := x
      dsimp only [vBk, vAc13, vTr] at CD
      go_upto_region 5 with fail
      have hsz : w.heap.size + 2 ≤ wr.heap.size := by have := HX.out.lt; omega
      refine wp_region_noPanic ?_
      refine wp_region_held_drew (S := fun w' => Grew wr w') (by kernel_rfl) (grew_drew (grew_refl _)) (fun hHeld => ?_)
      (refine wpAnyH_take (i := 0) (oi := { dst := some 19, op := Op.load 28 (Operand.tmp 3), type := 28, pos := "law.go:94", after := #[], guard := none }) (v := ?_) rfl (by kernel_rfl) (by kernel_rfl) (by kernel_rfl) (fun _ _ _ h => h) (Or.inl ⟨by rfl, ?_⟩) (by assumption) ?_; rotate_left; · (intro w hSw; (try dsimp only at hSw); have x0 := (HX.out.keep hSw).at 0 (.int .i64 nx) rfl; have x1 := (HX.out.keep hSw).at 1 (.slice A1 lt.length c1) rfl; have x2 := (HX.out.keep hSw).at 2 (.slice A2 lp.length c2) rfl; go_simp; (first | done | with_reducible rfl)))
      try simp only [Act.put, List.setIfInBounds_toArray, List.set_cons_zero, List.set_cons_succ]
      (refine wpAnyH_take (i := 1) (oi := { dst := some 20, op := Op.move (Operand.tmp 0), type := 22, pos := "law.go:94", after := #[], guard := none }) (v := ?_) rfl (by kernel_rfl) (by kernel_rfl) (by kernel_rfl) (fun _ _ _ h => h) (Or.inl ⟨by rfl, ?_⟩) (by assumption) ?_; rotate_left; · (intro w hSw; (try dsimp only at hSw); skip; go_simp; (first | done | with_reducible rfl)))
      try simp only [Act.put, List.setIfInBounds_toArray, List.set_cons_zero, List.set_cons_succ]
      (refine wpAnyH_take (i := 2) (oi := { dst := some 21, op := Op.move (Operand.tmp 4), type := 3, pos := "law.go:94", after := #[], guard := none }) (v := ?_) rfl (by kernel_rfl) (by kernel_rfl) (by kernel_rfl) (fun _ _ _ h => h) (Or.inl ⟨by rfl, ?_⟩) (by assumption) ?_; rotate_left; · (intro w hSw; (try dsimp only at hSw); skip; go_simp; (first | done | with_reducible rfl)))
      try simp only [Act.put, List.setIfInBounds_toArray, List.set_cons_zero, List.set_cons_succ]
      (refine wpAnyH_take (i := 3) (oi := { dst := some 22, op := Op.indexAddr 22 (Operand.tmp 20) (Operand.tmp 21), type := 0, pos := "law.go:94", after := #[{ on := 1, ground := Ground.data }, { on := 2, ground := Ground.data }], guard := none }) (v := ?_) rfl (by kernel_rfl) (by kernel_rfl) (by kernel_rfl) (fun _ _ _ h => h) (Or.inl ⟨by rfl, ?_⟩) (by assumption) ?_; rotate_left; · (intro w hSw; (try dsimp only at hSw); skip; go_simp; (first | done | with_reducible rfl)))
      try simp only [Act.put, List.setIfInBounds_toArray, List.set_cons_zero, List.set_cons_succ]
      (refine wpAnyH_take (i := 4) (oi := { dst := some 23, op := Op.load 52 (Operand.tmp 22), type := 52, pos := "law.go:94", after := #[{ on := 3, ground := Ground.data }], guard := none }) (v := ?_) rfl (by kernel_rfl) (by kernel_rfl) (by kernel_rfl) (fun _ _ _ h => h) (Or.inl ⟨by rfl, ?_⟩) (by assumption) ?_; rotate_left; · (intro w hSw; (try dsimp only at hSw); obtain ⟨b0, b1, b2, b3, b4, b5, b6, b7, b8, b9, b10⟩ := HC1.out _ hSw; dsimp only at b0 b1 b2 b3 b4 b5 b6 b7 b8 b9 b10; go_simp; (first | done | with_reducible rfl)))
      try simp only [Act.put, List.setIfInBounds_toArray, List.set_cons_zero, List.set_cons_succ]
      refine wpAnyH_ready (rs := [5, 9]) (by kernel_rfl) (by simp) ?_
      refine (AllReadyH.cons (o := { dst := some 24, op := Op.call { callee := Callee.value (Operand.func 11), args := #[Operand.tmp 19, Operand.tmp 23], argTypes := #[28, 52] }, type := 43, pos := "law.go:94", after := #[{ on := 0, ground := Ground.data }, { on := 4, ground := Ground.data }], guard := none }) rfl (fun K hK => ?_) (AllReadyH.cons (o := { dst := some 5, op := Op.alloc 28, type := 0, pos := "law.go:94", after := #[], guard := none }) rfl (fun K hK => ?_) AllReadyH.nil))
      · go_simp
        (go_at_call 11; (with_reducible refine (CD _ (by repeat (first | exact HG5.out | exact grew_refl _ | refine grew_drew ?_ | refine grew_trans ?_ (grew_alloc _ _ _)))).mono ?_); rintro e w5 ⟨B1, B2, d1, d2, rfl, hb, hg⟩; have HB6 := Lib.hid hb; have HB5 := Lib.hid (hb.mono (b2 := w.heap.size + 2) (Nat.le_trans hsz (show Grew wr _ from (by repeat (first | exact HG5.out | exact grew_refl _ | refine grew_drew ?_ | refine grew_trans ?_ (grew_alloc _ _ _)))).size)); have HR5 := Lib.hid hg; have HG5 : Hid (Grew wr w5) := grew_trans (by repeat (first | exact HG5.out | exact grew_refl _ | refine grew_drew ?_ | refine grew_trans ?_ (grew_alloc _ _ _))) hg; clear hb hg)
        refine hK.out _ _ ?_ (fun hHeld => ?_)
        · first
          | exact (by repeat (first | exact HG5.out | exact grew_refl _ | refine grew_drew ?_ | refine grew_trans ?_ (grew_alloc _ _ _)))
        clear hK K
        try simp only [Act.put, List.setIfInBounds_toArray, List.set_cons_zero, List.set_cons_succ]
        (refine wpAnyH_take (i := 6) (oi := { dst := some 18, op := Op.move (Operand.tmp 24), type := 43, pos := "law.go:94", after := #[{ on := 5, ground := Ground.data }], guard := none }) (v := ?_) rfl (by kernel_rfl) (by kernel_rfl) (by kernel_rfl) (fun _ _ _ h => h) (Or.inl ⟨by rfl, ?_⟩) (by assumption) ?_; rotate_left; · (intro w hSw; (try dsimp only at hSw); skip; go_simp; (first | done | with_reducible rfl)))
        try simp only [Act.put, List.setIfInBounds_toArray, List.set_cons_zero, List.set_cons_succ]
        (refine wpAnyH_take (i := 7) (oi := { dst := some 25, op := Op.extract (Operand.tmp 18) 0, type := 28, pos := "law.go:94", after := #[{ on := 6, ground := Ground.data }], guard := none }) (v := ?_) rfl (by kernel_rfl) (by kernel_rfl) (by kernel_rfl) (fun _ _ _ h => h) (Or.inl ⟨by rfl, ?_⟩) (by assumption) ?_; rotate_left; · (intro w hSw; (try dsimp only at hSw); skip; go_simp; (first | done | with_reducible rfl)))
        try simp only [Act.put, List.setIfInBounds_toArray, List.set_cons_zero, List.set_cons_succ]
        (refine wpAnyH_take (i := 8) (oi := { dst := some 26, op := Op.extract (Operand.tmp 18) 1, type := 34, pos := "law.go:94", after := #[{ on := 6, ground := Ground.data }, { on := 10, ground := Ground.gcOnly Departure.lateStores }], guard := none }) (v := ?_) rfl (by kernel_rfl) (by kernel_rfl) (by kernel_rfl) (fun _ _ _ h => h) (Or.inl ⟨by rfl, ?_⟩) (by assumption) ?_; rotate_left; · (intro w hSw; (try dsimp only at hSw); skip; go_simp; (first | done | with_reducible rfl)))
        try simp only [Act.put, List.setIfInBounds_toArray, List.set_cons_zero, List.set_cons_succ]
        refine wpAnyH_ready (rs := [9]) (by kernel_rfl) (by simp) ?_
        refine (AllReadyH.cons (o := { dst := some 5, op := Op.alloc 28, type := 0, pos := "law.go:94", after := #[], guard := none }) rfl (fun K hK => ?_) AllReadyH.nil)
        go_simp
        refine hK.out _ _ ?_ (fun hHeld => ?_)
        · first
          | exact (by repeat (first | exact HG5.out | exact grew_refl _ | refine grew_drew ?_ | refine grew_trans ?_ (grew_alloc _ _ _)))
        clear hK K
        try simp only [Act.put, List.setIfInBounds_toArray, List.set_cons_zero, List.set_cons_succ]
        refine wpAnyH_ready (rs := [10]) (by kernel_rfl) (by simp) ?_
        refine (AllReadyH.cons (o := { dst := none, op := Op.store 28 (Operand.tmp 5) (Operand.tmp 25), type := 0, pos := "law.go:94", after := #[{ on := 9, ground := Ground.data }, { on := 7, ground := Ground.data }, { on := 5, ground := Ground.chain }, { on := 0, ground := Ground.phase }, { on := 1, ground := Ground.phase }, { on := 2, ground := Ground.phase }, { on := 3, ground := Ground.phase }, { on := 4, ground := Ground.phase }, { on := 5, ground := Ground.phase }, { on := 6, ground := Ground.phase }, { on := 7, ground := Ground.phase }, { on := 8, ground := Ground.textOnly Departure.lateStores }, { on := 9, ground := Ground.phase }], guard := none }) rfl (fun K hK => ?_) AllReadyH.nil)
        first
          | (have HEB := (OwnC.new wr [.int .i64 0, .slice none 0 0, .slice none 0 0] 28 _ rfl).keep (grew_trans (grew_drew (grew_refl _)) HR5.out); have e0 : w5.cell? ⟨wr.heap.size, 0, none⟩ = some (.int .i64 0) := HEB.at 0 _ rfl; have g0 : w5.frozen? ⟨wr.heap.size, 0, none⟩ = false := HEB.fr 0 (by show 0 < 3; omega); have e1 : w5.cell? ⟨wr.heap.size, 1, none⟩ = some (.slice none 0 0) := HEB.at 1 _ rfl; have g1 : w5.frozen? ⟨wr.heap.size, 1, none⟩ = false := HEB.fr 1 (by show 1 < 3; omega); have e2 : w5.cell? ⟨wr.heap.size, 2, none⟩ = some (.slice none 0 0) := HEB.at 2 _ rfl; have g2 : w5.frozen? ⟨wr.heap.size, 2, none⟩ = false := HEB.fr 2 (by show 2 < 3; omega); clear HEB; have HKEEP : Grew wr ((((w5).setCell ⟨wr.heap.size, 0, none⟩ (.int .i64 ex)).setCell ⟨wr.heap.size, 1, none⟩ (.slice B1 el.length d1)).setCell ⟨wr.heap.size, 2, none⟩ (.slice B2 ep.length d2)) := grew_set (grew_set (grew_set (HG5.out) (p := ⟨wr.heap.size, 0, none⟩) (.int .i64 ex) (by show _ ≤ wr.heap.size; omega)) (p := ⟨wr.heap.size, 1, none⟩) (.slice B1 el.length d1) (by show _ ≤ wr.heap.size; omega)) (p := ⟨wr.heap.size, 2, none⟩) (.slice B2 ep.length d2) (by show _ ≤ wr.heap.size; omega))
          | (have HKEEP := grew_trans HG5.out (grew_alloc w5 #[.int .i64 ex, .slice B1 el.length d1, .slice B2 ep.length d2] 28))
        go_simp
        refine hK.out _ _ ?_ (fun hHeld => ?_)
        · first
          | exact HKEEP
        clear hK K
        try simp only [Act.put, List.setIfInBounds_toArray, List.set_cons_zero, List.set_cons_succ]
        (refine wpAnyH_take (i := 11) (oi := { dst := some 6, op := Op.assign (Operand.tmp 26), type := 34, pos := "law.go:94", after := #[{ on := 8, ground := Ground.data }, { on := 10, ground := Ground.chain }, { on := 0, ground := Ground.phase }, { on := 1, ground := Ground.phase }, { on := 2, ground := Ground.phase }, { on := 3, ground := Ground.phase }, { on := 4, ground := Ground.phase }, { on := 5, ground := Ground.phase }, { on := 6, ground := Ground.phase }, { on := 7, ground := Ground.phase }, { on := 8, ground := Ground.phase }, { on := 9, ground := Ground.phase }, { on := 10, ground := Ground.phase }], guard := none }) (v := ?_) rfl (by kernel_rfl) (by kernel_rfl) (by kernel_rfl) (fun _ _ _ h => h) (Or.inl ⟨by rfl, ?_⟩) (by assumption) ?_; rotate_left; · (intro w hSw; (try dsimp only at hSw); skip; go_simp; (first | done | with_reducible rfl)))
        try simp only [Act.put, List.setIfInBounds_toArray, List.set_cons_zero, List.set_cons_succ]
        refine wpAnyH_done (by kernel_rfl) ?_ _
        clear hHeld
        first
          | (have HEB := (OwnC.new wr [.int .i64 0, .slice none 0 0, .slice none 0 0] 28 _ rfl).keep (grew_trans (grew_drew (grew_refl _)) HR5.out); have hlt9 := ((OwnC.new wr [.int .i64 0, .slice none 0 0, .slice none 0 0] 28 _ rfl).keep (grew_drew (grew_refl _))).lt; have hbt : ∀ x, B1 = some x → x.block ≠ wr.heap.size := (fun x hx => Nat.ne_of_gt (Nat.lt_of_lt_of_le hlt9 (HB6.out.t.block x hx).1)); have hbp : ∀ x, B2 = some x → x.block ≠ wr.heap.size := (fun x hx => Nat.ne_of_gt (Nat.lt_of_lt_of_le hlt9 (HB6.out.p.block x hx).1)); have hat : ∀ x, A1 = some x → x.block ≠ wr.heap.size := (fun x hx => by have := (HB.out.t.block x hx).2; omega); have hap : ∀ x, A2 = some x → x.block ≠ wr.heap.size := (fun x hx => by have := (HB.out.p.block x hx).2; omega); have HA : Hid (OwnC ((((w5).setCell ⟨wr.heap.size, 0, none⟩ (.int .i64 ex)).setCell ⟨wr.heap.size, 1, none⟩ (.slice B1 el.length d1)).setCell ⟨wr.heap.size, 2, none⟩ (.slice B2 ep.length d2)) (wr.heap.size) [.int .i64 ex, .slice B1 el.length d1, .slice B2 ep.length d2] ∧ OwnC ((((w5).setCell ⟨wr.heap.size, 0, none⟩ (.int .i64 ex)).setCell ⟨wr.heap.size, 1, none⟩ (.slice B1 el.length d1)).setCell ⟨wr.heap.size, 2, none⟩ (.slice B2 ep.length d2)) (w.heap.size + 1) [.int .i64 nx, .slice A1 lt.length c1, .slice A2 lp.length c2] ∧ OwnC ((((w5).setCell ⟨wr.heap.size, 0, none⟩ (.int .i64 ex)).setCell ⟨wr.heap.size, 1, none⟩ (.slice B1 el.length d1)).setCell ⟨wr.heap.size, 2, none⟩ (.slice B2 ep.length d2)) (w.heap.size) [.int .i64 0, .slice none 0 0, .slice none 0 0] ∧ OwnB ((((w5).setCell ⟨wr.heap.size, 0, none⟩ (.int .i64 ex)).setCell ⟨wr.heap.size, 1, none⟩ (.slice B1 el.length d1)).setCell ⟨wr.heap.size, 2, none⟩ (.slice B2 ep.length d2)) (w.heap.size + 2) (nx, lt, lp) A1 A2 c1 c2 ∧ OwnB ((((w5).setCell ⟨wr.heap.size, 0, none⟩ (.int .i64 ex)).setCell ⟨wr.heap.size, 1, none⟩ (.slice B1 el.length d1)).setCell ⟨wr.heap.size, 2, none⟩ (.slice B2 ep.length d2)) (w.heap.size + 2) (ex, el, ep) B1 B2 d1 d2 ∧ Grew w ((((w5).setCell ⟨wr.heap.size, 0, none⟩ (.int .i64 ex)).setCell ⟨wr.heap.size, 1, none⟩ (.slice B1 el.length d1)).setCell ⟨wr.heap.size, 2, none⟩ (.slice B2 ep.length d2)) ∧ w.heap.size + 1 < wr.heap.size) := ⟨OwnC.set (OwnC.set (OwnC.set (HEB) 0 (.int .i64 ex) (by show 0 < 3; omega)) 1 (.slice B1 el.length d1) (by show 1 < 3; omega)) 2 (.slice B2 ep.length d2) (by show 2 < 3; omega), OwnC.other (OwnC.other (OwnC.other (HX.out.keep HG5.out) ⟨wr.heap.size, 0, none⟩ (.int .i64 ex) (by show wr.heap.size ≠ w.heap.size + 1; omega)) ⟨wr.heap.size, 1, none⟩ (.slice B1 el.length d1) (by show wr.heap.size ≠ w.heap.size + 1; omega)) ⟨wr.heap.size, 2, none⟩ (.slice B2 ep.length d2) (by show wr.heap.size ≠ w.heap.size + 1; omega), OwnC.other (OwnC.other (OwnC.other (HR.out.keep HG5.out) ⟨wr.heap.size, 0, none⟩ (.int .i64 ex) (by show wr.heap.size ≠ w.heap.size; omega)) ⟨wr.heap.size, 1, none⟩ (.slice B1 el.length d1) (by show wr.heap.size ≠ w.heap.size; omega)) ⟨wr.heap.size, 2, none⟩ (.slice B2 ep.length d2) (by show wr.heap.size ≠ w.heap.size; omega), OwnB.setO (OwnB.setO (OwnB.setO (HB.out.keep HG5.out) hat hap wr.heap.size 0 (.int .i64 ex) rfl) hat hap wr.heap.size 1 (.slice B1 el.length d1) rfl) hat hap wr.heap.size 2 (.slice B2 ep.length d2) rfl, OwnB.setO (OwnB.setO (OwnB.setO (HB5.out) hbt hbp wr.heap.size 0 (.int .i64 ex) rfl) hbt hbp wr.heap.size 1 (.slice B1 el.length d1) rfl) hbt hbp wr.heap.size 2 (.slice B2 ep.length d2) rfl, grew_set (grew_set (grew_set (grew_trans HG.out HG5.out) (p := ⟨wr.heap.size, 0, none⟩) (.int .i64 ex) (by show _ ≤ wr.heap.size; omega)) (p := ⟨wr.heap.size, 1, none⟩) (.slice B1 el.length d1) (by show _ ≤ wr.heap.size; omega)) (p := ⟨wr.heap.size, 2, none⟩) (.slice B2 ep.length d2) (by show _ ≤ wr.heap.size; omega), by omega⟩; clear HEB hlt9 hbt hbp hat hap; generalize (((w5).setCell ⟨wr.heap.size, 0, none⟩ (.int .i64 ex)).setCell ⟨wr.heap.size, 1, none⟩ (.slice B1 el.length d1)).setCell ⟨wr.heap.size, 2, none⟩ (.slice B2 ep.length d2) = wT at *; generalize hT : wr.heap.size = T at *)
          | (have hs5 := HG5.out.size; have HA : Hid (OwnC (w5.alloc (.cells #[.int .i64 ex, .slice B1 el.length d1, .slice B2 ep.length d2] 28)) (w5.heap.size) [.int .i64 ex, .slice B1 el.length d1, .slice B2 ep.length d2] ∧ OwnC (w5.alloc (.cells #[.int .i64 ex, .slice B1 el.length d1, .slice B2 ep.length d2] 28)) (w.heap.size + 1) [.int .i64 nx, .slice A1 lt.length c1, .slice A2 lp.length c2] ∧ OwnC (w5.alloc (.cells #[.int .i64 ex, .slice B1 el.length d1, .slice B2 ep.length d2] 28)) (w.heap.size) [.int .i64 0, .slice none 0 0, .slice none 0 0] ∧ OwnB (w5.alloc (.cells #[.int .i64 ex, .slice B1 el.length d1, .slice B2 ep.length d2] 28)) (w.heap.size + 2) (nx, lt, lp) A1 A2 c1 c2 ∧ OwnB (w5.alloc (.cells #[.int .i64 ex, .slice B1 el.length d1, .slice B2 ep.length d2] 28)) (w.heap.size + 2) (ex, el, ep) B1 B2 d1 d2 ∧ Grew w (w5.alloc (.cells #[.int .i64 ex, .slice B1 el.length d1, .slice B2 ep.length d2] 28)) ∧ w.heap.size + 1 < w5.heap.size) := ⟨OwnC.new w5 [.int .i64 ex, .slice B1 el.length d1, .slice B2 ep.length d2] _ _ rfl, (HX.out.keep HG5.out).keep (grew_alloc _ _ _), (HR.out.keep HG5.out).keep (grew_alloc _ _ _), (HB.out.keep HG5.out).keep (grew_alloc _ _ _), HB5.out.keep (grew_alloc _ _ _), grew_trans HG.out (grew_trans HG5.out (grew_alloc _ _ _)), by omega⟩; generalize w5.alloc (.cells #[.int .i64 ex, .slice B1 el.length d1, .slice B2 ep.length d2] 28) = wT at *; generalize hT : w5.heap.size = T at *)
        clear HKEEP
        obtain ⟨a1', a2', a3', a4', a5', a6', a7'⟩ := HA.out
        clear HX HR HB HG HA
        have HX := Lib.hid a2'
        have HR := Lib.hid a3'
        have HB := Lib.hid a4'
        have HQ := Lib.hid a5'
        have HG := Lib.hid a6'
        have HT := Lib.hid a1'
        clear a1' a2' a3' a4' a5' a6'
        apply_assumption
        by_cases he : ee = 0
        · subst he
          have HN2 : Hid (growL (l.take (k + 1)) = (ex, el, ep)) := by show _ = _; rw [HNX.out]; rfl
          have t0 : wT.cell? ⟨T, 0, none⟩ = some (.int .i64 ex) := HT.out.at 0 _ rfl
          have t1 : wT.cell? ⟨T, 1, none⟩ = some (.slice B1 el.length d1) := HT.out.at 1 _ rfl
          have t2 : wT.cell? ⟨T, 2, none⟩ = some (.slice B2 ep.length d2) := HT.out.at 2 _ rfl
          have x0 : wT.cell? ⟨w.heap.size + 1, 0, none⟩ = some (.int .i64 nx) := HX.out.at 0 _ rfl
          have x1 : wT.cell? ⟨w.heap.size + 1, 1, none⟩ = some (.slice A1 lt.length c1) := HX.out.at 1 _ rfl
          have x2 : wT.cell? ⟨w.heap.size + 1, 2, none⟩ = some (.slice A2 lp.length c2) := HX.out.at 2 _ rfl
          have f0 : wT.frozen? ⟨w.heap.size + 1, 0, none⟩ = false := HX.out.fr 0 (by show 0 < 3; omega)
          have f1 : wT.frozen? ⟨w.heap.size + 1, 1, none⟩ = false := HX.out.fr 1 (by show 1 < 3; omega)
          have f2 : wT.frozen? ⟨w.heap.size + 1, 2, none⟩ = false := HX.out.fr 2 (by show 2 < 3; omega)
          have HX2 : Hid (OwnC (putC wT (w.heap.size + 1) 0 [.int .i64 ex, .slice B1 el.length d1, .slice B2 ep.length d2]) (w.heap.size + 1) [.int .i64 ex, .slice B1 el.length d1, .slice B2 ep.length d2]) := HX.out.all [.int .i64 ex, .slice B1 el.length d1, .slice B2 ep.length d2] rfl
          have HR2 : Hid (OwnC (putC wT (w.heap.size + 1) 0 [.int .i64 ex, .slice B1 el.length d1, .slice B2 ep.length d2]) (w.heap.size) [.int .i64 0, .slice none 0 0, .slice none 0 0]) := OwnC.putO (by show w.heap.size + 1 ≠ w.heap.size; omega) [.int .i64 ex, .slice B1 el.length d1, .slice B2 ep.length d2] 0 _ HR.out
          have HB2 : Hid (OwnB (putC wT (w.heap.size + 1) 0 [.int .i64 ex, .slice B1 el.length d1, .slice B2 ep.length d2]) (w.heap.size + 2) (ex, el, ep) B1 B2 d1 d2) := HQ.out.put (b2 := w.heap.size + 1) (by omega) [.int .i64 ex, .slice B1 el.length d1, .slice B2 ep.length d2]
          have HG2 : Hid (Grew w (putC wT (w.heap.size + 1) 0 [.int .i64 ex, .slice B1 el.length d1, .slice B2 ep.length d2])) := grew_put (w := w) (w.heap.size + 1) (by omega) [.int .i64 ex, .slice B1 el.length d1, .slice B2 ep.length d2] 0 _ HG.out
          clear HX HR HB HQ HG
          go_wp2
          go_roundw
          case rel => exact ⟨k + 1, ex, el, ep, B1, B2, d1, d2, by go_num, by omega, by omega, HN2, HX2, HR2, HB2, HG2⟩
          case measure => simp only [intOf]; omega
        · have HN2 : Hid (growL (l.take (k + 1)) = (nx, lt, lp)) := by show _ = _; rw [HNX.out, if_neg he]
          have d1 : (ee == 0) = false := by simpa using he
          go_wp2
          go_roundw
          case rel => exact ⟨k + 1, nx, lt, lp, A1, A2, c1, c2, by go_num, by omega, by omega, HN2, HX, HR, HB, HG⟩
          case measure => simp only [intOf]; omega
      · go_simp
        refine hK.out _ _ ?_ (fun hHeld => ?_)
        · first
          | exact (by repeat (first | exact HG5.out | exact grew_refl _ | refine grew_drew ?_ | refine grew_trans ?_ (grew_alloc _ _ _)))
        clear hK K
        try simp only [Act.put, List.setIfInBounds_toArray, List.set_cons_zero, List.set_cons_succ]
        refine wpAnyH_ready (rs := [5]) (by kernel_rfl) (by simp) ?_
        refine (AllReadyH.cons (o := { dst := some 24, op := Op.call { callee := Callee.value (Operand.func 11), args := #[Operand.tmp 19, Operand.tmp 23], argTypes := #[28, 52] }, type := 43, pos := "law.go:94", after := #[{ on := 0, ground := Ground.data }, { on := 4, ground := Ground.data }], guard := none }) rfl (fun K hK => ?_) AllReadyH.nil)
        go_simp
        (go_at_call 11; (with_reducible refine (CD _ (by repeat (first | exact HG5.out | exact grew_refl _ | refine grew_drew ?_ | refine grew_trans ?_ (grew_alloc _ _ _)))).mono ?_); rintro e w5 ⟨B1, B2, d1, d2, rfl, hb, hg⟩; have HB6 := Lib.hid hb; have HB5 := Lib.hid (hb.mono (b2 := w.heap.size + 2) (Nat.le_trans hsz (show Grew wr _ from (by repeat (first | exact HG5.out | exact grew_refl _ | refine grew_drew ?_ | refine grew_trans ?_ (grew_alloc _ _ _)))).size)); have HR5 := Lib.hid hg; have HG5 : Hid (Grew wr w5) := grew_trans (by repeat (first | exact HG5.out | exact grew_refl _ | refine grew_drew ?_ | refine grew_trans ?_ (grew_alloc _ _ _))) hg; clear hb hg)
        refine hK.out _ _ ?_ (fun hHeld => ?_)
        · first
          | exact (by repeat (first | exact HG5.out | exact grew_refl _ | refine grew_drew ?_ | refine grew_trans ?_ (grew_alloc _ _ _)))
        clear hK K
        try simp only [Act.put, List.setIfInBounds_toArray, List.set_cons_zero, List.set_cons_succ]
        (refine wpAnyH_take (i := 6) (oi := { dst := some 18, op := Op.move (Operand.tmp 24), type := 43, pos := "law.go:94", after := #[{ on := 5, ground := Ground.data }], guard := none }) (v := ?_) rfl (by kernel_rfl) (by kernel_rfl) (by kernel_rfl) (fun _ _ _ h => h) (Or.inl ⟨by rfl, ?_⟩) (by assumption) ?_; rotate_left; · (intro w hSw; (try dsimp only at hSw); skip; go_simp; (first | done | with_reducible rfl)))
        try simp only [Act.put, List.setIfInBounds_toArray, List.set_cons_zero, List.set_cons_succ]
        (refine wpAnyH_take (i := 7) (oi := { dst := some 25, op := Op.extract (Operand.tmp 18) 0, type := 28, pos := "law.go:94", after := #[{ on := 6, ground := Ground.data }], guard := none }) (v := ?_) rfl (by kernel_rfl) (by kernel_rfl) (by kernel_rfl) (fun _ _ _ h => h) (Or.inl ⟨by rfl, ?_⟩) (by assumption) ?_; rotate_left; · (intro w hSw; (try dsimp only at hSw); skip; go_simp; (first | done | with_reducible rfl)))
        try simp only [Act.put, List.setIfInBounds_toArray, List.set_cons_zero, List.set_cons_succ]
        (refine wpAnyH_take (i := 8) (oi := { dst := some 26, op := Op.extract (Operand.tmp 18) 1, type := 34, pos := "law.go:94", after := #[{ on := 6, ground := Ground.data }, { on := 10, ground := Ground.gcOnly Departure.lateStores }], guard := none }) (v := ?_) rfl (by kernel_rfl) (by kernel_rfl) (by kernel_rfl) (fun _ _ _ h => h) (Or.inl ⟨by rfl, ?_⟩) (by assumption) ?_; rotate_left; · (intro w hSw; (try dsimp only at hSw); skip; go_simp; (first | done | with_reducible rfl)))
        try simp only [Act.put, List.setIfInBounds_toArray, List.set_cons_zero, List.set_cons_succ]
        refine wpAnyH_ready (rs := [10]) (by kernel_rfl) (by simp) ?_
        refine (AllReadyH.cons (o := { dst := none, op := Op.store 28 (Operand.tmp 5) (Operand.tmp 25), type := 0, pos := "law.go:94", after := #[{ on := 9, ground := Ground.data }, { on := 7, ground := Ground.data }, { on := 5, ground := Ground.chain }, { on := 0, ground := Ground.phase }, { on := 1, ground := Ground.phase }, { on := 2, ground := Ground.phase }, { on := 3, ground := Ground.phase }, { on := 4, ground := Ground.phase }, { on := 5, ground := Ground.phase }, { on := 6, ground := Ground.phase }, { on := 7, ground := Ground.phase }, { on := 8, ground := Ground.textOnly Departure.lateStores }, { on := 9, ground := Ground.phase }], guard := none }) rfl (fun K hK => ?_) AllReadyH.nil)
        first
          | (have HEB := (OwnC.new wr [.int .i64 0, .slice none 0 0, .slice none 0 0] 28 _ rfl).keep (grew_trans (grew_drew (grew_refl _)) HR5.out); have e0 : w5.cell? ⟨wr.heap.size, 0, none⟩ = some (.int .i64 0) := HEB.at 0 _ rfl; have g0 : w5.frozen? ⟨wr.heap.size, 0, none⟩ = false := HEB.fr 0 (by show 0 < 3; omega); have e1 : w5.cell? ⟨wr.heap.size, 1, none⟩ = some (.slice none 0 0) := HEB.at 1 _ rfl; have g1 : w5.frozen? ⟨wr.heap.size, 1, none⟩ = false := HEB.fr 1 (by show 1 < 3; omega); have e2 : w5.cell? ⟨wr.heap.size, 2, none⟩ = some (.slice none 0 0) := HEB.at 2 _ rfl; have g2 : w5.frozen? ⟨wr.heap.size, 2, none⟩ = false := HEB.fr 2 (by show 2 < 3; omega); clear HEB; have HKEEP : Grew wr ((((w5).setCell ⟨wr.heap.size, 0, none⟩ (.int .i64 ex)).setCell ⟨wr.heap.size, 1, none⟩ (.slice B1 el.length d1)).setCell ⟨wr.heap.size, 2, none⟩ (.slice B2 ep.length d2)) := grew_set (grew_set (grew_set (HG5.out) (p := ⟨wr.heap.size, 0, none⟩) (.int .i64 ex) (by show _ ≤ wr.heap.size; omega)) (p := ⟨wr.heap.size, 1, none⟩) (.slice B1 el.length d1) (by show _ ≤ wr.heap.size; omega)) (p := ⟨wr.heap.size, 2, none⟩) (.slice B2 ep.length d2) (by show _ ≤ wr.heap.size; omega))
          | (have HKEEP := grew_trans HG5.out (grew_alloc w5 #[.int .i64 ex, .slice B1 el.length d1, .slice B2 ep.length d2] 28))
        go_simp
        refine hK.out _ _ ?_ (fun hHeld => ?_)
        · first
          | exact HKEEP
        clear hK K
        try simp only [Act.put, List.setIfInBounds_toArray, List.set_cons_zero, List.set_cons_succ]
        (refine wpAnyH_take (i := 11) (oi := { dst := some 6, op := Op.assign (Operand.tmp 26), type := 34, pos := "law.go:94", after := #[{ on := 8, ground := Ground.data }, { on := 10, ground := Ground.chain }, { on := 0, ground := Ground.phase }, { on := 1, ground := Ground.phase }, { on := 2, ground := Ground.phase }, { on := 3, ground := Ground.phase }, { on := 4, ground := Ground.phase }, { on := 5, ground := Ground.phase }, { on := 6, ground := Ground.phase }, { on := 7, ground := Ground.phase }, { on := 8, ground := Ground.phase }, { on := 9, ground := Ground.phase }, { on := 10, ground := Ground.phase }], guard := none }) (v := ?_) rfl (by kernel_rfl) (by kernel_rfl) (by kernel_rfl) (fun _ _ _ h => h) (Or.inl ⟨by rfl, ?_⟩) (by assumption) ?_; rotate_left; · (intro w hSw; (try dsimp only at hSw); skip; go_simp; (first | done | with_reducible rfl)))
        try simp only [Act.put, List.setIfInBounds_toArray, List.set_cons_zero, List.set_cons_succ]
        refine wpAnyH_done (by kernel_rfl) ?_ _
        clear hHeld
        first
          | (have HEB := (OwnC.new wr [.int .i64 0, .slice none 0 0, .slice none 0 0] 28 _ rfl).keep (grew_trans (grew_drew (grew_refl _)) HR5.out); have hlt9 := ((OwnC.new wr [.int .i64 0, .slice none 0 0, .slice none 0 0] 28 _ rfl).keep (grew_drew (grew_refl _))).lt; have hbt : ∀ x, B1 = some x → x.block ≠ wr.heap.size := (fun x hx => Nat.ne_of_gt (Nat.lt_of_lt_of_le hlt9 (HB6.out.t.block x hx).1)); have hbp : ∀ x, B2 = some x → x.block ≠ wr.heap.size := (fun x hx => Nat.ne_of_gt (Nat.lt_of_lt_of_le hlt9 (HB6.out.p.block x hx).1)); have hat : ∀ x, A1 = some x → x.block ≠ wr.heap.size := (fun x hx => by have := (HB.out.t.block x hx).2; omega); have hap : ∀ x, A2 = some x → x.block ≠ wr.heap.size := (fun x hx => by have := (HB.out.p.block x hx).2; omega); have HA : Hid (OwnC ((((w5).setCell ⟨wr.heap.size, 0, none⟩ (.int .i64 ex)).setCell ⟨wr.heap.size, 1, none⟩ (.slice B1 el.length d1)).setCell ⟨wr.heap.size, 2, none⟩ (.slice B2 ep.length d2)) (wr.heap.size) [.int .i64 ex, .slice B1 el.length d1, .slice B2 ep.length d2] ∧ OwnC ((((w5).setCell ⟨wr.heap.size, 0, none⟩ (.int .i64 ex)).setCell ⟨wr.heap.size, 1, none⟩ (.slice B1 el.length d1)).setCell ⟨wr.heap.size, 2, none⟩ (.slice B2 ep.length d2)) (w.heap.size + 1) [.int .i64 nx, .slice A1 lt.length c1, .slice A2 lp.length c2] ∧ OwnC ((((w5).setCell ⟨wr.heap.size, 0, none⟩ (.int .i64 ex)).setCell ⟨wr.heap.size, 1, none⟩ (.slice B1 el.length d1)).setCell ⟨wr.heap.size, 2, none⟩ (.slice B2 ep.length d2)) (w.heap.size) [.int .i64 0, .slice none 0 0, .slice none 0 0] ∧ OwnB ((((w5).setCell ⟨wr.heap.size, 0, none⟩ (.int .i64 ex)).setCell ⟨wr.heap.size, 1, none⟩ (.slice B1 el.length d1)).setCell ⟨wr.heap.size, 2, none⟩ (.slice B2 ep.length d2)) (w.heap.size + 2) (nx, lt, lp) A1 A2 c1 c2 ∧ OwnB ((((w5).setCell ⟨wr.heap.size, 0, none⟩ (.int .i64 ex)).setCell ⟨wr.heap.size, 1, none⟩ (.slice B1 el.length d1)).setCell ⟨wr.heap.size, 2, none⟩ (.slice B2 ep.length d2)) (w.heap.size + 2) (ex, el, ep) B1 B2 d1 d2 ∧ Grew w ((((w5).setCell ⟨wr.heap.size, 0, none⟩ (.int .i64 ex)).setCell ⟨wr.heap.size, 1, none⟩ (.slice B1 el.length d1)).setCell ⟨wr.heap.size, 2, none⟩ (.slice B2 ep.length d2)) ∧ w.heap.size + 1 < wr.heap.size) := ⟨OwnC.set (OwnC.set (OwnC.set (HEB) 0 (.int .i64 ex) (by show 0 < 3; omega)) 1 (.slice B1 el.length d1) (by show 1 < 3; omega)) 2 (.slice B2 ep.length d2) (by show 2 < 3; omega), OwnC.other (OwnC.other (OwnC.other (HX.out.keep HG5.out) ⟨wr.heap.size, 0, none⟩ (.int .i64 ex) (by show wr.heap.size ≠ w.heap.size + 1; omega)) ⟨wr.heap.size, 1, none⟩ (.slice B1 el.length d1) (by show wr.heap.size ≠ w.heap.size + 1; omega)) ⟨wr.heap.size, 2, none⟩ (.slice B2 ep.length d2) (by show wr.heap.size ≠ w.heap.size + 1; omega), OwnC.other (OwnC.other (OwnC.other (HR.out.keep HG5.out) ⟨wr.heap.size, 0, none⟩ (.int .i64 ex) (by show wr.heap.size ≠ w.heap.size; omega)) ⟨wr.heap.size, 1, none⟩ (.slice B1 el.length d1) (by show wr.heap.size ≠ w.heap.size; omega)) ⟨wr.heap.size, 2, none⟩ (.slice B2 ep.length d2) (by show wr.heap.size ≠ w.heap.size; omega), OwnB.setO (OwnB.setO (OwnB.setO (HB.out.keep HG5.out) hat hap wr.heap.size 0 (.int .i64 ex) rfl) hat hap wr.heap.size 1 (.slice B1 el.length d1) rfl) hat hap wr.heap.size 2 (.slice B2 ep.length d2) rfl, OwnB.setO (OwnB.setO (OwnB.setO (HB5.out) hbt hbp wr.heap.size 0 (.int .i64 ex) rfl) hbt hbp wr.heap.size 1 (.slice B1 el.length d1) rfl) hbt hbp wr.heap.size 2 (.slice B2 ep.length d2) rfl, grew_set (grew_set (grew_set (grew_trans HG.out HG5.out) (p := ⟨wr.heap.size, 0, none⟩) (.int .i64 ex) (by show _ ≤ wr.heap.size; omega)) (p := ⟨wr.heap.size, 1, none⟩) (.slice B1 el.length d1) (by show _ ≤ wr.heap.size; omega)) (p := ⟨wr.heap.size, 2, none⟩) (.slice B2 ep.length d2) (by show _ ≤ wr.heap.size; omega), by omega⟩; clear HEB hlt9 hbt hbp hat hap; generalize (((w5).setCell ⟨wr.heap.size, 0, none⟩ (.int .i64 ex)).setCell ⟨wr.heap.size, 1, none⟩ (.slice B1 el.length d1)).setCell ⟨wr.heap.size, 2, none⟩ (.slice B2 ep.length d2) = wT at *; generalize hT : wr.heap.size = T at *)
          | (have hs5 := HG5.out.size; have HA : Hid (OwnC (w5.alloc (.cells #[.int .i64 ex, .slice B1 el.length d1, .slice B2 ep.length d2] 28)) (w5.heap.size) [.int .i64 ex, .slice B1 el.length d1, .slice B2 ep.length d2] ∧ OwnC (w5.alloc (.cells #[.int .i64 ex, .slice B1 el.length d1, .slice B2 ep.length d2] 28)) (w.heap.size + 1) [.int .i64 nx, .slice A1 lt.length c1, .slice A2 lp.length c2] ∧ OwnC (w5.alloc (.cells #[.int .i64 ex, .slice B1 el.length d1, .slice B2 ep.length d2] 28)) (w.heap.size) [.int .i64 0, .slice none 0 0, .slice none 0 0] ∧ OwnB (w5.alloc (.cells #[.int .i64 ex, .slice B1 el.length d1, .slice B2 ep.length d2] 28)) (w.heap.size + 2) (nx, lt, lp) A1 A2 c1 c2 ∧ OwnB (w5.alloc (.cells #[.int .i64 ex, .slice B1 el.length d1, .slice B2 ep.length d2] 28)) (w.heap.size + 2) (ex, el, ep) B1 B2 d1 d2 ∧ Grew w (w5.alloc (.cells #[.int .i64 ex, .slice B1 el.length d1, .slice B2 ep.length d2] 28)) ∧ w.heap.size + 1 < w5.heap.size) := ⟨OwnC.new w5 [.int .i64 ex, .slice B1 el.length d1, .slice B2 ep.length d2] _ _ rfl, (HX.out.keep HG5.out).keep (grew_alloc _ _ _), (HR.out.keep HG5.out).keep (grew_alloc _ _ _), (HB.out.keep HG5.out).keep (grew_alloc _ _ _), HB5.out.keep (grew_alloc _ _ _), grew_trans HG.out (grew_trans HG5.out (grew_alloc _ _ _)), by omega⟩; generalize w5.alloc (.cells #[.int .i64 ex, .slice B1 el.length d1, .slice B2 ep.length d2] 28) = wT at *; generalize hT : w5.heap.size = T at *)
        clear HKEEP
        obtain ⟨a1', a2', a3', a4', a5', a6', a7'⟩ := HA.out
        clear HX HR HB HG HA
        have HX := Lib.hid a2'
        have HR := Lib.hid a3'
        have HB := Lib.hid a4'
        have HQ := Lib.hid a5'
        have HG := Lib.hid a6'
        have HT := Lib.hid a1'
        clear a1' a2' a3' a4' a5' a6'
        apply_assumption
        by_cases he : ee = 0
        · subst he
          have HN2 : Hid (growL (l.take (k + 1)) = (ex, el, ep)) := by show _ = _; rw [HNX.out]; rfl
          have t0 : wT.cell? ⟨T, 0, none⟩ = some (.int .i64 ex) := HT.out.at 0 _ rfl
          have t1 : wT.cell? ⟨T, 1, none⟩ = some (.slice B1 el.length d1) := HT.out.at 1 _ rfl
          have t2 : wT.cell? ⟨T, 2, none⟩ = some (.slice B2 ep.length d2) := HT.out.at 2 _ rfl
          have x0 : wT.cell? ⟨w.heap.size + 1, 0, none⟩ = some (.int .i64 nx) := HX.out.at 0 _ rfl
          have x1 : wT.cell? ⟨w.heap.size + 1, 1, none⟩ = some (.slice A1 lt.length c1) := HX.out.at 1 _ rfl
          have x2 : wT.cell? ⟨w.heap.size + 1, 2, none⟩ = some (.slice A2 lp.length c2) := HX.out.at 2 _ rfl
          have f0 : wT.frozen? ⟨w.heap.size + 1, 0, none⟩ = false := HX.out.fr 0 (by show 0 < 3; omega)
          have f1 : wT.frozen? ⟨w.heap.size + 1, 1, none⟩ = false := HX.out.fr 1 (by show 1 < 3; omega)
          have f2 : wT.frozen? ⟨w.heap.size + 1, 2, none⟩ = false := HX.out.fr 2 (by show 2 < 3; omega)
          have HX2 : Hid (OwnC (putC wT (w.heap.size + 1) 0 [.int .i64 ex, .slice B1 el.length d1, .slice B2 ep.length d2]) (w.heap.size + 1) [.int .i64 ex, .slice B1 el.length d1, .slice B2 ep.length d2]) := HX.out.all [.int .i64 ex, .slice B1 el.length d1, .slice B2 ep.length d2] rfl
          have HR2 : Hid (OwnC (putC wT (w.heap.size + 1) 0 [.int .i64 ex, .slice B1 el.length d1, .slice B2 ep.length d2]) (w.heap.size) [.int .i64 0, .slice none 0 0, .slice none 0 0]) := OwnC.putO (by show w.heap.size + 1 ≠ w.heap.size; omega) [.int .i64 ex, .slice B1 el.length d1, .slice B2 ep.length d2] 0 _ HR.out
          have HB2 : Hid (OwnB (putC wT (w.heap.size + 1) 0 [.int .i64 ex, .slice B1 el.length d1, .slice B2 ep.length d2]) (w.heap.size + 2) (ex, el, ep) B1 B2 d1 d2) := HQ.out.put (b2 := w.heap.size + 1) (by omega) [.int .i64 ex, .slice B1 el.length d1, .slice B2 ep.length d2]
          have HG2 : Hid (Grew w (putC wT (w.heap.size + 1) 0 [.int .i64 ex, .slice B1 el.length d1, .slice B2 ep.length d2])) := grew_put (w := w) (w.heap.size + 1) (by omega) [.int .i64 ex, .slice B1 el.length d1, .slice B2 ep.length d2] 0 _ HG.out
          clear HX HR HB HQ HG
          go_wp2
          go_roundw
          case rel => exact ⟨k + 1, ex, el, ep, B1, B2, d1, d2, by go_num, by omega, by omega, HN2, HX2, HR2, HB2, HG2⟩
          case measure => simp only [intOf]; omega
        · have HN2 : Hid (growL (l.take (k + 1)) = (nx, lt, lp)) := by show _ = _; rw [HNX.out, if_neg he]
          have d1 : (ee == 0) = false := by simpa using he
          go_wp2
          go_roundw
          case rel => exact ⟨k + 1, nx, lt, lp, A1, A2, c1, c2, by go_num, by omega, by omega, HN2, HX, HR, HB, HG⟩
          case measure => simp only [intOf]; omega
    · have HEND : Hid (growL (l.take 100) = (nx, lt, lp)) := by show _ = _; rw [← HE.out]; exact (grow_take l HL.out hk hlt hk2).symm
      have d1 : ¬ ((k : Int) < (n : Int) ∧ (k : Int) < 100) := by omega
      have x0 : wr.cell? ⟨w.heap.size + 1, 0, none⟩ = some (.int .i64 nx) := HX.out.at 0 _ rfl
      have x1 : wr.cell? ⟨w.heap.size + 1, 1, none⟩ = some (.slice A1 lt.length c1) := HX.out.at 1 _ rfl
      have x2 : wr.cell? ⟨w.heap.size + 1, 2, none⟩ = some (.slice A2 lp.length c2) := HX.out.at 2 _ rfl
      have y0 : wr.cell? ⟨w.heap.size, 0, none⟩ = some (.int .i64 0) := HR.out.at 0 _ rfl
      have y1 : wr.cell? ⟨w.heap.size, 1, none⟩ = some (.slice none 0 0) := HR.out.at 1 _ rfl
      have y2 : wr.cell? ⟨w.heap.size, 2, none⟩ = some (.slice none 0 0) := HR.out.at 2 _ rfl
      have f0 : wr.frozen? ⟨w.heap.size, 0, none⟩ = false := HR.out.fr 0 (by decide)
      have f1 : wr.frozen? ⟨w.heap.size, 1, none⟩ = false := HR.out.fr 1 (by decide)
      have f2 : wr.frozen? ⟨w.heap.size, 2, none⟩ = false := HR.out.fr 2 (by decide)
      have HP := HR.out.all [.int .i64 nx, .slice A1 lt.length c1, .slice A2 lp.length c2] rfl
      have HGP := grew_put (w := w) w.heap.size (Nat.le_refl _) [.int .i64 nx, .slice A1 lt.length c1, .slice A2 lp.length c2] 0 _ HG.out
      have HBP := HB.out.put (b2 := w.heap.size) (by omega) [.int .i64 nx, .slice A1 lt.length c1, .slice A2 lp.length c2]
      rw [HEND.out] at HF
      by_cases hk3 : k < n
      · have i1 : (k : Int) < (n : Int) := by omega
        have i2 : ¬ (k : Int) < 100 := by omega
        go_wp2
        change bodyPost _ _ _ _ _ (putC wr w.heap.size 0 [.int .i64 nx, .slice A1 lt.length c1, .slice A2 lp.length c2])
        clear y0 y1 y2 f0 f1 f2 x0 x1 x2
        generalize putC wr w.heap.size 0 [.int .i64 nx, .slice A1 lt.length c1, .slice A2 lp.length c2] = w9 at *
        have z0 : w9.cell? ⟨w.heap.size, 0, none⟩ = _ := HP.at 0 _ rfl
        have z1 : w9.cell? ⟨w.heap.size, 1, none⟩ = _ := HP.at 1 _ rfl
        have z2 : w9.cell? ⟨w.heap.size, 2, none⟩ = _ := HP.at 2 _ rfl
        refine bodyPost_ret (v := .agg #[.int .i64 nx, .slice A1 lt.length c1, .slice A2 lp.length c2]) (by simp [results, Tryz.results4, go_sem, z0, z1, z2]) rfl ?_
        exact HF.out _ _ _ _ _ (HBP.mono (by omega)) HGP
      · have i1 : ¬ (k : Int) < (n : Int) := by omega
        go_wp2
        change bodyPost _ _ _ _ _ (putC wr w.heap.size 0 [.int .i64 nx, .slice A1 lt.length c1, .slice A2 lp.length c2])
        clear y0 y1 y2 f0 f1 f2 x0 x1 x2
        generalize putC wr w.heap.size 0 [.int .i64 nx, .slice A1 lt.length c1, .slice A2 lp.length c2] = w9 at *
        have z0 : w9.cell? ⟨w.heap.size, 0, none⟩ = _ := HP.at 0 _ rfl
        have z1 : w9.cell? ⟨w.heap.size, 1, none⟩ = _ := HP.at 1 _ rfl
        have z2 : w9.cell? ⟨w.heap.size, 2, none⟩ = _ := HP.at 2 _ rfl
        refine bodyPost_ret (v := .agg #[.int .i64 nx, .slice A1 lt.length c1, .slice A2 lp.length c2]) (by simp [results, Tryz.results4, go_sem, z0, z1, z2]) rfl ?_
        exact HF.out _ _ _ _ _ (HBP.mono (by omega)) HGP
end Go.Proofs.YtahioajpmlochaaGreat.NumK
namespace Go.Proofs.YtahioajpmlochaaGreat.NumK
open Go.RowKit
set_option linter.unusedVariables false

theorem GS.do {b : Bk} {a : Ac13} {N : Int} (h : GS b.2.2 N) (he : doE b a = 0) : GS (doB b a).2.2 (N + 2097152) := by
  unfold doE at he
  unfold doB
  by_cases h3 : kind13 a = 3
  · rw [if_pos h3] at he ⊢; exact (h.cancel he).mono (by omega)
  · rw [if_neg h3] at he ⊢
    by_cases h4 : kind13 a = 4
    · rw [if_pos h4] at he ⊢; exact h.corr he
    · rw [if_neg h4] at he ⊢
      by_cases h5 : kind13 a = 5
      · rw [if_pos h5]; exact h.mono (by omega)
      · rw [if_neg h5] at he ⊢; exact (h.enter he).mono (by omega)
theorem GS.grow (l : List Ac13) : ∀ k : Nat, GS (growL (l.take k)).2.2 (k * 2097152)
  | 0 => by show GS ([] : List Po) (((0 : Nat) : Int) * 2097152); simpa using GS.zero
  | k + 1 => by
    have ih := GS.grow l k
    by_cases h : k < l.length
    · rw [grow_snoc l h]
      unfold growS
      split
      · rename_i he; exact (ih.do he).mono (by omega)
      · exact ih.mono (by omega)
    · rw [show l.take (k + 1) = l.take k by rw [List.take_of_length_le (by omega), List.take_of_length_le (by omega)]]
      exact ih.mono (by omega)
theorem GS.at {l : List Po} {N : Int} (h : GS l N) (hr : rightPs l = true) {x : Po} (hx : x ∈ l) : absA x.2.2.1 ≤ N := by
  have h1 := h (keyP x)
  rw [(of_self hr hx).1] at h1
  unfold wm at h1
  unfold absA; omega
/-- The position of a key, if there is something of it. -/
theorem has_pos {l : List Po} (hr : rightPs l = true) {k : Ky} (hq : qK l k ≠ 0) : ∃ x ∈ l, keyP x = k ∧ x.2.2.1 = qK l k := by
  by_cases hc : ∃ x ∈ l, keyP x = k
  · obtain ⟨x, hx, hk⟩ := hc
    exact ⟨x, hx, hk, by rw [← hk, (of_self hr hx).1]⟩
  · exfalso
    have h1 := sum_of_not (l := l) (k := k) fun x hx hk => hc ⟨x, hx, hk⟩
    unfold sumK2 at h1
    simp only [Prod.mk.injEq] at h1
    exact hq h1.1
theorem oth_zero (l : List Po) (n : Int) : othP l n 0 = [] ∧ othW l n 0 = [] := by
  have h : othP l n 0 = [] := by
    unfold othP
    rw [List.filter_eq_nil_iff]
    intro x _
    unfold oppB; simp
  exact ⟨h, by unfold othW; rw [h]; rfl⟩
theorem torn_price : ∀ (xs : List Po) (ps : List Int) (c d : Int), (tornF xs ps c).map (fun f => (f.1, f.2.1, d)) = tornF xs ps d
  | [], _, _, _ => by simp [tornF]
  | x :: xs, [], _, _ => by simp [tornF]
  | x :: xs, p :: ps, c, d => by
    rw [tornF, tornF]
    split
    · rw [List.map_cons, torn_price xs ps c d]
    · exact torn_price xs ps c d
structure Torn (l : List Po) (k : Ky) (q m c : Int) (fs : List Fi) : Prop where
  ok : legsE fs = 0
  sum : ∀ f ∈ fs, okK (f.1, k.2) = true ∧ 0 ≤ f.2.1 ∧ f.2.1 ≤ 1073741824 ∧ 0 ≤ f.2.2 ∧ f.2.2 ≤ 1073741824
/-- What is torn up of a position of a small book: its legs may be made. -/
theorem torn_legs {l : List Po} (hr : rightPs l = true) {N : Int} (hN : GS l N) (hN2 : N ≤ 1073741824) {x : Po} (hx : x ∈ l) {ps : List Int} {m c : Int} (hc : 0 ≤ c ∧ c ≤ 1073741824) (hb : Borne (othP l x.2.1 x.2.2.1) ps m) :
    Torn l (keyP x) x.2.2.1 m c (tornF (othP l x.2.1 x.2.2.1) ps c) := by
  have hall : ∀ f ∈ tornF (othP l x.2.1 x.2.2.1) ps c, okK (f.1, x.2.1) = true ∧ 1 ≤ f.2.1 ∧ f.2.1 ≤ 1073741824 ∧ f.2.2 = c := by
    intro f hf
    obtain ⟨⟨y, hy, h1⟩, h2, h3, h4⟩ := torn_mem _ _ _ _ hf
    have hyl : y ∈ l := (List.mem_filter.1 hy).1
    have hyi : y.2.1 = x.2.1 := by
      have := (List.mem_filter.1 hy).2
      simp only [Bool.and_eq_true, decide_eq_true_eq] at this
      exact this.1
    refine ⟨?_, h2, ?_, h4⟩
    · rw [h1, ← hyi]; exact right_keys hr y hyl
    · obtain ⟨i, hi, he⟩ := List.getElem_of_mem h3
      have h5 := hb.low i (by rw [← hb.len]; exact hi)
      rw [getD_at ps 0 i hi, he] at h5
      have hil : i < (othP l x.2.1 x.2.2.1).length := by rw [← hb.len]; exact hi
      have h6 : (othP l x.2.1 x.2.2.1).getD i po0 ∈ l := (List.mem_filter.1 (getD_mem _ po0 i hil)).1
      have h7 := hN.at hr h6
      omega
  refine ⟨legsE_0 (fun i hi => ?_) (fun i hi => ?_), fun f hf => ?_⟩
  · have h1 := hall _ (getD_mem _ fi0 i hi)
    exact (okFi_iff _).2 ⟨⟨by omega, by omega⟩, by omega, by omega⟩
  · have h1 := hall _ (getD_mem _ fi0 i hi)
    generalize (tornF (othP l x.2.1 x.2.2.1) ps c).getD i fi0 = f at h1
    have h2 := mul_small f.2.1 f.2.2 1073741824 (by omega) (by omega) (by omega) (by omega)
    unfold okMu
    exact (isMoney_iff _).2 (by omega)
  · have h1 := hall f hf
    exact ⟨h1.1, by omega, by omega, by omega, by omega⟩
/-- Behind it: no position is greater, and it has so much less. -/
theorem torn_behind {b : Bk} (hr : rightB b = true) {x : Po} (hx : x ∈ b.2.2) (hq : x.2.2.1 ≠ 0) {ps : List Int} {m c : Int} (hb : Borne (othP b.2.2 x.2.1 x.2.2.1) ps m) (hm : 0 ≤ m ∧ m ≤ absA x.2.2.1)
    (he : addE b (legsF (keyP x) (sg (decide (x.2.2.1 > 0))) (tornF (othP b.2.2 x.2.1 x.2.2.1) ps c)) = 0) (j : Ky) (hj : okK j = true) :
    ∃ y cc, ofP (addB b (legsF (keyP x) (sg (decide (x.2.2.1 > 0))) (tornF (othP b.2.2 x.2.1 x.2.2.1) ps c))).2.2 j = (j.1, j.2, y, cc) ∧ (0 ≤ qK b.2.2 j → 0 ≤ y ∧ y ≤ qK b.2.2 j) ∧ (qK b.2.2 j ≤ 0 → qK b.2.2 j ≤ y ∧ y ≤ 0) ∧ (j = keyP x → absA y = absA x.2.2.1 - m) := by
  have hp := ((rightB_iff b).1 hr).2.2
  have hpa := (rightPs_iff _).1 ((rightB_iff _).1 (right_add he)).2.2
  have hof := of_sum hpa.2.1 (right_keys ((rightB_iff _).1 (right_add he)).2.2) j
  have hta := torn_at hp hx hq c hb hm (sg (decide (x.2.2.1 > 0))) (by unfold sg; by_cases h : 0 < x.2.2.1; rw [if_pos h, if_pos (decide_eq_true h)]; rw [if_neg h, if_neg (by simpa using h)]) j
  dsimp only at hta
  rw [addB_ok he] at hof ⊢
  dsimp only at hof ⊢
  rw [(sum_add _ _ j hj).1] at hof
  exact ⟨_, _, hof, hta⟩
theorem add_both {b : Bk} {legs : List Po} (he : addE b legs = 0) (n : Int) (n1 : 1 ≤ n) (n2 : n ≤ 8) : bothQ (addB b legs).2.2 n = 0 := by
  have h := (rightPs_iff _).1 ((rightB_iff _).1 (right_add he)).2.2
  unfold bothQ
  split
  · exact h.2.2 n n1 n2
  · rfl
end Go.Proofs.YtahioajpmlochaaGreat.NumK
namespace Go.Proofs.YtahioajpmlochaaGreat.NumK
open Go.RowKit
set_option linter.unusedVariables false

set_option maxRecDepth 100000 in
set_option maxHeartbeats 2000000 in
theorem wakes19_any (w : World) : Calls Tryz.prog 7 #[] w fun e w' => e = .returned (.bool true) ∧ Grew w w' := by
  have C1 := fun (w : World) => afill_any 5 (some ⟨w.heap.size, 0, none⟩) 2 2 [(0, 0, 2, 3, 9), (0, 0, 3, 4, 10)] (w.alloc (.cells #[.int .i64 0, .int .i64 0, .int .i64 2, .int .i64 3, .int .i64 9, .int .i64 0, .int .i64 0, .int .i64 3, .int .i64 4, .int .i64 10] 65))
    (rowE_lits enB5 [(0, 0, 2, 3, 9), (0, 0, 3, 4, 10)] w 65 _ rfl _ 2 rfl rfl) (fun h => by cases h) (by omega) (fun b hb => by unfold in64; simp at hb; rcases hb with rfl | rfl <;> simp) (by unfold in64; omega)
  unfold FillPost at C1
  rw [show auOK 5 [(0, 0, 2, 3, 9), (0, 0, 3, 4, 10)] = true by decide +kernel, show auF 5 [(0, 0, 2, 3, 9), (0, 0, 3, 4, 10)] = [(3, 4, 10), (2, 1, 9)] by decide +kernel, show auR 5 [(0, 0, 2, 3, 9), (0, 0, 3, 4, 10)] = 0 by decide +kernel] at C1
  have C2 : ∀ w : World, Calls Tryz.prog 19 #[.int .i64 5, .slice (some ⟨w.heap.size, 0, none⟩) 2 2] (w.alloc (.cells #[.int .i64 0, .int .i64 0, .int .i64 2, .int .i64 3, .int .i64 9, .int .i64 0, .int .i64 0, .int .i64 3, .int .i64 4, .int .i64 10] 65))
      fun e w' => ∃ v, e = .returned (.tuple #[v, .int .i64 0, .int .i64 0]) ∧ OwnE enD3 w' (w.heap.size + 1) 40 v [(3, 4, 10), (2, 1, 9)] ∧ Grew w w' := fun w => (C1 w).mono fun e w' h => by
    rcases h with ⟨h, _⟩ | ⟨_, v, h1, h2, h3⟩
    · cases h
    · exact ⟨v, h1, by simpa using h2, grew_trans (grew_alloc _ _ _) h3⟩
  clear C1
  go_enter Tryz.func7, Tryz.ntmps7
  go_upto_region 2 with (go_at_call 19; ((with_reducible refine (C2 _).mono ?_); rintro e w2 ⟨v, rfl, ho, hg⟩; have HO := Lib.hid ho; have HG2 := Lib.hid hg; clear hg ho C2))
  obtain ⟨A3, c3, rfl, hr3, -⟩ := HO.out.form
  obtain ⟨b, o, rfl, hb, hc⟩ := RowE.rD3 hr3 (j := 0) (by decide)
  obtain ⟨a0, a1, a2⟩ := hc 0 (by decide)
  obtain ⟨b0, b1, b2⟩ := hc 1 (by decide)
  rw [show o + 0 * 3 = o by omega] at a0
  have a0 : w2.cell? ⟨b, o, none⟩ = some (.int .i64 3) := a0
  have b1 : w2.cell? ⟨b, o + 4, none⟩ = some (.int .i64 1) := by rw [show o + 1 * 3 + 1 = o + 4 by omega] at b1; exact b1
  have b3 : w2.cell? ⟨b, o + 3 + 1, none⟩ = some (.int .i64 1) := b1
  clear a1 a2 b0 b2 hc hr3 HO
  go_wp2
  go_ret
  exact ⟨rfl, HG2.out⟩
end Go.Proofs.YtahioajpmlochaaGreat.NumK
