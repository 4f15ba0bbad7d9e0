/- book.Correct. -/
import Derived.Test.YtkbmiajgmnfpfaaRU
namespace Go.Proofs.Ytkbmiajgmnfpfaa.NumK
open Go.RowKit
set_option linter.unusedVariables false

theorem OwnB.put {w : World} {base b2 : Nat} {b : Bk} {A1 A2 : Option Addr} {c1 c2 : Nat} (h : OwnB w base b A1 A2 c1 c2) (hb : b2 < base) (vs : List Value) : OwnB (putC w b2 0 vs) base b A1 A2 c1 c2 := ⟨OwnE.put hb vs 0 _ h.t, OwnE.put hb vs 0 _ h.p, h.ne⟩
theorem OwnB.setO {w : World} {base : Nat} {b : Bk} {A1 A2 : Option Addr} {c1 c2 : Nat} (h : OwnB w base b A1 A2 c1 c2) {t : Nat} (h1 : ∀ x, A1 = some x → x.block ≠ t) (h2 : ∀ x, A2 = some x → x.block ≠ t) (b2 i : Nat) (u : Value) (e : b2 = t) : OwnB (w.setCell ⟨b2, i, none⟩ u) base b A1 A2 c1 c2 := by
  subst e
  exact ⟨h.t.setO _ i u fun g hg => by obtain ⟨x, hx, rfl⟩ := own_addr hg; exact h1 x hx, h.p.setO _ i u fun g hg => by obtain ⟨x, hx, rfl⟩ := own_addr hg; exact h2 x hx, h.ne⟩
theorem OwnB.putN {w : World} {base b2 : Nat} {b : Bk} {A1 A2 : Option Addr} {c1 c2 : Nat} (h : OwnB w base b A1 A2 c1 c2) (h1 : ∀ x, A1 = some x → x.block ≠ b2) (h2 : ∀ x, A2 = some x → x.block ≠ b2) (vs : List Value) : OwnB (putC w b2 0 vs) base b A1 A2 c1 c2 :=
  ⟨h.t.putN (fun g hg => by obtain ⟨x, hx, rfl⟩ := own_addr hg; exact h1 x hx) vs 0 _, h.p.putN (fun g hg => by obtain ⟨x, hx, rfl⟩ := own_addr hg; exact h2 x hx) vs 0 _, h.ne⟩
theorem plA_len (f : Ky → Int × Int) : (plA f).length ≤ 128 := by rw [← pl_all]; exact plF_len f 128
theorem cancel_len {b : Bk} {no : Int} (h : cancelE b no = 0) : (cancelB b no).2.1.length = b.2.1.length ∧ (cancelB b no).2.2.length ≤ 128 := by
  rw [cancelB_ok h]
  exact ⟨off_len _ _, plA_len _⟩
theorem corr_no {b : Bk} {no q p : Int} (h : cancelE b no ≠ 0) {w : World} : ∀ w', Grew w w' → BookN (corrB b no q p) (corrN b no q p) (corrE b no q p) w (.returned (.tuple #[.agg #[.int .i64 0, .slice none 0 0, .slice none 0 0], .int .i64 0, .int .i64 (cancelE b no)])) w' := fun w' g => by
  have h1 : corrE b no q p = cancelE b no := by unfold corrE; rw [if_neg h]
  have h2 : corrB b no q p = bk0 := by unfold corrB; rw [if_neg h]
  have h3 : corrN b no q p = 0 := by unfold corrN; rw [if_neg h]
  rw [h1]
  exact bookN_no h2 h3 g

set_option maxRecDepth 100000 in
set_option maxHeartbeats 8000000 in
theorem corr_any (b : Bk) (no qq pp : Int) (A1 A2 : Option Addr) (n1 n2 c1 c2 : Nat) (w : World) (h : InB w b A1 A2 n1 n2 c1 c2) (hn : n1 ≤ 10000 ∧ n2 ≤ 10000) :
    Calls Try.prog 28 #[vBk b.1 A1 A2 n1 n2 c1 c2, .int .i64 no, .int .i64 qq, .int .i64 pp] w (BookN (corrB b no qq pp) (corrN b no qq pp) (corrE b no qq pp) w) := by
  have CC := fun w' (g : Grew w w') => cancel_any b no A1 A2 n1 n2 c1 c2 w' (h.keep g) hn
  unfold BookE at CC
  by_cases he : cancelE b no = 0
  · rw [he] at CC
    have hany := (cancelE_ok.1 he).2.1
    obtain ⟨i, hix⟩ : ∃ i, ixT b.2.1 no = some i := by
      cases hx : ixT b.2.1 no with
      | some i => exact ⟨i, rfl⟩
      | none => rw [ixT_none hx] at hany; cases hany
    obtain ⟨i1, -, i3, -⟩ := ixT_some hix
    have CS := fun w' (g : Grew w w') => standing_any b A1 A2 n1 n2 c1 c2 no w' (h.keep g) (by omega)
    unfold ixV at CS
    rw [hix] at CS
    dsimp only at CS
    have hcl := cancel_len he
    have CE := fun (A' A'' : Option Addr) (c' c'' : Nat) w' (ho : InB w' (cancelB b no) A' A'' (cancelB b no).2.1.length (cancelB b no).2.2.length c' c'') => enter_any (cancelB b no) (termsT (theT b.2.1 no) qq pp) A' A'' (cancelB b no).2.1.length (cancelB b no).2.2.length c' c'' w' ho ⟨by rw [hcl.1, h.t.len]; exact hn.1, by omega⟩
    unfold BookN at CE
    have HYES : Hid (∀ w' A A' c c', OwnB w' w.heap.size (enterB (cancelB b no) (termsT (theT b.2.1 no) qq pp)) A A' c c' → Grew w w' → BookN (corrB b no qq pp) (corrN b no qq pp) (corrE b no qq pp) w (.returned (.tuple #[vBk (enterB (cancelB b no) (termsT (theT b.2.1 no) qq pp)).1 A A' (enterB (cancelB b no) (termsT (theT b.2.1 no) qq pp)).2.1.length (enterB (cancelB b no) (termsT (theT b.2.1 no) qq pp)).2.2.length c c', .int .i64 (enterN (cancelB b no) (termsT (theT b.2.1 no) qq pp)), .int .i64 (enterE (cancelB b no) (termsT (theT b.2.1 no) qq pp))])) w') := fun w' A A' c c' ho g => by
      have h1 : corrE b no qq pp = enterE (cancelB b no) (termsT (theT b.2.1 no) qq pp) := by unfold corrE; rw [if_pos he]
      have h2 : corrB b no qq pp = enterB (cancelB b no) (termsT (theT b.2.1 no) qq pp) := by unfold corrB; rw [if_pos he]
      have h3 : corrN b no qq pp = enterN (cancelB b no) (termsT (theT b.2.1 no) qq pp) := by unfold corrN; rw [if_pos he]
      rw [h1, h2, h3]
      exact ⟨A, A', c, c', rfl, ho, g⟩
    have hin : i < n1 := by rw [← h.t.len]; exact i1
    obtain ⟨bb, o, rfl, hbb, hcc⟩ := h.t.tr hin
    have HTC : Hid (∀ w', Grew w w' → CTr w' bb (o + i * 7) (b.2.1.getD i tr0)) := fun w' g => (hcc i hin).keep g hbb
    rw [i3] at CE HYES
    clear hcc hbb h he hany hix hcl i3
    have k0 : (0 : Int) ≤ (i : Int) := by omega
    have k1 : (i : Int) < (n1 : Int) := by omega
    generalize BookN (corrB b no qq pp) (corrN b no qq pp) (corrE b no qq pp) w = PP at *
    generalize cancelB b no = cb at *
    obtain ⟨cx, lc, pc⟩ := cb
    generalize b.2.1.getD i tr0 = tt at *
    obtain ⟨⟨q1, q2, q3, q4, q5, q6⟩, q7⟩ := tt
    have HTM : Hid (termsT ((q1, q2, q3, q4, q5, q6), q7) qq pp = ((q1, q2, q3, q4, qq, pp), q7)) := rfl
    rw [HTM.out] at CE HYES
    generalize enterE (cx, lc, pc) ((q1, q2, q3, q4, qq, pp), q7) = ee at *
    generalize enterN (cx, lc, pc) ((q1, q2, q3, q4, qq, pp), q7) = en at *
    generalize enterB (cx, lc, pc) ((q1, q2, q3, q4, qq, pp), q7) = eb at *
    obtain ⟨ex, el, ep⟩ := eb
    dsimp only [vBk, vTr] at CC CE CS HYES
    dsimp only [vBk] at *
    generalize b.1 = nx at *
    have HX0 : Hid (OwnC ((w.alloc (.cells #[.int .i64 nx, .slice (some ⟨bb, o, none⟩) n1 c1, .slice A2 n2 c2] 25)).alloc (.cells #[.int .i64 0, .slice none 0 0, .slice none 0 0] 25)) w.heap.size [.int .i64 nx, .slice (some ⟨bb, o, none⟩) n1 c1, .slice A2 n2 c2]) := (OwnC.new w [.int .i64 nx, .slice (some ⟨bb, o, none⟩) n1 c1, .slice A2 n2 c2] _ _ rfl).keep (grew_alloc _ _ _)
    have HZ0 : Hid (OwnC ((w.alloc (.cells #[.int .i64 nx, .slice (some ⟨bb, o, none⟩) n1 c1, .slice A2 n2 c2] 25)).alloc (.cells #[.int .i64 0, .slice none 0 0, .slice none 0 0] 25)) (w.heap.size + 1) [.int .i64 0, .slice none 0 0, .slice none 0 0]) := OwnC.new _ [.int .i64 0, .slice none 0 0, .slice none 0 0] _ _ (by simp)
    have HG0 : Hid (Grew w ((w.alloc (.cells #[.int .i64 nx, .slice (some ⟨bb, o, none⟩) n1 c1, .slice A2 n2 c2] 25)).alloc (.cells #[.int .i64 0, .slice none 0 0, .slice none 0 0] 25))) := grew_trans (grew_alloc _ _ _) (grew_alloc _ _ _)
    go_enter Try.func28, Try.ntmps28
    go_upto_region 1 with fail
    generalize (w.alloc (.cells #[.int .i64 nx, .slice (some ⟨bb, o, none⟩) n1 c1, .slice A2 n2 c2] 25)).alloc (.cells #[.int .i64 0, .slice none 0 0, .slice none 0 0] 25) = w0 at *
    have x0 : w0.cell? ⟨w.heap.size, 0, none⟩ = some (.int .i64 nx) := HX0.out.at 0 _ rfl
    have x1 : w0.cell? ⟨w.heap.size, 1, none⟩ = some (.slice (some ⟨bb, o, none⟩) n1 c1) := HX0.out.at 1 _ rfl
    have x2 : w0.cell? ⟨w.heap.size, 2, none⟩ = some (.slice A2 n2 c2) := HX0.out.at 2 _ rfl
    go_upto_region 4 with (go_at_call 26; ((with_reducible refine (CC _ HG0.out).mono ?_); rintro e w3 ⟨A', A'', c', c'', rfl, hb, hg⟩; have HB3 := Lib.hid hb; have HG3 := Lib.hid (grew_trans HG0.out hg); have HX3 := Lib.hid (HX0.out.keep hg); have HZ3 := Lib.hid (HZ0.out.keep hg); have hs3 : w.heap.size + 2 ≤ w3.heap.size := (by have h9 := HZ3.out.lt; omega); clear hb hg CC x0 x1 x2))
    have HE4 := Lib.hid (OwnC.new w3 [.int .i64 cx, .slice A' lc.length c', .slice A'' pc.length c''] 25 _ rfl)
    have HX4 := Lib.hid (HX3.out.keep (grew_alloc w3 #[.int .i64 cx, .slice A' lc.length c', .slice A'' pc.length c''] 25))
    have HZ4 := Lib.hid (HZ3.out.keep (grew_alloc w3 #[.int .i64 cx, .slice A' lc.length c', .slice A'' pc.length c''] 25))
    have HB4 := Lib.hid (HB3.out.keep (grew_alloc w3 #[.int .i64 cx, .slice A' lc.length c', .slice A'' pc.length c''] 25))
    have HG4 := Lib.hid (grew_trans HG3.out (grew_alloc w3 #[.int .i64 cx, .slice A' lc.length c', .slice A'' pc.length c''] 25))
    generalize w3.alloc (.cells #[.int .i64 cx, .slice A' lc.length c', .slice A'' pc.length c''] 25) = w4 at *
    have hE4 := HE4.out.lt
    generalize w3.heap.size = E at *
    clear HX3 HZ3 HB3 HG3
    have HSO : Hid (∀ w', OwnC w' (w.heap.size) [.int .i64 nx, .slice (some ⟨bb, o, none⟩) n1 c1, .slice A2 n2 c2] → CTr w' bb (o + i * 7) ((q1, q2, q3, q4, q5, q6), q7) → (w'.cell? ⟨w.heap.size, 0, none⟩ = some (.int .i64 nx) ∧ w'.cell? ⟨w.heap.size, 1, none⟩ = some (.slice (some ⟨bb, o, none⟩) n1 c1) ∧ w'.cell? ⟨w.heap.size, 2, none⟩ = some (.slice A2 n2 c2) ∧ w'.cell? ⟨bb, o + i * 7, none⟩ = some (.int .i64 q1) ∧ w'.cell? ⟨bb, o + i * 7 + 1, none⟩ = some (.int .i64 q2) ∧ w'.cell? ⟨bb, o + i * 7 + 2, none⟩ = some (.int .i64 q3) ∧ w'.cell? ⟨bb, o + i * 7 + 3, none⟩ = some (.int .i64 q4) ∧ w'.cell? ⟨bb, o + i * 7 + 4, none⟩ = some (.int .i64 q5) ∧ w'.cell? ⟨bb, o + i * 7 + 5, none⟩ = some (.int .i64 q6) ∧ w'.cell? ⟨bb, o + i * 7 + 6, none⟩ = some (.bool q7))) := fun w' hx ht => ⟨hx.at 0 _ rfl, hx.at 1 _ rfl, hx.at 2 _ rfl, ht.1, ht.2.1, ht.2.2.1, ht.2.2.2.1, ht.2.2.2.2.1, ht.2.2.2.2.2.1, ht.2.2.2.2.2.2⟩
    have HS : Hid (∀ w', Grew w4 w' → (w'.cell? ⟨w.heap.size, 0, none⟩ = some (.int .i64 nx) ∧ w'.cell? ⟨w.heap.size, 1, none⟩ = some (.slice (some ⟨bb, o, none⟩) n1 c1) ∧ w'.cell? ⟨w.heap.size, 2, none⟩ = some (.slice A2 n2 c2) ∧ w'.cell? ⟨bb, o + i * 7, none⟩ = some (.int .i64 q1) ∧ w'.cell? ⟨bb, o + i * 7 + 1, none⟩ = some (.int .i64 q2) ∧ w'.cell? ⟨bb, o + i * 7 + 2, none⟩ = some (.int .i64 q3) ∧ w'.cell? ⟨bb, o + i * 7 + 3, none⟩ = some (.int .i64 q4) ∧ w'.cell? ⟨bb, o + i * 7 + 4, none⟩ = some (.int .i64 q5) ∧ w'.cell? ⟨bb, o + i * 7 + 5, none⟩ = some (.int .i64 q6) ∧ w'.cell? ⟨bb, o + i * 7 + 6, none⟩ = some (.bool q7))) := fun w' g => HSO.out _ (HX4.out.keep g) (HTC.out _ (grew_trans HG4.out g))
    have HS2a := HS.out _ (grew_drew (grew_alloc w4 #[.int .i64 0, .int .i64 0, .int .i64 0, .int .i64 0, .int .i64 0, .int .i64 0, .bool false] 49))
    refine wp_region_noPanic ?_
    refine wp_region_held_drew (S := fun w' => w'.cell? ⟨w.heap.size, 0, none⟩ = some (.int .i64 nx) ∧ w'.cell? ⟨w.heap.size, 1, none⟩ = some (.slice (some ⟨bb, o, none⟩) n1 c1) ∧ w'.cell? ⟨w.heap.size, 2, none⟩ = some (.slice A2 n2 c2) ∧ w'.cell? ⟨bb, o + i * 7, none⟩ = some (.int .i64 q1) ∧ w'.cell? ⟨bb, o + i * 7 + 1, none⟩ = some (.int .i64 q2) ∧ w'.cell? ⟨bb, o + i * 7 + 2, none⟩ = some (.int .i64 q3) ∧ w'.cell? ⟨bb, o + i * 7 + 3, none⟩ = some (.int .i64 q4) ∧ w'.cell? ⟨bb, o + i * 7 + 4, none⟩ = some (.int .i64 q5) ∧ w'.cell? ⟨bb, o + i * 7 + 5, none⟩ = some (.int .i64 q6) ∧ w'.cell? ⟨bb, o + i * 7 + 6, none⟩ = some (.bool q7)) (by kernel_rfl) (HS.out _ (grew_drew (grew_refl _))) (fun hHeld => ?_)
    (refine wpAnyH_take (i := 0) (oi := { dst := some 24, op := Op.fieldAddr 25 (Operand.tmp 4) 1, type := 0, pos := "book.go:102", after := #[], guard := none }) (v := ?_) rfl (by kernel_rfl) (by kernel_rfl) (by kernel_rfl) (fun _ _ _ h => h) (Or.inl ⟨by rfl, ?_⟩) (by assumption) ?_; rotate_left; · (intro w hSw; (try dsimp only at hSw); go_simp; (first | done | with_reducible rfl)))
    try simp only [Act.put, List.setIfInBounds_toArray, List.set_cons_zero, List.set_cons_succ]
    (refine wpAnyH_take (i := 1) (oi := { dst := some 25, op := Op.load 22 (Operand.tmp 24), type := 22, pos := "book.go:102", after := #[{ on := 0, ground := Ground.data }], guard := none }) (v := ?_) rfl (by kernel_rfl) (by kernel_rfl) (by kernel_rfl) (fun _ _ _ h => h) (Or.inl ⟨by rfl, ?_⟩) (by assumption) ?_; rotate_left; · (intro w hSw; (try dsimp only at hSw); go_simp; (first | done | with_reducible rfl)))
    try simp only [Act.put, List.setIfInBounds_toArray, List.set_cons_zero, List.set_cons_succ]
    (refine wpAnyH_take (i := 2) (oi := { dst := some 26, op := Op.load 25 (Operand.tmp 4), type := 25, pos := "book.go:102", after := #[], guard := none }) (v := ?_) rfl (by kernel_rfl) (by kernel_rfl) (by kernel_rfl) (fun _ _ _ h => h) (Or.inl ⟨by rfl, ?_⟩) (by assumption) ?_; rotate_left; · (intro w hSw; (try dsimp only at hSw); go_simp; (first | done | with_reducible rfl)))
    try simp only [Act.put, List.setIfInBounds_toArray, List.set_cons_zero, List.set_cons_succ]
    (refine wpAnyH_take (i := 3) (oi := { dst := some 27, op := Op.move (Operand.tmp 1), type := 3, pos := "book.go:102", after := #[], guard := none }) (v := ?_) rfl (by kernel_rfl) (by kernel_rfl) (by kernel_rfl) (fun _ _ _ h => h) (Or.inl ⟨by rfl, ?_⟩) (by assumption) ?_; rotate_left; · (intro w hSw; (try dsimp only at hSw); go_simp; (first | done | with_reducible rfl)))
    try simp only [Act.put, List.setIfInBounds_toArray, List.set_cons_zero, List.set_cons_succ]
    refine wpAnyH_ready (rs := [4, 7]) (by kernel_rfl) (by simp) ?_
    refine (AllReadyH.cons (o := { dst := some 28, op := Op.call { callee := Callee.value (Operand.func 52), args := #[Operand.tmp 26, Operand.tmp 27], argTypes := #[25, 3] }, type := 3, pos := "book.go:102", after := #[{ on := 2, ground := Ground.data }, { on := 3, ground := Ground.data }], guard := none }) rfl (fun K hK => ?_) (AllReadyH.cons (o := { dst := some 13, op := Op.alloc 49, type := 0, pos := "book.go:102", after := #[], guard := none }) rfl (fun K hK => ?_) AllReadyH.nil))
    · go_simp
      (go_at_call 52; (with_reducible refine (CS _ (grew_trans HG4.out (by repeat (first | exact grew_refl _ | refine grew_drew ?_ | refine grew_trans ?_ (grew_alloc _ _ _))))).mono ?_); rintro e w5 ⟨rfl, hg⟩; have HR5 := Lib.hid hg; have HG5 : Hid (Grew w4 w5) := grew_trans (by repeat (first | exact grew_refl _ | refine grew_drew ?_ | refine grew_trans ?_ (grew_alloc _ _ _))) hg; have HS5 := HS.out _ HG5.out; have HS5a := HS.out _ (grew_trans HG5.out (grew_alloc w5 #[.int .i64 0, .int .i64 0, .int .i64 0, .int .i64 0, .int .i64 0, .int .i64 0, .bool false] 49)); have hs5 : w4.heap.size ≤ w5.heap.size := HG5.out.size; clear hg)
      refine hK.out _ _ ?_ (fun hHeld => ?_)
      · first
        | exact HS5
      clear hK K
      try simp only [Act.put, List.setIfInBounds_toArray, List.set_cons_zero, List.set_cons_succ]
      (refine wpAnyH_take (i := 5) (oi := { dst := some 29, op := Op.indexAddr 22 (Operand.tmp 25) (Operand.tmp 28), type := 0, pos := "book.go:102", after := #[{ on := 1, ground := Ground.data }, { on := 4, ground := Ground.data }], guard := none }) (v := ?_) rfl (by kernel_rfl) (by kernel_rfl) (by kernel_rfl) (fun _ _ _ h => h) (Or.inl ⟨by rfl, ?_⟩) (by assumption) ?_; rotate_left; · (intro w hSw; (try dsimp only at hSw); go_simp; (first | done | with_reducible rfl)))
      try simp only [Act.put, List.setIfInBounds_toArray, List.set_cons_zero, List.set_cons_succ]
      (refine wpAnyH_take (i := 6) (oi := { dst := some 30, op := Op.load 49 (Operand.tmp 29), type := 49, pos := "book.go:102", after := #[{ on := 5, ground := Ground.data }], guard := none }) (v := ?_) rfl (by kernel_rfl) (by kernel_rfl) (by kernel_rfl) (fun _ _ _ h => h) (Or.inl ⟨by rfl, ?_⟩) (by assumption) ?_; rotate_left; · (intro w hSw; (try dsimp only at hSw); go_simp; (first | done | with_reducible rfl)))
      try simp only [Act.put, List.setIfInBounds_toArray, List.set_cons_zero, List.set_cons_succ]
      refine wpAnyH_ready (rs := [7]) (by kernel_rfl) (by simp) ?_
      refine (AllReadyH.cons (o := { dst := some 13, op := Op.alloc 49, type := 0, pos := "book.go:102", after := #[], guard := none }) rfl (fun K hK => ?_) AllReadyH.nil)
      go_simp
      refine hK.out _ _ ?_ (fun hHeld => ?_)
      · first
        | exact HS2a
        | exact HS5a
      clear hK K
      try simp only [Act.put, List.setIfInBounds_toArray, List.set_cons_zero, List.set_cons_succ]
      refine wpAnyH_ready (rs := [8]) (by kernel_rfl) (by simp) ?_
      refine (AllReadyH.cons (o := { dst := none, op := Op.store 49 (Operand.tmp 13) (Operand.tmp 30), type := 0, pos := "book.go:102", after := #[{ on := 7, ground := Ground.data }, { on := 6, ground := Ground.data }, { on := 4, ground := Ground.chain }, { on := 0, ground := Ground.phase }, { on := 1, ground := Ground.phase }, { on := 2, ground := Ground.phase }, { on := 3, ground := Ground.phase }, { on := 4, ground := Ground.phase }, { on := 5, ground := Ground.phase }, { on := 6, ground := Ground.phase }, { on := 7, ground := Ground.phase }], guard := none }) rfl (fun K hK => ?_) AllReadyH.nil)
      first
        | (have HEB := (OwnC.new w4 [.int .i64 0, .int .i64 0, .int .i64 0, .int .i64 0, .int .i64 0, .int .i64 0, .bool false] 49 _ rfl).keep (grew_trans (grew_drew (grew_refl _)) HR5.out); have e0 : w5.cell? ⟨w4.heap.size, 0, none⟩ = some (.int .i64 0) := HEB.at 0 _ rfl; have g0 : w5.frozen? ⟨w4.heap.size, 0, none⟩ = false := HEB.fr 0 (by show 0 < 7; omega); have e1 : w5.cell? ⟨w4.heap.size, 1, none⟩ = some (.int .i64 0) := HEB.at 1 _ rfl; have g1 : w5.frozen? ⟨w4.heap.size, 1, none⟩ = false := HEB.fr 1 (by show 1 < 7; omega); have e2 : w5.cell? ⟨w4.heap.size, 2, none⟩ = some (.int .i64 0) := HEB.at 2 _ rfl; have g2 : w5.frozen? ⟨w4.heap.size, 2, none⟩ = false := HEB.fr 2 (by show 2 < 7; omega); have e3 : w5.cell? ⟨w4.heap.size, 3, none⟩ = some (.int .i64 0) := HEB.at 3 _ rfl; have g3 : w5.frozen? ⟨w4.heap.size, 3, none⟩ = false := HEB.fr 3 (by show 3 < 7; omega); have e4 : w5.cell? ⟨w4.heap.size, 4, none⟩ = some (.int .i64 0) := HEB.at 4 _ rfl; have g4 : w5.frozen? ⟨w4.heap.size, 4, none⟩ = false := HEB.fr 4 (by show 4 < 7; omega); have e5 : w5.cell? ⟨w4.heap.size, 5, none⟩ = some (.int .i64 0) := HEB.at 5 _ rfl; have g5 : w5.frozen? ⟨w4.heap.size, 5, none⟩ = false := HEB.fr 5 (by show 5 < 7; omega); have e6 : w5.cell? ⟨w4.heap.size, 6, none⟩ = some (.bool false) := HEB.at 6 _ rfl; have g6 : w5.frozen? ⟨w4.heap.size, 6, none⟩ = false := HEB.fr 6 (by show 6 < 7; omega); clear HEB; have HKEEP := HSO.out ((((((((w5).setCell ⟨w4.heap.size, 0, none⟩ (.int .i64 q1)).setCell ⟨w4.heap.size, 1, none⟩ (.int .i64 q2)).setCell ⟨w4.heap.size, 2, none⟩ (.int .i64 q3)).setCell ⟨w4.heap.size, 3, none⟩ (.int .i64 q4)).setCell ⟨w4.heap.size, 4, none⟩ (.int .i64 q5)).setCell ⟨w4.heap.size, 5, none⟩ (.int .i64 q6)).setCell ⟨w4.heap.size, 6, none⟩ (.bool q7)) (OwnC.other (OwnC.other (OwnC.other (OwnC.other (OwnC.other (OwnC.other (OwnC.other (HX4.out.keep HG5.out) ⟨w4.heap.size, 0, none⟩ (.int .i64 q1) (by show w4.heap.size ≠ w.heap.size; omega)) ⟨w4.heap.size, 1, none⟩ (.int .i64 q2) (by show w4.heap.size ≠ w.heap.size; omega)) ⟨w4.heap.size, 2, none⟩ (.int .i64 q3) (by show w4.heap.size ≠ w.heap.size; omega)) ⟨w4.heap.size, 3, none⟩ (.int .i64 q4) (by show w4.heap.size ≠ w.heap.size; omega)) ⟨w4.heap.size, 4, none⟩ (.int .i64 q5) (by show w4.heap.size ≠ w.heap.size; omega)) ⟨w4.heap.size, 5, none⟩ (.int .i64 q6) (by show w4.heap.size ≠ w.heap.size; omega)) ⟨w4.heap.size, 6, none⟩ (.bool q7) (by show w4.heap.size ≠ w.heap.size; omega)) (HTC.out _ (grew_set (grew_set (grew_set (grew_set (grew_set (grew_set (grew_set (grew_trans HG4.out HG5.out) (p := ⟨w4.heap.size, 0, none⟩) (.int .i64 q1) (by show w.heap.size ≤ w4.heap.size; omega)) (p := ⟨w4.heap.size, 1, none⟩) (.int .i64 q2) (by show w.heap.size ≤ w4.heap.size; omega)) (p := ⟨w4.heap.size, 2, none⟩) (.int .i64 q3) (by show w.heap.size ≤ w4.heap.size; omega)) (p := ⟨w4.heap.size, 3, none⟩) (.int .i64 q4) (by show w.heap.size ≤ w4.heap.size; omega)) (p := ⟨w4.heap.size, 4, none⟩) (.int .i64 q5) (by show w.heap.size ≤ w4.heap.size; omega)) (p := ⟨w4.heap.size, 5, none⟩) (.int .i64 q6) (by show w.heap.size ≤ w4.heap.size; omega)) (p := ⟨w4.heap.size, 6, none⟩) (.bool q7) (by show w.heap.size ≤ w4.heap.size; omega))))
        | (have HKEEP := HS.out _ (grew_trans HG5.out (grew_alloc w5 #[.int .i64 q1, .int .i64 q2, .int .i64 q3, .int .i64 q4, .int .i64 q5, .int .i64 q6, .bool q7] 49)))
      go_simp
      refine hK.out _ _ ?_ (fun hHeld => ?_)
      · first
        | exact HKEEP
      clear hK K
      try simp only [Act.put, List.setIfInBounds_toArray, List.set_cons_zero, List.set_cons_succ]
      refine wpAnyH_done (by kernel_rfl) ?_ _
      clear hHeld
      first
        | (have HEB := (OwnC.new w4 [.int .i64 0, .int .i64 0, .int .i64 0, .int .i64 0, .int .i64 0, .int .i64 0, .bool false] 49 _ rfl).keep (grew_trans (grew_drew (grew_refl _)) HR5.out); have hbt : ∀ x, A' = some x → x.block ≠ w4.heap.size := (fun x hx => by have := (HB4.out.t.block x hx).2; omega); have hbp : ∀ x, A'' = some x → x.block ≠ w4.heap.size := (fun x hx => by have := (HB4.out.p.block x hx).2; omega); have HA : Hid (OwnC ((((((((w5).setCell ⟨w4.heap.size, 0, none⟩ (.int .i64 q1)).setCell ⟨w4.heap.size, 1, none⟩ (.int .i64 q2)).setCell ⟨w4.heap.size, 2, none⟩ (.int .i64 q3)).setCell ⟨w4.heap.size, 3, none⟩ (.int .i64 q4)).setCell ⟨w4.heap.size, 4, none⟩ (.int .i64 q5)).setCell ⟨w4.heap.size, 5, none⟩ (.int .i64 q6)).setCell ⟨w4.heap.size, 6, none⟩ (.bool q7)) (w4.heap.size) [.int .i64 q1, .int .i64 q2, .int .i64 q3, .int .i64 q4, .int .i64 q5, .int .i64 q6, .bool q7] ∧ OwnC ((((((((w5).setCell ⟨w4.heap.size, 0, none⟩ (.int .i64 q1)).setCell ⟨w4.heap.size, 1, none⟩ (.int .i64 q2)).setCell ⟨w4.heap.size, 2, none⟩ (.int .i64 q3)).setCell ⟨w4.heap.size, 3, none⟩ (.int .i64 q4)).setCell ⟨w4.heap.size, 4, none⟩ (.int .i64 q5)).setCell ⟨w4.heap.size, 5, none⟩ (.int .i64 q6)).setCell ⟨w4.heap.size, 6, none⟩ (.bool q7)) E [.int .i64 cx, .slice A' lc.length c', .slice A'' pc.length c''] ∧ OwnC ((((((((w5).setCell ⟨w4.heap.size, 0, none⟩ (.int .i64 q1)).setCell ⟨w4.heap.size, 1, none⟩ (.int .i64 q2)).setCell ⟨w4.heap.size, 2, none⟩ (.int .i64 q3)).setCell ⟨w4.heap.size, 3, none⟩ (.int .i64 q4)).setCell ⟨w4.heap.size, 4, none⟩ (.int .i64 q5)).setCell ⟨w4.heap.size, 5, none⟩ (.int .i64 q6)).setCell ⟨w4.heap.size, 6, none⟩ (.bool q7)) (w.heap.size + 1) [.int .i64 0, .slice none 0 0, .slice none 0 0] ∧ OwnB ((((((((w5).setCell ⟨w4.heap.size, 0, none⟩ (.int .i64 q1)).setCell ⟨w4.heap.size, 1, none⟩ (.int .i64 q2)).setCell ⟨w4.heap.size, 2, none⟩ (.int .i64 q3)).setCell ⟨w4.heap.size, 3, none⟩ (.int .i64 q4)).setCell ⟨w4.heap.size, 4, none⟩ (.int .i64 q5)).setCell ⟨w4.heap.size, 5, none⟩ (.int .i64 q6)).setCell ⟨w4.heap.size, 6, none⟩ (.bool q7)) w0.heap.size (cx, lc, pc) A' A'' c' c'' ∧ Grew w ((((((((w5).setCell ⟨w4.heap.size, 0, none⟩ (.int .i64 q1)).setCell ⟨w4.heap.size, 1, none⟩ (.int .i64 q2)).setCell ⟨w4.heap.size, 2, none⟩ (.int .i64 q3)).setCell ⟨w4.heap.size, 3, none⟩ (.int .i64 q4)).setCell ⟨w4.heap.size, 4, none⟩ (.int .i64 q5)).setCell ⟨w4.heap.size, 5, none⟩ (.int .i64 q6)).setCell ⟨w4.heap.size, 6, none⟩ (.bool q7)) ∧ E < w4.heap.size) := ⟨OwnC.set (OwnC.set (OwnC.set (OwnC.set (OwnC.set (OwnC.set (OwnC.set (HEB) 0 (.int .i64 q1) (by show 0 < 7; omega)) 1 (.int .i64 q2) (by show 1 < 7; omega)) 2 (.int .i64 q3) (by show 2 < 7; omega)) 3 (.int .i64 q4) (by show 3 < 7; omega)) 4 (.int .i64 q5) (by show 4 < 7; omega)) 5 (.int .i64 q6) (by show 5 < 7; omega)) 6 (.bool q7) (by show 6 < 7; omega), OwnC.other (OwnC.other (OwnC.other (OwnC.other (OwnC.other (OwnC.other (OwnC.other (HE4.out.keep HG5.out) ⟨w4.heap.size, 0, none⟩ (.int .i64 q1) (by show w4.heap.size ≠ E; omega)) ⟨w4.heap.size, 1, none⟩ (.int .i64 q2) (by show w4.heap.size ≠ E; omega)) ⟨w4.heap.size, 2, none⟩ (.int .i64 q3) (by show w4.heap.size ≠ E; omega)) ⟨w4.heap.size, 3, none⟩ (.int .i64 q4) (by show w4.heap.size ≠ E; omega)) ⟨w4.heap.size, 4, none⟩ (.int .i64 q5) (by show w4.heap.size ≠ E; omega)) ⟨w4.heap.size, 5, none⟩ (.int .i64 q6) (by show w4.heap.size ≠ E; omega)) ⟨w4.heap.size, 6, none⟩ (.bool q7) (by show w4.heap.size ≠ E; omega), OwnC.other (OwnC.other (OwnC.other (OwnC.other (OwnC.other (OwnC.other (OwnC.other (HZ4.out.keep HG5.out) ⟨w4.heap.size, 0, none⟩ (.int .i64 q1) (by show w4.heap.size ≠ w.heap.size + 1; omega)) ⟨w4.heap.size, 1, none⟩ (.int .i64 q2) (by show w4.heap.size ≠ w.heap.size + 1; omega)) ⟨w4.heap.size, 2, none⟩ (.int .i64 q3) (by show w4.heap.size ≠ w.heap.size + 1; omega)) ⟨w4.heap.size, 3, none⟩ (.int .i64 q4) (by show w4.heap.size ≠ w.heap.size + 1; omega)) ⟨w4.heap.size, 4, none⟩ (.int .i64 q5) (by show w4.heap.size ≠ w.heap.size + 1; omega)) ⟨w4.heap.size, 5, none⟩ (.int .i64 q6) (by show w4.heap.size ≠ w.heap.size + 1; omega)) ⟨w4.heap.size, 6, none⟩ (.bool q7) (by show w4.heap.size ≠ w.heap.size + 1; omega), OwnB.setO (OwnB.setO (OwnB.setO (OwnB.setO (OwnB.setO (OwnB.setO (OwnB.setO (HB4.out.keep HG5.out) hbt hbp w4.heap.size 0 (.int .i64 q1) rfl) hbt hbp w4.heap.size 1 (.int .i64 q2) rfl) hbt hbp w4.heap.size 2 (.int .i64 q3) rfl) hbt hbp w4.heap.size 3 (.int .i64 q4) rfl) hbt hbp w4.heap.size 4 (.int .i64 q5) rfl) hbt hbp w4.heap.size 5 (.int .i64 q6) rfl) hbt hbp w4.heap.size 6 (.bool q7) rfl, grew_set (grew_set (grew_set (grew_set (grew_set (grew_set (grew_set (grew_trans HG4.out HG5.out) (p := ⟨w4.heap.size, 0, none⟩) (.int .i64 q1) (by show w.heap.size ≤ w4.heap.size; omega)) (p := ⟨w4.heap.size, 1, none⟩) (.int .i64 q2) (by show w.heap.size ≤ w4.heap.size; omega)) (p := ⟨w4.heap.size, 2, none⟩) (.int .i64 q3) (by show w.heap.size ≤ w4.heap.size; omega)) (p := ⟨w4.heap.size, 3, none⟩) (.int .i64 q4) (by show w.heap.size ≤ w4.heap.size; omega)) (p := ⟨w4.heap.size, 4, none⟩) (.int .i64 q5) (by show w.heap.size ≤ w4.heap.size; omega)) (p := ⟨w4.heap.size, 5, none⟩) (.int .i64 q6) (by show w.heap.size ≤ w4.heap.size; omega)) (p := ⟨w4.heap.size, 6, none⟩) (.bool q7) (by show w.heap.size ≤ w4.heap.size; omega), by omega⟩; generalize (((((((w5).setCell ⟨w4.heap.size, 0, none⟩ (.int .i64 q1)).setCell ⟨w4.heap.size, 1, none⟩ (.int .i64 q2)).setCell ⟨w4.heap.size, 2, none⟩ (.int .i64 q3)).setCell ⟨w4.heap.size, 3, none⟩ (.int .i64 q4)).setCell ⟨w4.heap.size, 4, none⟩ (.int .i64 q5)).setCell ⟨w4.heap.size, 5, none⟩ (.int .i64 q6)).setCell ⟨w4.heap.size, 6, none⟩ (.bool q7) = wT at *; generalize hT : w4.heap.size = T at *)
        | (have HA : Hid (OwnC (w5.alloc (.cells #[.int .i64 q1, .int .i64 q2, .int .i64 q3, .int .i64 q4, .int .i64 q5, .int .i64 q6, .bool q7] 49)) (w5.heap.size) [.int .i64 q1, .int .i64 q2, .int .i64 q3, .int .i64 q4, .int .i64 q5, .int .i64 q6, .bool q7] ∧ OwnC (w5.alloc (.cells #[.int .i64 q1, .int .i64 q2, .int .i64 q3, .int .i64 q4, .int .i64 q5, .int .i64 q6, .bool q7] 49)) E [.int .i64 cx, .slice A' lc.length c', .slice A'' pc.length c''] ∧ OwnC (w5.alloc (.cells #[.int .i64 q1, .int .i64 q2, .int .i64 q3, .int .i64 q4, .int .i64 q5, .int .i64 q6, .bool q7] 49)) (w.heap.size + 1) [.int .i64 0, .slice none 0 0, .slice none 0 0] ∧ OwnB (w5.alloc (.cells #[.int .i64 q1, .int .i64 q2, .int .i64 q3, .int .i64 q4, .int .i64 q5, .int .i64 q6, .bool q7] 49)) w0.heap.size (cx, lc, pc) A' A'' c' c'' ∧ Grew w (w5.alloc (.cells #[.int .i64 q1, .int .i64 q2, .int .i64 q3, .int .i64 q4, .int .i64 q5, .int .i64 q6, .bool q7] 49)) ∧ E < w5.heap.size) := ⟨OwnC.new w5 [.int .i64 q1, .int .i64 q2, .int .i64 q3, .int .i64 q4, .int .i64 q5, .int .i64 q6, .bool q7] _ _ rfl, (HE4.out.keep HG5.out).keep (grew_alloc _ _ _), (HZ4.out.keep HG5.out).keep (grew_alloc _ _ _), (HB4.out.keep HG5.out).keep (grew_alloc _ _ _), grew_trans HG4.out (grew_trans HG5.out (grew_alloc _ _ _)), by omega⟩; generalize w5.alloc (.cells #[.int .i64 q1, .int .i64 q2, .int .i64 q3, .int .i64 q4, .int .i64 q5, .int .i64 q6, .bool q7] 49) = wT at *; generalize hT : w5.heap.size = T at *)
      clear HS HSO HS5 HS5a HS2a HKEEP
      obtain ⟨a1, a2, a3, a4, a5, a6⟩ := HA.out
      have t4 : wT.cell? ⟨T, 4, none⟩ = some (.int .i64 q5) := a1.at 4 _ rfl
      have t5 : wT.cell? ⟨T, 5, none⟩ = some (.int .i64 q6) := a1.at 5 _ rfl
      have u4 : wT.frozen? ⟨T, 4, none⟩ = false := a1.fr 4 (by show 4 < 7; omega)
      have u5 : wT.frozen? ⟨T, 5, none⟩ = false := a1.fr 5 (by show 5 < 7; omega)
      have hzt : w.heap.size + 1 < E := by omega
      have HT : Hid (OwnC ((wT.setCell ⟨T, 4, none⟩ (.int .i64 qq)).setCell ⟨T, 5, none⟩ (.int .i64 pp)) T [.int .i64 q1, .int .i64 q2, .int .i64 q3, .int .i64 q4, .int .i64 qq, .int .i64 pp, .bool q7]) := (a1.set 4 (.int .i64 qq) (by show 4 < 7; omega)).set 5 (.int .i64 pp) (by show 5 < 7; omega)
      have HE : Hid (OwnC ((wT.setCell ⟨T, 4, none⟩ (.int .i64 qq)).setCell ⟨T, 5, none⟩ (.int .i64 pp)) E [.int .i64 cx, .slice A' lc.length c', .slice A'' pc.length c'']) := (a2.other ⟨T, 4, none⟩ _ (by show T ≠ E; omega)).other ⟨T, 5, none⟩ _ (by show T ≠ E; omega)
      have HZ : Hid (OwnC ((wT.setCell ⟨T, 4, none⟩ (.int .i64 qq)).setCell ⟨T, 5, none⟩ (.int .i64 pp)) (w.heap.size + 1) [.int .i64 0, .slice none 0 0, .slice none 0 0]) := (a3.other ⟨T, 4, none⟩ _ (by show T ≠ w.heap.size + 1; omega)).other ⟨T, 5, none⟩ _ (by show T ≠ w.heap.size + 1; omega)
      have hbt : ∀ x, A' = some x → x.block ≠ T := fun x hx => by have := (HB4.out.t.block x hx).2; omega
      have hbp : ∀ x, A'' = some x → x.block ≠ T := fun x hx => by have := (HB4.out.p.block x hx).2; omega
      have HB : Hid (OwnB ((wT.setCell ⟨T, 4, none⟩ (.int .i64 qq)).setCell ⟨T, 5, none⟩ (.int .i64 pp)) w0.heap.size (cx, lc, pc) A' A'' c' c'') := (a4.setO hbt hbp T 4 _ rfl).setO hbt hbp T 5 _ rfl
      have HG : Hid (Grew w ((wT.setCell ⟨T, 4, none⟩ (.int .i64 qq)).setCell ⟨T, 5, none⟩ (.int .i64 pp))) := grew_set (grew_set a5 _ (by show _ ≤ T; omega)) _ (by show _ ≤ T; omega)
      clear a1 a2 a3 a4 a5 a6 HA HX4 HZ4 HE4 HG5 HR5
      apply_assumption
      go_upto_region 6 with fail
      clear t4 t5 u4 u5
      generalize (wT.setCell ⟨T, 4, none⟩ (.int .i64 qq)).setCell ⟨T, 5, none⟩ (.int .i64 pp) = wQ at *
      have e0 : wQ.cell? ⟨E, 0, none⟩ = some (.int .i64 cx) := HE.out.at 0 _ rfl
      have e1 : wQ.cell? ⟨E, 1, none⟩ = some (.slice A' lc.length c') := HE.out.at 1 _ rfl
      have e2 : wQ.cell? ⟨E, 2, none⟩ = some (.slice A'' pc.length c'') := HE.out.at 2 _ rfl
      have t0 : wQ.cell? ⟨T, 0, none⟩ = some (.int .i64 q1) := HT.out.at 0 _ rfl
      have t1 : wQ.cell? ⟨T, 1, none⟩ = some (.int .i64 q2) := HT.out.at 1 _ rfl
      have t2 : wQ.cell? ⟨T, 2, none⟩ = some (.int .i64 q3) := HT.out.at 2 _ rfl
      have t3 : wQ.cell? ⟨T, 3, none⟩ = some (.int .i64 q4) := HT.out.at 3 _ rfl
      have t4 : wQ.cell? ⟨T, 4, none⟩ = some (.int .i64 qq) := HT.out.at 4 _ rfl
      have t5 : wQ.cell? ⟨T, 5, none⟩ = some (.int .i64 pp) := HT.out.at 5 _ rfl
      have t6 : wQ.cell? ⟨T, 6, none⟩ = some (.bool q7) := HT.out.at 6 _ rfl
      go_wp2_with (go_at_call 25; ((with_reducible refine (CE _ _ _ _ _ HB.out.in).mono ?_); rintro e w8 ⟨B1, B2, d1, d2, rfl, hb, hg⟩; have HB8 := Lib.hid (hb.mono HG.out.size); have hbs : w.heap.size + 2 ≤ wQ.heap.size := (by have h9 := HZ.out.lt; have h8 := HE.out.lt; omega); have HB9 := Lib.hid (hb.mono hbs); have HG8 := Lib.hid (grew_trans HG.out hg); have HZ8 := Lib.hid (HZ.out.keep hg); have y0 : w8.cell? ⟨w.heap.size + 1, 0, none⟩ = some (.int .i64 0) := HZ8.out.at 0 _ rfl; have f0 : w8.frozen? ⟨w.heap.size + 1, 0, none⟩ = false := HZ8.out.fr 0 (by decide); have y1 : w8.cell? ⟨w.heap.size + 1, 1, none⟩ = some (.slice none 0 0) := HZ8.out.at 1 _ rfl; have f1 : w8.frozen? ⟨w.heap.size + 1, 1, none⟩ = false := HZ8.out.fr 1 (by decide); have y2 : w8.cell? ⟨w.heap.size + 1, 2, none⟩ = some (.slice none 0 0) := HZ8.out.at 2 _ rfl; have f2 : w8.frozen? ⟨w.heap.size + 1, 2, none⟩ = false := HZ8.out.fr 2 (by decide); clear hb hg CE))
      have HP := HZ8.out.all [.int .i64 ex, .slice B1 el.length d1, .slice B2 ep.length d2] rfl
      have HGP := grew_put (w := w) (w.heap.size + 1) (by omega) [.int .i64 ex, .slice B1 el.length d1, .slice B2 ep.length d2] 0 _ HG8.out
      have HBP := HB9.out.put (b2 := w.heap.size + 1) (by omega) [.int .i64 ex, .slice B1 el.length d1, .slice B2 ep.length d2]
      change bodyPost _ _ _ _ _ (putC w8 (w.heap.size + 1) 0 [.int .i64 ex, .slice B1 el.length d1, .slice B2 ep.length d2])
      clear y0 y1 y2 f0 f1 f2
      generalize putC w8 (w.heap.size + 1) 0 [.int .i64 ex, .slice B1 el.length d1, .slice B2 ep.length d2] = w9 at *
      have z0 : w9.cell? ⟨w.heap.size + 1, 0, none⟩ = _ := HP.at 0 _ rfl
      have z1 : w9.cell? ⟨w.heap.size + 1, 1, none⟩ = _ := HP.at 1 _ rfl
      have z2 : w9.cell? ⟨w.heap.size + 1, 2, none⟩ = _ := HP.at 2 _ rfl
      refine bodyPost_ret (v := .tuple #[.agg #[.int .i64 ex, .slice B1 el.length d1, .slice B2 ep.length d2], .int .i64 en, .int .i64 ee]) (by simp [results, Try.results28, go_sem, z0, z1, z2]) rfl ?_
      exact HYES.out _ _ _ _ _ (HBP.mono (by omega)) HGP
    · go_simp
      refine hK.out _ _ ?_ (fun hHeld => ?_)
      · first
        | exact HS2a
        | exact HS5a
      clear hK K
      try simp only [Act.put, List.setIfInBounds_toArray, List.set_cons_zero, List.set_cons_succ]
      refine wpAnyH_ready (rs := [4]) (by kernel_rfl) (by simp) ?_
      refine (AllReadyH.cons (o := { dst := some 28, op := Op.call { callee := Callee.value (Operand.func 52), args := #[Operand.tmp 26, Operand.tmp 27], argTypes := #[25, 3] }, type := 3, pos := "book.go:102", after := #[{ on := 2, ground := Ground.data }, { on := 3, ground := Ground.data }], guard := none }) rfl (fun K hK => ?_) AllReadyH.nil)
      go_simp
      (go_at_call 52; (with_reducible refine (CS _ (grew_trans HG4.out (by repeat (first | exact grew_refl _ | refine grew_drew ?_ | refine grew_trans ?_ (grew_alloc _ _ _))))).mono ?_); rintro e w5 ⟨rfl, hg⟩; have HR5 := Lib.hid hg; have HG5 : Hid (Grew w4 w5) := grew_trans (by repeat (first | exact grew_refl _ | refine grew_drew ?_ | refine grew_trans ?_ (grew_alloc _ _ _))) hg; have HS5 := HS.out _ HG5.out; have HS5a := HS.out _ (grew_trans HG5.out (grew_alloc w5 #[.int .i64 0, .int .i64 0, .int .i64 0, .int .i64 0, .int .i64 0, .int .i64 0, .bool false] 49)); have hs5 : w4.heap.size ≤ w5.heap.size := HG5.out.size; clear hg)
      refine hK.out _ _ ?_ (fun hHeld => ?_)
      · first
        | exact HS5
      clear hK K
      try simp only [Act.put, List.setIfInBounds_toArray, List.set_cons_zero, List.set_cons_succ]
      (refine wpAnyH_take (i := 5) (oi := { dst := some 29, op := Op.indexAddr 22 (Operand.tmp 25) (Operand.tmp 28), type := 0, pos := "book.go:102", after := #[{ on := 1, ground := Ground.data }, { on := 4, ground := Ground.data }], guard := none }) (v := ?_) rfl (by kernel_rfl) (by kernel_rfl) (by kernel_rfl) (fun _ _ _ h => h) (Or.inl ⟨by rfl, ?_⟩) (by assumption) ?_; rotate_left; · (intro w hSw; (try dsimp only at hSw); go_simp; (first | done | with_reducible rfl)))
      try simp only [Act.put, List.setIfInBounds_toArray, List.set_cons_zero, List.set_cons_succ]
      (refine wpAnyH_take (i := 6) (oi := { dst := some 30, op := Op.load 49 (Operand.tmp 29), type := 49, pos := "book.go:102", after := #[{ on := 5, ground := Ground.data }], guard := none }) (v := ?_) rfl (by kernel_rfl) (by kernel_rfl) (by kernel_rfl) (fun _ _ _ h => h) (Or.inl ⟨by rfl, ?_⟩) (by assumption) ?_; rotate_left; · (intro w hSw; (try dsimp only at hSw); go_simp; (first | done | with_reducible rfl)))
      try simp only [Act.put, List.setIfInBounds_toArray, List.set_cons_zero, List.set_cons_succ]
      refine wpAnyH_ready (rs := [8]) (by kernel_rfl) (by simp) ?_
      refine (AllReadyH.cons (o := { dst := none, op := Op.store 49 (Operand.tmp 13) (Operand.tmp 30), type := 0, pos := "book.go:102", after := #[{ on := 7, ground := Ground.data }, { on := 6, ground := Ground.data }, { on := 4, ground := Ground.chain }, { on := 0, ground := Ground.phase }, { on := 1, ground := Ground.phase }, { on := 2, ground := Ground.phase }, { on := 3, ground := Ground.phase }, { on := 4, ground := Ground.phase }, { on := 5, ground := Ground.phase }, { on := 6, ground := Ground.phase }, { on := 7, ground := Ground.phase }], guard := none }) rfl (fun K hK => ?_) AllReadyH.nil)
      first
        | (have HEB := (OwnC.new w4 [.int .i64 0, .int .i64 0, .int .i64 0, .int .i64 0, .int .i64 0, .int .i64 0, .bool false] 49 _ rfl).keep (grew_trans (grew_drew (grew_refl _)) HR5.out); have e0 : w5.cell? ⟨w4.heap.size, 0, none⟩ = some (.int .i64 0) := HEB.at 0 _ rfl; have g0 : w5.frozen? ⟨w4.heap.size, 0, none⟩ = false := HEB.fr 0 (by show 0 < 7; omega); have e1 : w5.cell? ⟨w4.heap.size, 1, none⟩ = some (.int .i64 0) := HEB.at 1 _ rfl; have g1 : w5.frozen? ⟨w4.heap.size, 1, none⟩ = false := HEB.fr 1 (by show 1 < 7; omega); have e2 : w5.cell? ⟨w4.heap.size, 2, none⟩ = some (.int .i64 0) := HEB.at 2 _ rfl; have g2 : w5.frozen? ⟨w4.heap.size, 2, none⟩ = false := HEB.fr 2 (by show 2 < 7; omega); have e3 : w5.cell? ⟨w4.heap.size, 3, none⟩ = some (.int .i64 0) := HEB.at 3 _ rfl; have g3 : w5.frozen? ⟨w4.heap.size, 3, none⟩ = false := HEB.fr 3 (by show 3 < 7; omega); have e4 : w5.cell? ⟨w4.heap.size, 4, none⟩ = some (.int .i64 0) := HEB.at 4 _ rfl; have g4 : w5.frozen? ⟨w4.heap.size, 4, none⟩ = false := HEB.fr 4 (by show 4 < 7; omega); have e5 : w5.cell? ⟨w4.heap.size, 5, none⟩ = some (.int .i64 0) := HEB.at 5 _ rfl; have g5 : w5.frozen? ⟨w4.heap.size, 5, none⟩ = false := HEB.fr 5 (by show 5 < 7; omega); have e6 : w5.cell? ⟨w4.heap.size, 6, none⟩ = some (.bool false) := HEB.at 6 _ rfl; have g6 : w5.frozen? ⟨w4.heap.size, 6, none⟩ = false := HEB.fr 6 (by show 6 < 7; omega); clear HEB; have HKEEP := HSO.out ((((((((w5).setCell ⟨w4.heap.size, 0, none⟩ (.int .i64 q1)).setCell ⟨w4.heap.size, 1, none⟩ (.int .i64 q2)).setCell ⟨w4.heap.size, 2, none⟩ (.int .i64 q3)).setCell ⟨w4.heap.size, 3, none⟩ (.int .i64 q4)).setCell ⟨w4.heap.size, 4, none⟩ (.int .i64 q5)).setCell ⟨w4.heap.size, 5, none⟩ (.int .i64 q6)).setCell ⟨w4.heap.size, 6, none⟩ (.bool q7)) (OwnC.other (OwnC.other (OwnC.other (OwnC.other (OwnC.other (OwnC.other (OwnC.other (HX4.out.keep HG5.out) ⟨w4.heap.size, 0, none⟩ (.int .i64 q1) (by show w4.heap.size ≠ w.heap.size; omega)) ⟨w4.heap.size, 1, none⟩ (.int .i64 q2) (by show w4.heap.size ≠ w.heap.size; omega)) ⟨w4.heap.size, 2, none⟩ (.int .i64 q3) (by show w4.heap.size ≠ w.heap.size; omega)) ⟨w4.heap.size, 3, none⟩ (.int .i64 q4) (by show w4.heap.size ≠ w.heap.size; omega)) ⟨w4.heap.size, 4, none⟩ (.int .i64 q5) (by show w4.heap.size ≠ w.heap.size; omega)) ⟨w4.heap.size, 5, none⟩ (.int .i64 q6) (by show w4.heap.size ≠ w.heap.size; omega)) ⟨w4.heap.size, 6, none⟩ (.bool q7) (by show w4.heap.size ≠ w.heap.size; omega)) (HTC.out _ (grew_set (grew_set (grew_set (grew_set (grew_set (grew_set (grew_set (grew_trans HG4.out HG5.out) (p := ⟨w4.heap.size, 0, none⟩) (.int .i64 q1) (by show w.heap.size ≤ w4.heap.size; omega)) (p := ⟨w4.heap.size, 1, none⟩) (.int .i64 q2) (by show w.heap.size ≤ w4.heap.size; omega)) (p := ⟨w4.heap.size, 2, none⟩) (.int .i64 q3) (by show w.heap.size ≤ w4.heap.size; omega)) (p := ⟨w4.heap.size, 3, none⟩) (.int .i64 q4) (by show w.heap.size ≤ w4.heap.size; omega)) (p := ⟨w4.heap.size, 4, none⟩) (.int .i64 q5) (by show w.heap.size ≤ w4.heap.size; omega)) (p := ⟨w4.heap.size, 5, none⟩) (.int .i64 q6) (by show w.heap.size ≤ w4.heap.size; omega)) (p := ⟨w4.heap.size, 6, none⟩) (.bool q7) (by show w.heap.size ≤ w4.heap.size; omega))))
        | (have HKEEP := HS.out _ (grew_trans HG5.out (grew_alloc w5 #[.int .i64 q1, .int .i64 q2, .int .i64 q3, .int .i64 q4, .int .i64 q5, .int .i64 q6, .bool q7] 49)))
      go_simp
      refine hK.out _ _ ?_ (fun hHeld => ?_)
      · first
        | exact HKEEP
      clear hK K
      try simp only [Act.put, List.setIfInBounds_toArray, List.set_cons_zero, List.set_cons_succ]
      refine wpAnyH_done (by kernel_rfl) ?_ _
      clear hHeld
      first
        | (have HEB := (OwnC.new w4 [.int .i64 0, .int .i64 0, .int .i64 0, .int .i64 0, .int .i64 0, .int .i64 0, .bool false] 49 _ rfl).keep (grew_trans (grew_drew (grew_refl _)) HR5.out); have hbt : ∀ x, A' = some x → x.block ≠ w4.heap.size := (fun x hx => by have := (HB4.out.t.block x hx).2; omega); have hbp : ∀ x, A'' = some x → x.block ≠ w4.heap.size := (fun x hx => by have := (HB4.out.p.block x hx).2; omega); have HA : Hid (OwnC ((((((((w5).setCell ⟨w4.heap.size, 0, none⟩ (.int .i64 q1)).setCell ⟨w4.heap.size, 1, none⟩ (.int .i64 q2)).setCell ⟨w4.heap.size, 2, none⟩ (.int .i64 q3)).setCell ⟨w4.heap.size, 3, none⟩ (.int .i64 q4)).setCell ⟨w4.heap.size, 4, none⟩ (.int .i64 q5)).setCell ⟨w4.heap.size, 5, none⟩ (.int .i64 q6)).setCell ⟨w4.heap.size, 6, none⟩ (.bool q7)) (w4.heap.size) [.int .i64 q1, .int .i64 q2, .int .i64 q3, .int .i64 q4, .int .i64 q5, .int .i64 q6, .bool q7] ∧ OwnC ((((((((w5).setCell ⟨w4.heap.size, 0, none⟩ (.int .i64 q1)).setCell ⟨w4.heap.size, 1, none⟩ (.int .i64 q2)).setCell ⟨w4.heap.size, 2, none⟩ (.int .i64 q3)).setCell ⟨w4.heap.size, 3, none⟩ (.int .i64 q4)).setCell ⟨w4.heap.size, 4, none⟩ (.int .i64 q5)).setCell ⟨w4.heap.size, 5, none⟩ (.int .i64 q6)).setCell ⟨w4.heap.size, 6, none⟩ (.bool q7)) E [.int .i64 cx, .slice A' lc.length c', .slice A'' pc.length c''] ∧ OwnC ((((((((w5).setCell ⟨w4.heap.size, 0, none⟩ (.int .i64 q1)).setCell ⟨w4.heap.size, 1, none⟩ (.int .i64 q2)).setCell ⟨w4.heap.size, 2, none⟩ (.int .i64 q3)).setCell ⟨w4.heap.size, 3, none⟩ (.int .i64 q4)).setCell ⟨w4.heap.size, 4, none⟩ (.int .i64 q5)).setCell ⟨w4.heap.size, 5, none⟩ (.int .i64 q6)).setCell ⟨w4.heap.size, 6, none⟩ (.bool q7)) (w.heap.size + 1) [.int .i64 0, .slice none 0 0, .slice none 0 0] ∧ OwnB ((((((((w5).setCell ⟨w4.heap.size, 0, none⟩ (.int .i64 q1)).setCell ⟨w4.heap.size, 1, none⟩ (.int .i64 q2)).setCell ⟨w4.heap.size, 2, none⟩ (.int .i64 q3)).setCell ⟨w4.heap.size, 3, none⟩ (.int .i64 q4)).setCell ⟨w4.heap.size, 4, none⟩ (.int .i64 q5)).setCell ⟨w4.heap.size, 5, none⟩ (.int .i64 q6)).setCell ⟨w4.heap.size, 6, none⟩ (.bool q7)) w0.heap.size (cx, lc, pc) A' A'' c' c'' ∧ Grew w ((((((((w5).setCell ⟨w4.heap.size, 0, none⟩ (.int .i64 q1)).setCell ⟨w4.heap.size, 1, none⟩ (.int .i64 q2)).setCell ⟨w4.heap.size, 2, none⟩ (.int .i64 q3)).setCell ⟨w4.heap.size, 3, none⟩ (.int .i64 q4)).setCell ⟨w4.heap.size, 4, none⟩ (.int .i64 q5)).setCell ⟨w4.heap.size, 5, none⟩ (.int .i64 q6)).setCell ⟨w4.heap.size, 6, none⟩ (.bool q7)) ∧ E < w4.heap.size) := ⟨OwnC.set (OwnC.set (OwnC.set (OwnC.set (OwnC.set (OwnC.set (OwnC.set (HEB) 0 (.int .i64 q1) (by show 0 < 7; omega)) 1 (.int .i64 q2) (by show 1 < 7; omega)) 2 (.int .i64 q3) (by show 2 < 7; omega)) 3 (.int .i64 q4) (by show 3 < 7; omega)) 4 (.int .i64 q5) (by show 4 < 7; omega)) 5 (.int .i64 q6) (by show 5 < 7; omega)) 6 (.bool q7) (by show 6 < 7; omega), OwnC.other (OwnC.other (OwnC.other (OwnC.other (OwnC.other (OwnC.other (OwnC.other (HE4.out.keep HG5.out) ⟨w4.heap.size, 0, none⟩ (.int .i64 q1) (by show w4.heap.size ≠ E; omega)) ⟨w4.heap.size, 1, none⟩ (.int .i64 q2) (by show w4.heap.size ≠ E; omega)) ⟨w4.heap.size, 2, none⟩ (.int .i64 q3) (by show w4.heap.size ≠ E; omega)) ⟨w4.heap.size, 3, none⟩ (.int .i64 q4) (by show w4.heap.size ≠ E; omega)) ⟨w4.heap.size, 4, none⟩ (.int .i64 q5) (by show w4.heap.size ≠ E; omega)) ⟨w4.heap.size, 5, none⟩ (.int .i64 q6) (by show w4.heap.size ≠ E; omega)) ⟨w4.heap.size, 6, none⟩ (.bool q7) (by show w4.heap.size ≠ E; omega), OwnC.other (OwnC.other (OwnC.other (OwnC.other (OwnC.other (OwnC.other (OwnC.other (HZ4.out.keep HG5.out) ⟨w4.heap.size, 0, none⟩ (.int .i64 q1) (by show w4.heap.size ≠ w.heap.size + 1; omega)) ⟨w4.heap.size, 1, none⟩ (.int .i64 q2) (by show w4.heap.size ≠ w.heap.size + 1; omega)) ⟨w4.heap.size, 2, none⟩ (.int .i64 q3) (by show w4.heap.size ≠ w.heap.size + 1; omega)) ⟨w4.heap.size, 3, none⟩ (.int .i64 q4) (by show w4.heap.size ≠ w.heap.size + 1; omega)) ⟨w4.heap.size, 4, none⟩ (.int .i64 q5) (by show w4.heap.size ≠ w.heap.size + 1; omega)) ⟨w4.heap.size, 5, none⟩ (.int .i64 q6) (by show w4.heap.size ≠ w.heap.size + 1; omega)) ⟨w4.heap.size, 6, none⟩ (.bool q7) (by show w4.heap.size ≠ w.heap.size + 1; omega), OwnB.setO (OwnB.setO (OwnB.setO (OwnB.setO (OwnB.setO (OwnB.setO (OwnB.setO (HB4.out.keep HG5.out) hbt hbp w4.heap.size 0 (.int .i64 q1) rfl) hbt hbp w4.heap.size 1 (.int .i64 q2) rfl) hbt hbp w4.heap.size 2 (.int .i64 q3) rfl) hbt hbp w4.heap.size 3 (.int .i64 q4) rfl) hbt hbp w4.heap.size 4 (.int .i64 q5) rfl) hbt hbp w4.heap.size 5 (.int .i64 q6) rfl) hbt hbp w4.heap.size 6 (.bool q7) rfl, grew_set (grew_set (grew_set (grew_set (grew_set (grew_set (grew_set (grew_trans HG4.out HG5.out) (p := ⟨w4.heap.size, 0, none⟩) (.int .i64 q1) (by show w.heap.size ≤ w4.heap.size; omega)) (p := ⟨w4.heap.size, 1, none⟩) (.int .i64 q2) (by show w.heap.size ≤ w4.heap.size; omega)) (p := ⟨w4.heap.size, 2, none⟩) (.int .i64 q3) (by show w.heap.size ≤ w4.heap.size; omega)) (p := ⟨w4.heap.size, 3, none⟩) (.int .i64 q4) (by show w.heap.size ≤ w4.heap.size; omega)) (p := ⟨w4.heap.size, 4, none⟩) (.int .i64 q5) (by show w.heap.size ≤ w4.heap.size; omega)) (p := ⟨w4.heap.size, 5, none⟩) (.int .i64 q6) (by show w.heap.size ≤ w4.heap.size; omega)) (p := ⟨w4.heap.size, 6, none⟩) (.bool q7) (by show w.heap.size ≤ w4.heap.size; omega), by omega⟩; generalize (((((((w5).setCell ⟨w4.heap.size, 0, none⟩ (.int .i64 q1)).setCell ⟨w4.heap.size, 1, none⟩ (.int .i64 q2)).setCell ⟨w4.heap.size, 2, none⟩ (.int .i64 q3)).setCell ⟨w4.heap.size, 3, none⟩ (.int .i64 q4)).setCell ⟨w4.heap.size, 4, none⟩ (.int .i64 q5)).setCell ⟨w4.heap.size, 5, none⟩ (.int .i64 q6)).setCell ⟨w4.heap.size, 6, none⟩ (.bool q7) = wT at *; generalize hT : w4.heap.size = T at *)
        | (have HA : Hid (OwnC (w5.alloc (.cells #[.int .i64 q1, .int .i64 q2, .int .i64 q3, .int .i64 q4, .int .i64 q5, .int .i64 q6, .bool q7] 49)) (w5.heap.size) [.int .i64 q1, .int .i64 q2, .int .i64 q3, .int .i64 q4, .int .i64 q5, .int .i64 q6, .bool q7] ∧ OwnC (w5.alloc (.cells #[.int .i64 q1, .int .i64 q2, .int .i64 q3, .int .i64 q4, .int .i64 q5, .int .i64 q6, .bool q7] 49)) E [.int .i64 cx, .slice A' lc.length c', .slice A'' pc.length c''] ∧ OwnC (w5.alloc (.cells #[.int .i64 q1, .int .i64 q2, .int .i64 q3, .int .i64 q4, .int .i64 q5, .int .i64 q6, .bool q7] 49)) (w.heap.size + 1) [.int .i64 0, .slice none 0 0, .slice none 0 0] ∧ OwnB (w5.alloc (.cells #[.int .i64 q1, .int .i64 q2, .int .i64 q3, .int .i64 q4, .int .i64 q5, .int .i64 q6, .bool q7] 49)) w0.heap.size (cx, lc, pc) A' A'' c' c'' ∧ Grew w (w5.alloc (.cells #[.int .i64 q1, .int .i64 q2, .int .i64 q3, .int .i64 q4, .int .i64 q5, .int .i64 q6, .bool q7] 49)) ∧ E < w5.heap.size) := ⟨OwnC.new w5 [.int .i64 q1, .int .i64 q2, .int .i64 q3, .int .i64 q4, .int .i64 q5, .int .i64 q6, .bool q7] _ _ rfl, (HE4.out.keep HG5.out).keep (grew_alloc _ _ _), (HZ4.out.keep HG5.out).keep (grew_alloc _ _ _), (HB4.out.keep HG5.out).keep (grew_alloc _ _ _), grew_trans HG4.out (grew_trans HG5.out (grew_alloc _ _ _)), by omega⟩; generalize w5.alloc (.cells #[.int .i64 q1, .int .i64 q2, .int .i64 q3, .int .i64 q4, .int .i64 q5, .int .i64 q6, .bool q7] 49) = wT at *; generalize hT : w5.heap.size = T at *)
      clear HS HSO HS5 HS5a HS2a HKEEP
      obtain ⟨a1, a2, a3, a4, a5, a6⟩ := HA.out
      have t4 : wT.cell? ⟨T, 4, none⟩ = some (.int .i64 q5) := a1.at 4 _ rfl
      have t5 : wT.cell? ⟨T, 5, none⟩ = some (.int .i64 q6) := a1.at 5 _ rfl
      have u4 : wT.frozen? ⟨T, 4, none⟩ = false := a1.fr 4 (by show 4 < 7; omega)
      have u5 : wT.frozen? ⟨T, 5, none⟩ = false := a1.fr 5 (by show 5 < 7; omega)
      have hzt : w.heap.size + 1 < E := by omega
      have HT : Hid (OwnC ((wT.setCell ⟨T, 4, none⟩ (.int .i64 qq)).setCell ⟨T, 5, none⟩ (.int .i64 pp)) T [.int .i64 q1, .int .i64 q2, .int .i64 q3, .int .i64 q4, .int .i64 qq, .int .i64 pp, .bool q7]) := (a1.set 4 (.int .i64 qq) (by show 4 < 7; omega)).set 5 (.int .i64 pp) (by show 5 < 7; omega)
      have HE : Hid (OwnC ((wT.setCell ⟨T, 4, none⟩ (.int .i64 qq)).setCell ⟨T, 5, none⟩ (.int .i64 pp)) E [.int .i64 cx, .slice A' lc.length c', .slice A'' pc.length c'']) := (a2.other ⟨T, 4, none⟩ _ (by show T ≠ E; omega)).other ⟨T, 5, none⟩ _ (by show T ≠ E; omega)
      have HZ : Hid (OwnC ((wT.setCell ⟨T, 4, none⟩ (.int .i64 qq)).setCell ⟨T, 5, none⟩ (.int .i64 pp)) (w.heap.size + 1) [.int .i64 0, .slice none 0 0, .slice none 0 0]) := (a3.other ⟨T, 4, none⟩ _ (by show T ≠ w.heap.size + 1; omega)).other ⟨T, 5, none⟩ _ (by show T ≠ w.heap.size + 1; omega)
      have hbt : ∀ x, A' = some x → x.block ≠ T := fun x hx => by have := (HB4.out.t.block x hx).2; omega
      have hbp : ∀ x, A'' = some x → x.block ≠ T := fun x hx => by have := (HB4.out.p.block x hx).2; omega
      have HB : Hid (OwnB ((wT.setCell ⟨T, 4, none⟩ (.int .i64 qq)).setCell ⟨T, 5, none⟩ (.int .i64 pp)) w0.heap.size (cx, lc, pc) A' A'' c' c'') := (a4.setO hbt hbp T 4 _ rfl).setO hbt hbp T 5 _ rfl
      have HG : Hid (Grew w ((wT.setCell ⟨T, 4, none⟩ (.int .i64 qq)).setCell ⟨T, 5, none⟩ (.int .i64 pp))) := grew_set (grew_set a5 _ (by show _ ≤ T; omega)) _ (by show _ ≤ T; omega)
      clear a1 a2 a3 a4 a5 a6 HA HX4 HZ4 HE4 HG5 HR5
      apply_assumption
      go_upto_region 6 with fail
      clear t4 t5 u4 u5
      generalize (wT.setCell ⟨T, 4, none⟩ (.int .i64 qq)).setCell ⟨T, 5, none⟩ (.int .i64 pp) = wQ at *
      have e0 : wQ.cell? ⟨E, 0, none⟩ = some (.int .i64 cx) := HE.out.at 0 _ rfl
      have e1 : wQ.cell? ⟨E, 1, none⟩ = some (.slice A' lc.length c') := HE.out.at 1 _ rfl
      have e2 : wQ.cell? ⟨E, 2, none⟩ = some (.slice A'' pc.length c'') := HE.out.at 2 _ rfl
      have t0 : wQ.cell? ⟨T, 0, none⟩ = some (.int .i64 q1) := HT.out.at 0 _ rfl
      have t1 : wQ.cell? ⟨T, 1, none⟩ = some (.int .i64 q2) := HT.out.at 1 _ rfl
      have t2 : wQ.cell? ⟨T, 2, none⟩ = some (.int .i64 q3) := HT.out.at 2 _ rfl
      have t3 : wQ.cell? ⟨T, 3, none⟩ = some (.int .i64 q4) := HT.out.at 3 _ rfl
      have t4 : wQ.cell? ⟨T, 4, none⟩ = some (.int .i64 qq) := HT.out.at 4 _ rfl
      have t5 : wQ.cell? ⟨T, 5, none⟩ = some (.int .i64 pp) := HT.out.at 5 _ rfl
      have t6 : wQ.cell? ⟨T, 6, none⟩ = some (.bool q7) := HT.out.at 6 _ rfl
      go_wp2_with (go_at_call 25; ((with_reducible refine (CE _ _ _ _ _ HB.out.in).mono ?_); rintro e w8 ⟨B1, B2, d1, d2, rfl, hb, hg⟩; have HB8 := Lib.hid (hb.mono HG.out.size); have hbs : w.heap.size + 2 ≤ wQ.heap.size := (by have h9 := HZ.out.lt; have h8 := HE.out.lt; omega); have HB9 := Lib.hid (hb.mono hbs); have HG8 := Lib.hid (grew_trans HG.out hg); have HZ8 := Lib.hid (HZ.out.keep hg); have y0 : w8.cell? ⟨w.heap.size + 1, 0, none⟩ = some (.int .i64 0) := HZ8.out.at 0 _ rfl; have f0 : w8.frozen? ⟨w.heap.size + 1, 0, none⟩ = false := HZ8.out.fr 0 (by decide); have y1 : w8.cell? ⟨w.heap.size + 1, 1, none⟩ = some (.slice none 0 0) := HZ8.out.at 1 _ rfl; have f1 : w8.frozen? ⟨w.heap.size + 1, 1, none⟩ = false := HZ8.out.fr 1 (by decide); have y2 : w8.cell? ⟨w.heap.size + 1, 2, none⟩ = some (.slice none 0 0) := HZ8.out.at 2 _ rfl; have f2 : w8.frozen? ⟨w.heap.size + 1, 2, none⟩ = false := HZ8.out.fr 2 (by decide); clear hb hg CE))
      have HP := HZ8.out.all [.int .i64 ex, .slice B1 el.length d1, .slice B2 ep.length d2] rfl
      have HGP := grew_put (w := w) (w.heap.size + 1) (by omega) [.int .i64 ex, .slice B1 el.length d1, .slice B2 ep.length d2] 0 _ HG8.out
      have HBP := HB9.out.put (b2 := w.heap.size + 1) (by omega) [.int .i64 ex, .slice B1 el.length d1, .slice B2 ep.length d2]
      change bodyPost _ _ _ _ _ (putC w8 (w.heap.size + 1) 0 [.int .i64 ex, .slice B1 el.length d1, .slice B2 ep.length d2])
      clear y0 y1 y2 f0 f1 f2
      generalize putC w8 (w.heap.size + 1) 0 [.int .i64 ex, .slice B1 el.length d1, .slice B2 ep.length d2] = w9 at *
      have z0 : w9.cell? ⟨w.heap.size + 1, 0, none⟩ = _ := HP.at 0 _ rfl
      have z1 : w9.cell? ⟨w.heap.size + 1, 1, none⟩ = _ := HP.at 1 _ rfl
      have z2 : w9.cell? ⟨w.heap.size + 1, 2, none⟩ = _ := HP.at 2 _ rfl
      refine bodyPost_ret (v := .tuple #[.agg #[.int .i64 ex, .slice B1 el.length d1, .slice B2 ep.length d2], .int .i64 en, .int .i64 ee]) (by simp [results, Try.results28, go_sem, z0, z1, z2]) rfl ?_
      exact HYES.out _ _ _ _ _ (HBP.mono (by omega)) HGP
  · have HF := Lib.hid (corr_no he (q := qq) (p := pp) (w := w))
    rw [cancelE_no he] at CC
    clear h
    generalize BookN (corrB b no qq pp) (corrN b no qq pp) (corrE b no qq pp) w = PP at *
    generalize hae : cancelE b no = ae at *
    have d5 : (ae != 0) = true := by simpa using he
    clear hae he
    dsimp only [vBk] at *
    generalize b.1 = nx at *
    have HX0 : Hid (OwnC ((w.alloc (.cells #[.int .i64 nx, .slice A1 n1 c1, .slice A2 n2 c2] 25)).alloc (.cells #[.int .i64 0, .slice none 0 0, .slice none 0 0] 25)) w.heap.size [.int .i64 nx, .slice A1 n1 c1, .slice A2 n2 c2]) := (OwnC.new w [.int .i64 nx, .slice A1 n1 c1, .slice A2 n2 c2] _ _ rfl).keep (grew_alloc _ _ _)
    have HZ0 : Hid (OwnC ((w.alloc (.cells #[.int .i64 nx, .slice A1 n1 c1, .slice A2 n2 c2] 25)).alloc (.cells #[.int .i64 0, .slice none 0 0, .slice none 0 0] 25)) (w.heap.size + 1) [.int .i64 0, .slice none 0 0, .slice none 0 0]) := OwnC.new _ [.int .i64 0, .slice none 0 0, .slice none 0 0] _ _ (by simp)
    have HG0 : Hid (Grew w ((w.alloc (.cells #[.int .i64 nx, .slice A1 n1 c1, .slice A2 n2 c2] 25)).alloc (.cells #[.int .i64 0, .slice none 0 0, .slice none 0 0] 25))) := grew_trans (grew_alloc _ _ _) (grew_alloc _ _ _)
    go_enter Try.func28, Try.ntmps28
    go_upto_region 1 with fail
    generalize (w.alloc (.cells #[.int .i64 nx, .slice A1 n1 c1, .slice A2 n2 c2] 25)).alloc (.cells #[.int .i64 0, .slice none 0 0, .slice none 0 0] 25) = w0 at *
    have x0 : w0.cell? ⟨w.heap.size, 0, none⟩ = some (.int .i64 nx) := HX0.out.at 0 _ rfl
    have x1 : w0.cell? ⟨w.heap.size, 1, none⟩ = some (.slice A1 n1 c1) := HX0.out.at 1 _ rfl
    have x2 : w0.cell? ⟨w.heap.size, 2, none⟩ = some (.slice A2 n2 c2) := HX0.out.at 2 _ rfl
    go_upto_region 2 with (go_at_call 26; ((with_reducible refine (CC _ HG0.out).mono ?_); rintro e w3 ⟨A', A'', c', c'', rfl, hb, hg⟩; have HB3 := Lib.hid hb; have HG3 := Lib.hid (grew_trans HG0.out hg); have HX3 := Lib.hid (HX0.out.keep hg); have HZ3 := Lib.hid (HZ0.out.keep hg); have hs3 : w.heap.size + 2 ≤ w3.heap.size := (by have h9 := HZ3.out.lt; omega); clear hb hg CC x0 x1 x2))
    have HZ4 := Lib.hid (HZ3.out.keep (grew_alloc w3 #[.int .i64 0, .slice A' 0 c', .slice A'' 0 c''] 25))
    have HG4 := Lib.hid (grew_trans HG3.out (grew_alloc w3 #[.int .i64 0, .slice A' 0 c', .slice A'' 0 c''] 25))
    generalize w3.alloc (.cells #[.int .i64 0, .slice A' 0 c', .slice A'' 0 c''] 25) = w4 at *
    have y0 : w4.cell? ⟨w.heap.size + 1, 0, none⟩ = some (.int .i64 0) := HZ4.out.at 0 _ rfl
    have f0 : w4.frozen? ⟨w.heap.size + 1, 0, none⟩ = false := HZ4.out.fr 0 (by decide)
    have y1 : w4.cell? ⟨w.heap.size + 1, 1, none⟩ = some (.slice none 0 0) := HZ4.out.at 1 _ rfl
    have f1 : w4.frozen? ⟨w.heap.size + 1, 1, none⟩ = false := HZ4.out.fr 1 (by decide)
    have y2 : w4.cell? ⟨w.heap.size + 1, 2, none⟩ = some (.slice none 0 0) := HZ4.out.at 2 _ rfl
    have f2 : w4.frozen? ⟨w.heap.size + 1, 2, none⟩ = false := HZ4.out.fr 2 (by decide)
    go_wp2
    have HP := HZ4.out.all [.int .i64 0, .slice none 0 0, .slice none 0 0] rfl
    have HGP := grew_put (w := w) (w.heap.size + 1) (by omega) [.int .i64 0, .slice none 0 0, .slice none 0 0] 0 _ HG4.out
    change bodyPost _ _ _ _ _ (putC w4 (w.heap.size + 1) 0 [.int .i64 0, .slice none 0 0, .slice none 0 0])
    clear y0 y1 y2 f0 f1 f2
    generalize putC w4 (w.heap.size + 1) 0 [.int .i64 0, .slice none 0 0, .slice none 0 0] = w9 at *
    have z0 : w9.cell? ⟨w.heap.size + 1, 0, none⟩ = _ := HP.at 0 _ rfl
    have z1 : w9.cell? ⟨w.heap.size + 1, 1, none⟩ = _ := HP.at 1 _ rfl
    have z2 : w9.cell? ⟨w.heap.size + 1, 2, none⟩ = _ := HP.at 2 _ rfl
    refine bodyPost_ret (v := .tuple #[.agg #[.int .i64 0, .slice none 0 0, .slice none 0 0], .int .i64 0, .int .i64 ae]) (by simp [results, Try.results28, go_sem, z0, z1, z2]) rfl ?_
    exact HF.out _ HGP
end Go.Proofs.Ytkbmiajgmnfpfaa.NumK
