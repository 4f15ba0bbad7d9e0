/-
  Behind the first 40 of whatever postings: two postings of at most 30 legs each, that may be one behind the other, lead to the same balances as both at once (P10.2); more than 200 postings, or legs of one, and a last number of 2^39 or more, the statement lets by.
-/
import Derived.Test.YtafglljfgoeapaaRS
import Derived.Deep.AppendLies
import Derived.Test.YtafglljfgoeapaaRows
import Derived.WalkKit
import Derived.ProofKit
import Derived.OpenShut
import Derived.ShutString
import Derived.ChangeOld
import Derived.Below
import Derived.Carry
namespace Go.Proofs.Ytafglljfgoeapaa.NumK
open Go.RowKit
set_option linter.unusedVariables false

theorem step_append_E2 {α : Type} {E : En α} {ops : Array Oper} {o : Oper} {a : Act} {w : World} {K : Act → World → Prop} {Q : Exit → Act → World → Prop} {X : Prop} (hgd : o.guard = none) (s x : Operand) (T t : TypeId) (z : Value) (by' : Nat)
    (ho : o.op = .call { callee := .builtin .append, args := #[s, x], argTypes := #[T, T] })
    (hT : Try.prog.underlying T = some (.slice t)) (hi : (Try.prog.info? t).map (fun i => (i.zero, i.size, i.bytes)) = some (some z, E.size, by')) (hz : z.cells.size = E.size)
    (base : Nat) (v : Value) (l : List α) (hs : a.eval s = v) (hown : OwnE E w base t v l)
    (A : Option Addr) (m c : Nat) (zs : List α) (hx : a.eval x = .slice A m c) (hA : A = none → c = 0) (hR : RowE E w A m zs)
    (hm : l.length + m ≤ maxLen) (hlim : (l.length + m) * by' ≤ 140737488355328) (hbase : base ≤ w.heap.size)
    (h : ∀ v' w', OwnE E w' base t v' (l ++ zs) → Below base w w' → w.grownBy w' v.ownBlock → K (a.put o.dst v') w') : if Region.wanted o (yielded ops a.tmps) = true then Oper.wp Try.prog o a w K Q else X := by
  have hw : Region.wanted o (yielded ops a.tmps) = true := by simp [Region.wanted, hgd]
  rw [if_pos hw]
  obtain ⟨i, hi, hz0, hz1, hz2⟩ := info_parts hi
  have hl := hR.len
  cases A with
  | none =>
    have hc := hA rfl
    subst hc
    have hm0 : m = 0 := by
      rcases Nat.eq_zero_or_pos m with h0 | h0
      · exact h0
      · obtain ⟨b, o, he, _⟩ := hR.2 h0
        cases he
    subst hm0
    have hz : zs = [] := List.eq_nil_of_length_eq_zero hl
    subst hz
    have hrun := run_append_owned_none (P := Try.prog) (w := w) base T o.type t i E.size hT hi v l.length _ hown
    unfold Oper.wp
    simp [execOp, ho, resolve, invoke, builtin, hs, hx, hrun, Result.andThen]
    exact h v w (by simpa using hown) (Below.refl _ _) (World.grownBy.refl _ _)
  | some ad =>
    refine wp_append_own w s x T ho base t i z E.size by' hT hi hz0 hz1 hz2 hz E.pos v l.length _ hs hown ad m c (zs.flatMap E.cs) hx (by rw [E.flat_len, hl]) (fun j u hu => ?_) (fun u hu => ?_) hm hlim hbase (fun v' w' ho' hg _ => ?_)
    · have hj : j < zs.length * E.size := by
        rw [← E.flat_len]
        rcases Nat.lt_or_ge j (zs.flatMap E.cs).length with h1 | h1
        · exact h1
        · rw [List.getElem?_eq_none h1] at hu; cases hu
      have hq : j / E.size < zs.length := Nat.div_lt_of_lt_mul (by rw [Nat.mul_comm]; exact hj)
      have hdm : j / E.size * E.size + j % E.size = j := by rw [Nat.mul_comm]; exact Nat.div_add_mod j E.size
      have hmod : j % E.size < E.size := Nat.mod_lt _ E.pos
      obtain ⟨b, o2, he, hb, hc⟩ := hR.at (by rw [← hl]; exact Nat.lt_of_le_of_lt (Nat.zero_le _) hq)
      cases he
      have e1 := hc (j / E.size) hq (j % E.size) hmod
      rw [← E.flat_at zs _ hq _ hmod, hdm, hu] at e1
      rw [addr_add, ← e1, Nat.add_assoc, hdm]
    · obtain ⟨y, _, hy⟩ := List.mem_flatMap.1 hu
      exact E.one y u hy
    · refine h v' w' ?_ ((Below.refl base w).grown hg hbase fun k hk => (hown.lt k hk).1) hg
      show w'.ownsRow base t E.size v' (l ++ zs).length ((l ++ zs).flatMap E.cs)
      rw [List.length_append, hl, List.flatMap_append]
      exact ho'
theorem Own2.grown {w w' : World} {row : Option Nat} {b : Nat} {v0 v1 : Value} (h : Own2 w b v0 v1) (g : w.grownBy w' row) (hne : some b ≠ row) : Own2 w' b v0 v1 :=
  ⟨g.cell h.c0 hne, g.cell h.c1 hne, (g.frozen_far ⟨b, 0, none⟩ h.lt hne).trans h.f0, (g.frozen_far ⟨b, 1, none⟩ h.lt hne).trans h.f1, Nat.lt_of_lt_of_le h.lt g.size⟩
theorem own_row' {w : World} {base n c : Nat} {A : Option Addr} {l : List Lg} {t : TypeId} (h : OwnE enLg w base t (.slice A n c) l) : RowE enLg w A n l ∧ (A = none → c = 0) := by
  obtain ⟨A', c', e, hr, hn, _⟩ := h.form
  cases e; exact ⟨hr, hn⟩

set_option maxRecDepth 100000 in
set_option maxHeartbeats 8000000 in
theorem ledgerParts_walk (A B D : Option Addr) (n c bn bc dn dc : Nat) (l : List Ld) (la lb : List Lg) (w : World) (h : Posts w A n l) (h2 : RowE enLg w B bn la) (hB : B = none → bc = 0) (hbn : bn ≤ 9223372036854775807) (h3 : RowE enLg w D dn lb) (hD : D = none → dc = 0) (hdn : dn ≤ 9223372036854775807) :
    Calls Try.prog 8 #[.slice A n c, .slice B bn bc, .slice D dn dc] w fun e w' => e = .returned (.bool true) ∧ Grew w w' := by
  have HA := Lib.hid h
  have HI := Lib.hid h2
  have HJ := Lib.hid h3
  have WK := fun w => wakes10_any w
  by_cases hf : Few n l
  · have CH := heavy_few (c := c) h hf
    have CG := grown_any A n c l w h hf
    have HLA := Lib.hid h2.len
    have HLB := Lib.hid h3.len
    by_cases z1 : (30 : Int) < (bn : Int)
    · clear h hf h2 h3 hB hD CG
      go_enter Try.func8, Try.ntmps8
      go_wp2_with (go_at_call 22; ((with_reducible refine CH.mono ?_); rintro e w1 ⟨rfl, rfl⟩; clear CH))
      go_ret
      exact ⟨rfl, grew_refl _⟩
    by_cases z2 : (30 : Int) < (dn : Int)
    · clear h hf h2 h3 hB hD CG
      go_enter Try.func8, Try.ntmps8
      go_wp2_with (go_at_call 22; ((with_reducible refine CH.mono ?_); rintro e w1 ⟨rfl, rfl⟩; clear CH))
      go_ret
      exact ⟨rfl, grew_refl _⟩
    have HBN := Lib.hid hB
    have HDN := Lib.hid hD
    have hbn2 : bn ≤ 30 := by omega
    have hdn2 : dn ≤ 30 := by omega
    clear h h2 h3 hB hD hf hbn hdn
    go_enter Try.func8, Try.ntmps8
    go_upto_region 4 with (first
      | (go_at_call 22; ((with_reducible refine CH.mono ?_); rintro e w1 ⟨rfl, rfl⟩; clear CH))
      | (go_at_call 23; ((with_reducible refine CG.mono ?_); rintro e w1 ⟨last, bl, A1, c1, q, rfl, hl, hg⟩; have HL := Lib.hid hl; have HG1 := Lib.hid hg; unfold ldV; clear hl hg CG)))
    have HGW : Hid (Grew w (w1.alloc (.cells #[.int .i64 last, .slice A1 bl.length c1] 24))) := grew_trans HG1.out (grew_alloc _ _ _)
    have HC : Hid (∀ w', Grew (w1.alloc (.cells #[.int .i64 last, .slice A1 bl.length c1] 24)) w' → w'.cell? ⟨w1.heap.size, 0, none⟩ = some (.int .i64 last) ∧ w'.cell? ⟨w1.heap.size, 1, none⟩ = some (.slice A1 bl.length c1) ∧ w1.heap.size < w'.heap.size) := fun w' g => ⟨own_cell g 0, own_cell g 1, own_lt g⟩
    have HLk : Hid (∀ w', Grew (w1.alloc (.cells #[.int .i64 last, .slice A1 bl.length c1] 24)) w' → Led w' 0 last bl A1 c1) := fun w' g => (HL.out.keep (own_back g)).mono (Nat.zero_le _)
    generalize w1.alloc (.cells #[.int .i64 last, .slice A1 bl.length c1] 24) = w2 at *
    obtain ⟨s0, s1, hz1⟩ := HC.out w2 (grew_refl _)
    by_cases h39 : 549755813888 ≤ last
    · go_wp2_with (go_at_call 21; ((with_reducible refine (WK _).mono ?_); rintro e w9 ⟨rfl, hg⟩; have HG9 := Lib.hid (grew_trans HGW.out hg); clear hg))
      go_ret
      exact ⟨rfl, HG9.out⟩
    have hl0 : 0 ≤ last := (ledger_parts HL.out.ok).1
    have CP := fun w' (g : Grew w2 w') => led_post (HLk.out w2 (grew_refl _)) g (last + 1) B bn bc la (HI.out.keep (grew_trans HGW.out g)) HBN.out (by omega)
    by_cases h0 : postE last bl (last + 1) la = 0
    · have CPy := fun w' g => (CP w' g).mono fun e w'' h => postR_yes h0 h
      clear CP
      unfold ldV at CPy
      have HPB : Hid (postE (last + 1) (postL last bl (last + 1) la) (last + 2) lb = 0 → postE last bl (last + 2) (la ++ lb) = 0 ∧ postL last bl (last + 2) (la ++ lb) = postL (last + 1) (postL last bl (last + 1) la) (last + 2) lb) := fun h1 => parts_both (by omega) (by rw [HLA.out]; exact hbn2) (by rw [HLB.out]; exact hdn2) h0 h1
      generalize postL last bl (last + 1) la = tl at *
      clear h0
      go_upto_region 7 with (go_at_call 15; ((with_reducible refine (CPy _ (grew_refl _)).mono ?_); rintro e w3 ⟨A2, c2, rfl, hl, hg⟩; have HT := Lib.hid hl; have HG3 := Lib.hid hg; clear hl hg CPy))
      have CQ := fun w' (g : Grew (w3.alloc (.cells #[.int .i64 (last + 1), .slice A2 tl.length c2] 24)) w') => led_post HT.out (grew_trans (grew_alloc _ _ _) g) (last + 2) D dn dc lb (HJ.out.keep (grew_trans HGW.out (grew_trans HG3.out (grew_trans (grew_alloc _ _ _) g)))) HDN.out (by omega)
      have hz3 : w1.heap.size < w3.heap.size := (HC.out w3 HG3.out).2.2
      have HG4 : Hid (Grew w2 (w3.alloc (.cells #[.int .i64 (last + 1), .slice A2 tl.length c2] 24))) := grew_trans HG3.out (grew_alloc _ _ _)
      obtain ⟨s0', s1', hz1'⟩ := HC.out _ HG4.out
      have v0 : (w3.alloc (.cells #[.int .i64 (last + 1), .slice A2 tl.length c2] 24)).cell? ⟨w3.heap.size, 0, none⟩ = some (.int .i64 (last + 1)) := own_cell (grew_refl _) 0
      have v1 : (w3.alloc (.cells #[.int .i64 (last + 1), .slice A2 tl.length c2] 24)).cell? ⟨w3.heap.size, 1, none⟩ = some (.slice A2 tl.length c2) := own_cell (grew_refl _) 1
      clear s0 s1 hz1 hz3
      generalize w3.alloc (.cells #[.int .i64 (last + 1), .slice A2 tl.length c2] 24) = w4 at *
      have i3 : last + 1 + 1 = last + 2 := by omega
      have i4 : IntKind.i64.wrap (last + 1 + 1) = last + 2 := by rw [IntKind.wrap_i64]; omega
      by_cases h1 : postE (last + 1) tl (last + 2) lb = 0
      · obtain ⟨pb1, pb2⟩ := HPB.out h1
        have CQy := fun w' g => (CQ w' g).mono fun e w'' h => postR_yes h1 h
        clear CQ HPB
        unfold ldV at CQy
        have HPB1 := Lib.hid pb1
        have HPB2 := Lib.hid pb2
        generalize postL (last + 1) tl (last + 2) lb = zl at *
        clear pb1 pb2 h1
        go_upto_region 10 with (go_at_call 15; ((with_reducible refine (CQy _ (grew_refl _)).mono ?_); rintro e w5 ⟨A3, c3, rfl, hl, hg⟩; have HU := Lib.hid hl; have HG5 := Lib.hid hg; clear hl hg CQy))
        have HCt : Hid (∀ w', Grew (w5.alloc (.cells #[.int .i64 (last + 2), .slice A3 zl.length c3] 24)) w' → Grew w2 w' ∧ w'.cell? ⟨w5.heap.size, 0, none⟩ = some (.int .i64 (last + 2)) ∧ w'.cell? ⟨w5.heap.size, 1, none⟩ = some (.slice A3 zl.length c3) ∧ RowE enLg w' A3 zl.length zl ∧ w5.heap.size < w'.heap.size) := fun w' g =>
          ⟨grew_trans HG4.out (grew_trans HG5.out (own_back g)), own_cell g 0, own_cell g 1, HU.out.row.keep (own_back g), own_lt g⟩
        have HUL := Lib.hid HU.out.len
        clear s0' s1' hz1' v0 v1 HU
        generalize w5.alloc (.cells #[.int .i64 (last + 2), .slice A3 zl.length c3] 24) = wt at *
        have HS : Hid (∀ w', Grew wt w' → w'.cell? ⟨w1.heap.size, 0, none⟩ = some (.int .i64 last) ∧ w'.cell? ⟨w1.heap.size, 1, none⟩ = some (.slice A1 bl.length c1)) := fun w' g => ⟨(HC.out w' (HCt.out w' g).1).1, (HC.out w' (HCt.out w' g).1).2.1⟩
        have CTw := fun w' (g : Grew wt w') => twin_form B bn bc la w' (HI.out.keep (grew_trans HGW.out (HCt.out w' g).1)) HBN.out (by omega)
        have CP2 := fun (w' : World) (g : Grew wt w') B' d' (hr : RowE enLg w' B' (bn + dn) (la ++ lb)) (hn : B' = none → d' = 0) => (led_post (HLk.out w' (HCt.out w' g).1) (grew_refl _) (last + 2) B' (bn + dn) d' (la ++ lb) hr hn (by omega)).mono fun e w'' h => postR_yes HPB1.out h
        rw [HPB2.out] at CP2
        unfold ldV at CP2
        have HJk : Hid (∀ w', Grew wt w' → RowE enLg w' D dn lb) := fun w' g => HJ.out.keep (grew_trans HGW.out (HCt.out w' g).1)
        have i2 : IntKind.i64.wrap (last + 2) = last + 2 := by rw [IntKind.wrap_i64]; omega
        refine wp_region_held_drew (S := (fun w' => w'.cell? ⟨w1.heap.size, 0, none⟩ = some (.int .i64 last) ∧ w'.cell? ⟨w1.heap.size, 1, none⟩ = some (.slice A1 bl.length c1))) (by kernel_rfl) (HS.out _ (grew_drew (grew_refl _))) (fun hHeld => ?_)
        (refine wpAnyH_take (i := 0) (oi := { dst := some 61, op := Op.load 24 (Operand.tmp 7), type := 24, pos := "more.go:24", after := #[], guard := none }) (v := ?_) rfl (by kernel_rfl) (by kernel_rfl) (by kernel_rfl) (fun _ _ _ h => h) (Or.inl ⟨by rfl, ?_⟩) (by assumption) ?_; rotate_left; · (intro w hSw; (try dsimp only at hSw); go_simp; (first | done | with_reducible rfl)))
        try simp only [Act.put, List.setIfInBounds_toArray, List.set_cons_zero, List.set_cons_succ]
        (refine wpAnyH_take (i := 1) (oi := { dst := some 62, op := Op.fieldAddr 24 (Operand.tmp 7) 0, type := 0, pos := "more.go:24", after := #[], guard := none }) (v := ?_) rfl (by kernel_rfl) (by kernel_rfl) (by kernel_rfl) (fun _ _ _ h => h) (Or.inl ⟨by rfl, ?_⟩) (by assumption) ?_; rotate_left; · (intro w hSw; (try dsimp only at hSw); go_simp; (first | done | with_reducible rfl)))
        try simp only [Act.put, List.setIfInBounds_toArray, List.set_cons_zero, List.set_cons_succ]
        (refine wpAnyH_take (i := 2) (oi := { dst := some 63, op := Op.load 3 (Operand.tmp 62), type := 3, pos := "more.go:24", after := #[{ on := 1, ground := Ground.data }], guard := none }) (v := ?_) rfl (by kernel_rfl) (by kernel_rfl) (by kernel_rfl) (fun _ _ _ h => h) (Or.inl ⟨by rfl, ?_⟩) (by assumption) ?_; rotate_left; · (intro w hSw; (try dsimp only at hSw); go_simp; (first | done | with_reducible rfl)))
        try simp only [Act.put, List.setIfInBounds_toArray, List.set_cons_zero, List.set_cons_succ]
        (refine wpAnyH_take (i := 3) (oi := { dst := some 64, op := Op.binOp BinOp.add 3 (Operand.tmp 63) (Operand.const (Value.int IntKind.i64 2)) 3, type := 3, pos := "more.go:24", after := #[{ on := 2, ground := Ground.data }], guard := none }) (v := ?_) rfl (by kernel_rfl) (by kernel_rfl) (by kernel_rfl) (fun _ _ _ h => h) (Or.inl ⟨by rfl, ?_⟩) (by assumption) ?_; rotate_left; · (intro w hSw; (try dsimp only at hSw); go_simp; (first | done | with_reducible rfl)))
        try simp only [Act.put, List.setIfInBounds_toArray, List.set_cons_zero, List.set_cons_succ]
        (refine wpAnyH_take (i := 4) (oi := { dst := some 65, op := Op.move (Operand.tmp 1), type := 25, pos := "more.go:24", after := #[], guard := none }) (v := ?_) rfl (by kernel_rfl) (by kernel_rfl) (by kernel_rfl) (fun _ _ _ h => h) (Or.inl ⟨by rfl, ?_⟩) (by assumption) ?_; rotate_left; · (intro w hSw; (try dsimp only at hSw); go_simp; (first | done | with_reducible rfl)))
        try simp only [Act.put, List.setIfInBounds_toArray, List.set_cons_zero, List.set_cons_succ]
        (refine wpAnyH_take (i := 6) (oi := { dst := some 67, op := Op.move (Operand.tmp 2), type := 25, pos := "more.go:24", after := #[], guard := none }) (v := ?_) rfl (by kernel_rfl) (by kernel_rfl) (by kernel_rfl) (fun _ _ _ h => h) (Or.inl ⟨by rfl, ?_⟩) (by assumption) ?_; rotate_left; · (intro w hSw; (try dsimp only at hSw); go_simp; (first | done | with_reducible rfl)))
        try simp only [Act.put, List.setIfInBounds_toArray, List.set_cons_zero, List.set_cons_succ]
        refine wpAnyH_ready (rs := [5, 12]) (by kernel_rfl) (by simp) ?_
        refine (AllReadyH.cons (o := { dst := some 66, op := Op.call { callee := Callee.value (Operand.func 26), args := #[Operand.tmp 65], argTypes := #[25] }, type := 25, pos := "more.go:24", after := #[{ on := 4, ground := Ground.data }], guard := none }) rfl (fun K hK => ?_) (AllReadyH.cons (o := { dst := some 13, op := Op.alloc 24, type := 0, pos := "more.go:24", after := #[], guard := none }) rfl (fun K hK => ?_) AllReadyH.nil))
        · go_simp
          (go_at_call 26; (first | (with_reducible refine (CTw _ (grew_refl _)).mono ?_) | (with_reducible refine (CTw _ (grew_drew (grew_refl _))).mono ?_) | (with_reducible refine (CTw _ (grew_drew (grew_alloc _ _ _))).mono ?_) | (with_reducible refine (CTw _ (grew_alloc _ _ _)).mono ?_)); rintro e v1 ⟨B5, d5, rfl, hm5, hg5⟩)
          have HS1 : Hid (Grew wt v1) := (by first | exact hg5 | exact grew_trans (grew_drew (grew_refl _)) hg5 | exact grew_trans (grew_drew (grew_alloc _ _ _)) hg5 | exact grew_trans (grew_alloc _ _ _) hg5)
          have HGv1 : Hid (Grew wt v1) := HS1
          (try have HW0 : Hid (Own2 v1 wt.heap.size (.int .i64 0) (.slice none 0 0)) := (Own2.new wt (.int .i64 0) (.slice none 0 0) 24 _ rfl).keep (by first | exact hg5 | exact grew_trans (grew_drew (grew_refl _)) hg5))
          (try obtain ⟨t0, t1, t2, t3, t4⟩ := HW0.out)
          have hlt5 := World.ownsRow.lt hm5.own
          refine hK.out _ _ ?_ (fun hHeld => ?_)
          · first
            | exact HS.out _ HGv1.out
          clear hK K
          try simp only [Act.put, List.setIfInBounds_toArray, List.set_cons_zero, List.set_cons_succ]
          refine wpAnyH_ready (rs := [7, 12]) (by kernel_rfl) (by simp) ?_
          refine (AllReadyH.cons (o := { dst := some 68, op := Op.call { callee := Callee.builtin Builtin.append, args := #[Operand.tmp 66, Operand.tmp 67], argTypes := #[25, 25] }, type := 25, pos := "more.go:24", after := #[{ on := 5, ground := Ground.data }, { on := 6, ground := Ground.data }, { on := 5, ground := Ground.chain }], guard := none }) rfl (fun K hK => ?_) (AllReadyH.cons (o := { dst := some 13, op := Op.alloc 24, type := 0, pos := "more.go:24", after := #[], guard := none }) rfl (fun K hK => ?_) AllReadyH.nil))
          · have HB5 : Hid (_ ≤ v1.heap.size) := Below.size hg5
            (first | (refine step_append_E2 rfl _ _ 25 53 (legV 0 0 0 0) 32 rfl Try.underlying25 info_lg rfl _ _ la (by rfl) (hm5.own.keep (grew_refl _)) D dn dc lb (by rfl) HDN.out (HJk.out _ (grew_trans HGv1.out (grew_refl _))) (by have := HLA.out; unfold maxLen; omega) (by have := HLA.out; omega) (Nat.le_trans HB5.out (Below.size (grew_refl _))) ?_) | (refine step_append_E2 rfl _ _ 25 53 (legV 0 0 0 0) 32 rfl Try.underlying25 info_lg rfl _ _ la (by rfl) (hm5.own.keep (grew_drew (grew_refl _))) D dn dc lb (by rfl) HDN.out (HJk.out _ (grew_trans HGv1.out (grew_drew (grew_refl _)))) (by have := HLA.out; unfold maxLen; omega) (by have := HLA.out; omega) (Nat.le_trans HB5.out (Below.size (grew_drew (grew_refl _)))) ?_) | (refine step_append_E2 rfl _ _ 25 53 (legV 0 0 0 0) 32 rfl Try.underlying25 info_lg rfl _ _ la (by rfl) (hm5.own.keep (grew_drew (grew_alloc _ _ _))) D dn dc lb (by rfl) HDN.out (HJk.out _ (grew_trans HGv1.out (grew_drew (grew_alloc _ _ _)))) (by have := HLA.out; unfold maxLen; omega) (by have := HLA.out; omega) (Nat.le_trans HB5.out (Below.size (grew_drew (grew_alloc _ _ _)))) ?_) | (refine step_append_E2 rfl _ _ 25 53 (legV 0 0 0 0) 32 rfl Try.underlying25 info_lg rfl _ _ la (by rfl) (hm5.own.keep (grew_alloc _ _ _)) D dn dc lb (by rfl) HDN.out (HJk.out _ (grew_trans HGv1.out (grew_alloc _ _ _))) (by have := HLA.out; unfold maxLen; omega) (by have := HLA.out; omega) (Nat.le_trans HB5.out (Below.size (grew_alloc _ _ _))) ?_))
            intro v6 v2 hv hb6 hgr6
            obtain ⟨B6, d6, rfl, hr6, hn6, -⟩ := hv.form
            rw [List.length_append, HLA.out, HLB.out] at hr6 ⊢
            have HGv2 : Hid (Grew wt v2) := grew_below (by first | exact HGv1.out | exact grew_trans HGv1.out (grew_drew (grew_refl _)) | exact grew_trans HGv1.out (grew_drew (grew_alloc _ _ _)) | exact grew_trans HGv1.out (grew_alloc _ _ _)) hb6 (by first | exact Nat.le_refl _ | simp)
            (try have HW0 : Hid (Own2 v2 wt.heap.size (.int .i64 0) (.slice none 0 0)) := Own2.grown (HW0.out.keep (by first | exact grew_refl _ | exact grew_drew (grew_refl _))) hgr6 (fun e => absurd (hlt5 _ e.symm).1 (by simp)))
            (try have HW1 : Hid (Own2 v2 v1.heap.size (.int .i64 0) (.slice none 0 0)) := Own2.grown (by first | exact (Own2.new v1 (.int .i64 0) (.slice none 0 0) 24 _ rfl) | exact (Own2.new v1 (.int .i64 0) (.slice none 0 0) 24 _ rfl).keep (grew_drew (grew_refl _))) hgr6 (fun e => absurd (hlt5 _ e.symm).2 (Nat.lt_irrefl _)))
            (try obtain ⟨t0, t1, t2, t3, t4⟩ := HW0.out)
            (try obtain ⟨t0, t1, t2, t3, t4⟩ := HW1.out)
            (try have HL0 : Hid (wt.heap.size < v2.heap.size) := HW0.out.lt)
            (try have HL1 : Hid (v1.heap.size < v2.heap.size) := HW1.out.lt)
            refine hK.out _ _ ?_ (fun hHeld => ?_)
            · first
              | exact HS.out _ HGv2.out
            clear hK K
            try simp only [Act.put, List.setIfInBounds_toArray, List.set_cons_zero, List.set_cons_succ]
            refine wpAnyH_ready (rs := [8, 12]) (by kernel_rfl) (by simp) ?_
            refine (AllReadyH.cons (o := { dst := some 69, op := Op.call { callee := Callee.value (Operand.func 15), args := #[Operand.tmp 61, Operand.tmp 64, Operand.tmp 68], argTypes := #[24, 3, 25] }, type := 34, pos := "more.go:24", after := #[{ on := 0, ground := Ground.data }, { on := 3, ground := Ground.data }, { on := 7, ground := Ground.data }, { on := 7, ground := Ground.chain }], guard := none }) rfl (fun K hK => ?_) (AllReadyH.cons (o := { dst := some 13, op := Op.alloc 24, type := 0, pos := "more.go:24", after := #[], guard := none }) rfl (fun K hK => ?_) AllReadyH.nil))
            · go_simp
              (go_at_call 15; (first | (with_reducible refine (CP2 _ (grew_trans HGv2.out (grew_refl _)) _ _ (hr6.keep (grew_refl _)) hn6).mono ?_) | (with_reducible refine (CP2 _ (grew_trans HGv2.out (grew_drew (grew_refl _))) _ _ (hr6.keep (grew_drew (grew_refl _))) hn6).mono ?_) | (with_reducible refine (CP2 _ (grew_trans HGv2.out (grew_drew (grew_alloc _ _ _))) _ _ (hr6.keep (grew_drew (grew_alloc _ _ _))) hn6).mono ?_) | (with_reducible refine (CP2 _ (grew_trans HGv2.out (grew_alloc _ _ _)) _ _ (hr6.keep (grew_alloc _ _ _)) hn6).mono ?_)); rintro e v3 ⟨A6, c6, rfl, hl6, hg6⟩)
              have HS3 : Hid (Grew v2 v3) := (by first | exact hg6 | exact grew_trans (grew_drew (grew_refl _)) hg6 | exact grew_trans (grew_drew (grew_alloc _ _ _)) hg6 | exact grew_trans (grew_alloc _ _ _) hg6)
              have HGv3 : Hid (Grew wt v3) := grew_trans HGv2.out HS3.out
              (try have HW0 := Lib.hid (HW0.out.keep HS3.out))
              (try have HW1 := Lib.hid (HW1.out.keep HS3.out))
              (try have HW2 : Hid (Own2 v3 v2.heap.size (.int .i64 0) (.slice none 0 0)) := (Own2.new v2 (.int .i64 0) (.slice none 0 0) 24 _ rfl).keep (by first | exact hg6 | exact grew_trans (grew_drew (grew_refl _)) hg6))
              (try obtain ⟨t0, t1, t2, t3, t4⟩ := HW0.out)
              (try obtain ⟨t0, t1, t2, t3, t4⟩ := HW1.out)
              (try obtain ⟨t0, t1, t2, t3, t4⟩ := HW2.out)
              refine hK.out _ _ ?_ (fun hHeld => ?_)
              · first
                | exact HS.out _ HGv3.out
              clear hK K
              try simp only [Act.put, List.setIfInBounds_toArray, List.set_cons_zero, List.set_cons_succ]
              (refine wpAnyH_take (i := 9) (oi := { dst := some 60, op := Op.move (Operand.tmp 69), type := 34, pos := "more.go:24", after := #[{ on := 8, ground := Ground.data }], guard := none }) (v := ?_) rfl (by kernel_rfl) (by kernel_rfl) (by kernel_rfl) (fun _ _ _ h => h) (Or.inl ⟨by rfl, ?_⟩) (by assumption) ?_; rotate_left; · (intro w hSw; (try dsimp only at hSw); go_simp; (first | done | with_reducible rfl)))
              try simp only [Act.put, List.setIfInBounds_toArray, List.set_cons_zero, List.set_cons_succ]
              (refine wpAnyH_take (i := 10) (oi := { dst := some 70, op := Op.extract (Operand.tmp 60) 0, type := 24, pos := "more.go:24", after := #[{ on := 9, ground := Ground.data }], guard := none }) (v := ?_) rfl (by kernel_rfl) (by kernel_rfl) (by kernel_rfl) (fun _ _ _ h => h) (Or.inl ⟨by rfl, ?_⟩) (by assumption) ?_; rotate_left; · (intro w hSw; (try dsimp only at hSw); go_simp; (first | done | with_reducible rfl)))
              try simp only [Act.put, List.setIfInBounds_toArray, List.set_cons_zero, List.set_cons_succ]
              (refine wpAnyH_take (i := 11) (oi := { dst := some 71, op := Op.extract (Operand.tmp 60) 1, type := 31, pos := "more.go:24", after := #[{ on := 9, ground := Ground.data }, { on := 13, ground := Ground.gcOnly Departure.lateStores }], guard := none }) (v := ?_) rfl (by kernel_rfl) (by kernel_rfl) (by kernel_rfl) (fun _ _ _ h => h) (Or.inl ⟨by rfl, ?_⟩) (by assumption) ?_; rotate_left; · (intro w hSw; (try dsimp only at hSw); go_simp; (first | done | with_reducible rfl)))
              try simp only [Act.put, List.setIfInBounds_toArray, List.set_cons_zero, List.set_cons_succ]
              refine wpAnyH_ready (rs := [12]) (by kernel_rfl) (by simp) ?_
              refine (AllReadyH.cons (o := { dst := some 13, op := Op.alloc 24, type := 0, pos := "more.go:24", after := #[], guard := none }) rfl (fun K hK => ?_) AllReadyH.nil)
              go_simp
              refine hK.out _ _ ?_ (fun hHeld => ?_)
              · first
                | exact HS.out _ (grew_trans HGv3.out (grew_refl _))
                | exact HS.out _ (grew_trans HGv3.out (grew_drew (grew_refl _)))
                | exact HS.out _ (grew_trans HGv3.out (grew_drew (grew_alloc _ _ _)))
                | exact HS.out _ (grew_trans HGv3.out (grew_alloc _ _ _))
                | exact HS.out _ (grew_trans HGv2.out (grew_refl _))
                | exact HS.out _ (grew_trans HGv2.out (grew_drew (grew_refl _)))
                | exact HS.out _ (grew_trans HGv2.out (grew_drew (grew_alloc _ _ _)))
                | exact HS.out _ (grew_trans HGv2.out (grew_alloc _ _ _))
                | exact HS.out _ (grew_trans HGv1.out (grew_refl _))
                | exact HS.out _ (grew_trans HGv1.out (grew_drew (grew_refl _)))
                | exact HS.out _ (grew_trans HGv1.out (grew_drew (grew_alloc _ _ _)))
                | exact HS.out _ (grew_trans HGv1.out (grew_alloc _ _ _))
                | exact HS.out _ (grew_refl _)
                | exact HS.out _ (grew_drew (grew_refl _))
                | exact HS.out _ (grew_drew (grew_alloc _ _ _))
                | exact HS.out _ (grew_alloc _ _ _)
                | (trace_state; fail)
              clear hK K
              try simp only [Act.put, List.setIfInBounds_toArray, List.set_cons_zero, List.set_cons_succ]
              refine wpAnyH_ready (rs := [13]) (by kernel_rfl) (by simp) ?_
              refine (AllReadyH.cons (o := { dst := none, op := Op.store 24 (Operand.tmp 13) (Operand.tmp 70), type := 0, pos := "more.go:24", after := #[{ on := 12, ground := Ground.data }, { on := 10, ground := Ground.data }, { on := 8, ground := Ground.chain }, { on := 0, ground := Ground.phase }, { on := 1, ground := Ground.phase }, { on := 2, ground := Ground.phase }, { on := 3, ground := Ground.phase }, { on := 4, ground := Ground.phase }, { on := 5, ground := Ground.phase }, { on := 6, ground := Ground.phase }, { on := 7, ground := Ground.phase }, { on := 8, ground := Ground.phase }, { on := 9, ground := Ground.phase }, { on := 10, ground := Ground.phase }, { on := 11, ground := Ground.textOnly Departure.lateStores }, { on := 12, ground := Ground.phase }], guard := none }) rfl (fun K hK => ?_) AllReadyH.nil)
              go_simp
              refine hK.out _ _ ?_ (fun hHeld => ?_)
              · first
                | exact HS.out _ (grew_set (grew_set HGv3.out _ (Nat.le_refl _)) _ (Nat.le_refl _))
                | exact HS.out _ (grew_drew (grew_set (grew_set HGv3.out _ (Nat.le_refl _)) _ (Nat.le_refl _)))
                | exact HS.out _ (grew_set (grew_set HGv3.out _ HGv1.out.size) _ HGv1.out.size)
                | exact HS.out _ (grew_drew (grew_set (grew_set HGv3.out _ HGv1.out.size) _ HGv1.out.size))
                | exact HS.out _ (grew_set (grew_set HGv3.out _ HGv2.out.size) _ HGv2.out.size)
                | exact HS.out _ (grew_drew (grew_set (grew_set HGv3.out _ HGv2.out.size) _ HGv2.out.size))
                | exact HS.out _ (grew_trans HGv3.out (grew_refl _))
                | exact HS.out _ (grew_trans HGv3.out (grew_drew (grew_refl _)))
                | exact HS.out _ (grew_trans HGv3.out (grew_drew (grew_alloc _ _ _)))
                | exact HS.out _ (grew_trans HGv3.out (grew_alloc _ _ _))
                | (trace_state; fail)
              clear hK K
              try simp only [Act.put, List.setIfInBounds_toArray, List.set_cons_zero, List.set_cons_succ]
              (refine wpAnyH_take (i := 14) (oi := { dst := some 10, op := Op.assign (Operand.tmp 71), type := 31, pos := "more.go:24", after := #[{ on := 11, ground := Ground.data }, { on := 13, ground := Ground.chain }, { on := 0, ground := Ground.phase }, { on := 1, ground := Ground.phase }, { on := 2, ground := Ground.phase }, { on := 3, ground := Ground.phase }, { on := 4, ground := Ground.phase }, { on := 5, ground := Ground.phase }, { on := 6, ground := Ground.phase }, { on := 7, ground := Ground.phase }, { on := 8, ground := Ground.phase }, { on := 9, ground := Ground.phase }, { on := 10, ground := Ground.phase }, { on := 11, ground := Ground.phase }, { on := 12, ground := Ground.phase }, { on := 13, ground := Ground.phase }], guard := none }) (v := ?_) rfl (by kernel_rfl) (by kernel_rfl) (by kernel_rfl) (fun _ _ _ h => h) (Or.inl ⟨by rfl, ?_⟩) (by assumption) ?_; rotate_left; · (intro w hSw; (try dsimp only at hSw); go_simp; (first | done | with_reducible rfl)))
              try simp only [Act.put, List.setIfInBounds_toArray, List.set_cons_zero, List.set_cons_succ]
              refine wpAnyH_done (by kernel_rfl) ?_ _
              clear hHeld
              first
                | (have hX : Own2 ((v3.setCell ⟨wt.heap.size, 0, none⟩ (.int .i64 (last + 2))).setCell ⟨wt.heap.size, 1, none⟩ (.slice A6 zl.length c6)) wt.heap.size (.int .i64 (last + 2)) (.slice A6 zl.length c6) ∧ (∀ u : Value, RowE enLg (((v3.setCell ⟨wt.heap.size, 0, none⟩ (.int .i64 (last + 2))).setCell ⟨wt.heap.size, 1, none⟩ (.slice A6 zl.length c6)).setCell ⟨wt.heap.size, 0, none⟩ u) A6 zl.length zl) ∧ RowE enLg ((v3.setCell ⟨wt.heap.size, 0, none⟩ (.int .i64 (last + 2))).setCell ⟨wt.heap.size, 1, none⟩ (.slice A6 zl.length c6)) A6 zl.length zl ∧ Grew wt ((v3.setCell ⟨wt.heap.size, 0, none⟩ (.int .i64 (last + 2))).setCell ⟨wt.heap.size, 1, none⟩ (.slice A6 zl.length c6)) ∧ wt.heap.size ≤ wt.heap.size := ⟨HW0.out.set _ _, fun u => (((hl6.set _ 0 _ HL0.out).set _ 1 _ HL0.out).set _ 0 u HL0.out).row, ((hl6.set _ 0 _ HL0.out).set _ 1 _ HL0.out).row, grew_set (grew_set HGv3.out _ (Nat.le_refl _)) _ (Nat.le_refl _), (Nat.le_refl _)⟩; (try clear t0 t1 t2 t3 t4); generalize ((v3.setCell ⟨wt.heap.size, 0, none⟩ (.int .i64 (last + 2))).setCell ⟨wt.heap.size, 1, none⟩ (.slice A6 zl.length c6)) = wF at *; generalize hTF : wt.heap.size = TF at *)
                | (have hX : Own2 ((v3.setCell ⟨v1.heap.size, 0, none⟩ (.int .i64 (last + 2))).setCell ⟨v1.heap.size, 1, none⟩ (.slice A6 zl.length c6)) v1.heap.size (.int .i64 (last + 2)) (.slice A6 zl.length c6) ∧ (∀ u : Value, RowE enLg (((v3.setCell ⟨v1.heap.size, 0, none⟩ (.int .i64 (last + 2))).setCell ⟨v1.heap.size, 1, none⟩ (.slice A6 zl.length c6)).setCell ⟨v1.heap.size, 0, none⟩ u) A6 zl.length zl) ∧ RowE enLg ((v3.setCell ⟨v1.heap.size, 0, none⟩ (.int .i64 (last + 2))).setCell ⟨v1.heap.size, 1, none⟩ (.slice A6 zl.length c6)) A6 zl.length zl ∧ Grew wt ((v3.setCell ⟨v1.heap.size, 0, none⟩ (.int .i64 (last + 2))).setCell ⟨v1.heap.size, 1, none⟩ (.slice A6 zl.length c6)) ∧ wt.heap.size ≤ v1.heap.size := ⟨HW1.out.set _ _, fun u => (((hl6.set _ 0 _ HL1.out).set _ 1 _ HL1.out).set _ 0 u HL1.out).row, ((hl6.set _ 0 _ HL1.out).set _ 1 _ HL1.out).row, grew_set (grew_set HGv3.out _ HGv1.out.size) _ HGv1.out.size, HGv1.out.size⟩; (try clear t0 t1 t2 t3 t4); generalize ((v3.setCell ⟨v1.heap.size, 0, none⟩ (.int .i64 (last + 2))).setCell ⟨v1.heap.size, 1, none⟩ (.slice A6 zl.length c6)) = wF at *; generalize hTF : v1.heap.size = TF at *)
                | (have hX : Own2 ((v3.setCell ⟨v2.heap.size, 0, none⟩ (.int .i64 (last + 2))).setCell ⟨v2.heap.size, 1, none⟩ (.slice A6 zl.length c6)) v2.heap.size (.int .i64 (last + 2)) (.slice A6 zl.length c6) ∧ (∀ u : Value, RowE enLg (((v3.setCell ⟨v2.heap.size, 0, none⟩ (.int .i64 (last + 2))).setCell ⟨v2.heap.size, 1, none⟩ (.slice A6 zl.length c6)).setCell ⟨v2.heap.size, 0, none⟩ u) A6 zl.length zl) ∧ RowE enLg ((v3.setCell ⟨v2.heap.size, 0, none⟩ (.int .i64 (last + 2))).setCell ⟨v2.heap.size, 1, none⟩ (.slice A6 zl.length c6)) A6 zl.length zl ∧ Grew wt ((v3.setCell ⟨v2.heap.size, 0, none⟩ (.int .i64 (last + 2))).setCell ⟨v2.heap.size, 1, none⟩ (.slice A6 zl.length c6)) ∧ wt.heap.size ≤ v2.heap.size := ⟨HW2.out.set _ _, fun u => (((hl6.set _ 0 _ (by simp)).set _ 1 _ (by simp)).set _ 0 u (by simp)).row, ((hl6.set _ 0 _ (by simp)).set _ 1 _ (by simp)).row, grew_set (grew_set HGv3.out _ HGv2.out.size) _ HGv2.out.size, HGv2.out.size⟩; (try clear t0 t1 t2 t3 t4); generalize ((v3.setCell ⟨v2.heap.size, 0, none⟩ (.int .i64 (last + 2))).setCell ⟨v2.heap.size, 1, none⟩ (.slice A6 zl.length c6)) = wF at *; generalize hTF : v2.heap.size = TF at *)
                | (have hX : Own2 (v3.alloc (.cells #[.int .i64 (last + 2), (.slice A6 zl.length c6)] 24)) v3.heap.size (.int .i64 (last + 2)) (.slice A6 zl.length c6) ∧ (∀ u : Value, RowE enLg ((v3.alloc (.cells #[.int .i64 (last + 2), (.slice A6 zl.length c6)] 24)).setCell ⟨v3.heap.size, 0, none⟩ u) A6 zl.length zl) ∧ RowE enLg (v3.alloc (.cells #[.int .i64 (last + 2), (.slice A6 zl.length c6)] 24)) A6 zl.length zl ∧ Grew wt (v3.alloc (.cells #[.int .i64 (last + 2), (.slice A6 zl.length c6)] 24)) ∧ wt.heap.size ≤ v3.heap.size := ⟨Own2.new _ _ _ _ _ rfl, fun u => hl6.row.keep (grew_set (grew_alloc _ _ _) _ (Nat.le_refl _)), hl6.row.keep (grew_alloc _ _ _), grew_trans HGv3.out (grew_alloc _ _ _), HGv3.out.size⟩; (try clear t0 t1 t2 t3 t4); generalize (v3.alloc (.cells #[.int .i64 (last + 2), (.slice A6 zl.length c6)] 24)) = wF at *; generalize hTF : v3.heap.size = TF at *)
              have HX := Lib.hid hX
              obtain ⟨⟨u0, u1, uf0, uf1, ul⟩, -, -, hgX, hTX⟩ := hX
              obtain ⟨-, p0, p1, -, hz5⟩ := HCt.out wF hgX
              clear hl6 hr6 hn6 hm5 hlt5 hTX
              go_wp2_with (first
                | (go_at_call 17; ((with_reducible refine (keep_yes (last + 2) A3 A6 zl.length c3 c6 zl _ (HCt.out _ HX.out.2.2.2.1).2.2.2.1 HX.out.2.2.1 (by have := HUL.out; omega)).mono ?_); rintro e w8 ⟨rfl, hg⟩; have HG8 := Lib.hid (grew_trans HGW.out (grew_trans (HCt.out _ HX.out.2.2.2.1).1 hg)); clear hg))
                | (go_at_call 21; ((with_reducible refine (WK _).mono ?_); rintro e w9 ⟨rfl, hg⟩; have HG9 := Lib.hid (grew_trans HG8.out hg); clear hg)))
              go_ret
              exact ⟨rfl, HG9.out⟩
            · go_simp
              refine hK.out _ _ ?_ (fun hHeld => ?_)
              · first
                | exact HS.out _ (grew_trans HGv3.out (grew_refl _))
                | exact HS.out _ (grew_trans HGv3.out (grew_drew (grew_refl _)))
                | exact HS.out _ (grew_trans HGv3.out (grew_drew (grew_alloc _ _ _)))
                | exact HS.out _ (grew_trans HGv3.out (grew_alloc _ _ _))
                | exact HS.out _ (grew_trans HGv2.out (grew_refl _))
                | exact HS.out _ (grew_trans HGv2.out (grew_drew (grew_refl _)))
                | exact HS.out _ (grew_trans HGv2.out (grew_drew (grew_alloc _ _ _)))
                | exact HS.out _ (grew_trans HGv2.out (grew_alloc _ _ _))
                | exact HS.out _ (grew_trans HGv1.out (grew_refl _))
                | exact HS.out _ (grew_trans HGv1.out (grew_drew (grew_refl _)))
                | exact HS.out _ (grew_trans HGv1.out (grew_drew (grew_alloc _ _ _)))
                | exact HS.out _ (grew_trans HGv1.out (grew_alloc _ _ _))
                | exact HS.out _ (grew_refl _)
                | exact HS.out _ (grew_drew (grew_refl _))
                | exact HS.out _ (grew_drew (grew_alloc _ _ _))
                | exact HS.out _ (grew_alloc _ _ _)
                | (trace_state; fail)
              clear hK K
              try simp only [Act.put, List.setIfInBounds_toArray, List.set_cons_zero, List.set_cons_succ]
              refine wpAnyH_ready (rs := [8]) (by kernel_rfl) (by simp) ?_
              refine (AllReadyH.cons (o := { dst := some 69, op := Op.call { callee := Callee.value (Operand.func 15), args := #[Operand.tmp 61, Operand.tmp 64, Operand.tmp 68], argTypes := #[24, 3, 25] }, type := 34, pos := "more.go:24", after := #[{ on := 0, ground := Ground.data }, { on := 3, ground := Ground.data }, { on := 7, ground := Ground.data }, { on := 7, ground := Ground.chain }], guard := none }) rfl (fun K hK => ?_) AllReadyH.nil)
              go_simp
              (go_at_call 15; (first | (with_reducible refine (CP2 _ (grew_trans HGv2.out (grew_refl _)) _ _ (hr6.keep (grew_refl _)) hn6).mono ?_) | (with_reducible refine (CP2 _ (grew_trans HGv2.out (grew_drew (grew_refl _))) _ _ (hr6.keep (grew_drew (grew_refl _))) hn6).mono ?_) | (with_reducible refine (CP2 _ (grew_trans HGv2.out (grew_drew (grew_alloc _ _ _))) _ _ (hr6.keep (grew_drew (grew_alloc _ _ _))) hn6).mono ?_) | (with_reducible refine (CP2 _ (grew_trans HGv2.out (grew_alloc _ _ _)) _ _ (hr6.keep (grew_alloc _ _ _)) hn6).mono ?_)); rintro e v3 ⟨A6, c6, rfl, hl6, hg6⟩)
              have HS3 : Hid (Grew v2 v3) := (by first | exact hg6 | exact grew_trans (grew_drew (grew_refl _)) hg6 | exact grew_trans (grew_drew (grew_alloc _ _ _)) hg6 | exact grew_trans (grew_alloc _ _ _) hg6)
              have HGv3 : Hid (Grew wt v3) := grew_trans HGv2.out HS3.out
              (try have HW0 := Lib.hid (HW0.out.keep HS3.out))
              (try have HW1 := Lib.hid (HW1.out.keep HS3.out))
              (try have HW2 : Hid (Own2 v3 v2.heap.size (.int .i64 0) (.slice none 0 0)) := (Own2.new v2 (.int .i64 0) (.slice none 0 0) 24 _ rfl).keep (by first | exact hg6 | exact grew_trans (grew_drew (grew_refl _)) hg6))
              (try obtain ⟨t0, t1, t2, t3, t4⟩ := HW0.out)
              (try obtain ⟨t0, t1, t2, t3, t4⟩ := HW1.out)
              (try obtain ⟨t0, t1, t2, t3, t4⟩ := HW2.out)
              refine hK.out _ _ ?_ (fun hHeld => ?_)
              · first
                | exact HS.out _ HGv3.out
              clear hK K
              try simp only [Act.put, List.setIfInBounds_toArray, List.set_cons_zero, List.set_cons_succ]
              (refine wpAnyH_take (i := 9) (oi := { dst := some 60, op := Op.move (Operand.tmp 69), type := 34, pos := "more.go:24", after := #[{ on := 8, ground := Ground.data }], guard := none }) (v := ?_) rfl (by kernel_rfl) (by kernel_rfl) (by kernel_rfl) (fun _ _ _ h => h) (Or.inl ⟨by rfl, ?_⟩) (by assumption) ?_; rotate_left; · (intro w hSw; (try dsimp only at hSw); go_simp; (first | done | with_reducible rfl)))
              try simp only [Act.put, List.setIfInBounds_toArray, List.set_cons_zero, List.set_cons_succ]
              (refine wpAnyH_take (i := 10) (oi := { dst := some 70, op := Op.extract (Operand.tmp 60) 0, type := 24, pos := "more.go:24", after := #[{ on := 9, ground := Ground.data }], guard := none }) (v := ?_) rfl (by kernel_rfl) (by kernel_rfl) (by kernel_rfl) (fun _ _ _ h => h) (Or.inl ⟨by rfl, ?_⟩) (by assumption) ?_; rotate_left; · (intro w hSw; (try dsimp only at hSw); go_simp; (first | done | with_reducible rfl)))
              try simp only [Act.put, List.setIfInBounds_toArray, List.set_cons_zero, List.set_cons_succ]
              (refine wpAnyH_take (i := 11) (oi := { dst := some 71, op := Op.extract (Operand.tmp 60) 1, type := 31, pos := "more.go:24", after := #[{ on := 9, ground := Ground.data }, { on := 13, ground := Ground.gcOnly Departure.lateStores }], guard := none }) (v := ?_) rfl (by kernel_rfl) (by kernel_rfl) (by kernel_rfl) (fun _ _ _ h => h) (Or.inl ⟨by rfl, ?_⟩) (by assumption) ?_; rotate_left; · (intro w hSw; (try dsimp only at hSw); go_simp; (first | done | with_reducible rfl)))
              try simp only [Act.put, List.setIfInBounds_toArray, List.set_cons_zero, List.set_cons_succ]
              refine wpAnyH_ready (rs := [13]) (by kernel_rfl) (by simp) ?_
              refine (AllReadyH.cons (o := { dst := none, op := Op.store 24 (Operand.tmp 13) (Operand.tmp 70), type := 0, pos := "more.go:24", after := #[{ on := 12, ground := Ground.data }, { on := 10, ground := Ground.data }, { on := 8, ground := Ground.chain }, { on := 0, ground := Ground.phase }, { on := 1, ground := Ground.phase }, { on := 2, ground := Ground.phase }, { on := 3, ground := Ground.phase }, { on := 4, ground := Ground.phase }, { on := 5, ground := Ground.phase }, { on := 6, ground := Ground.phase }, { on := 7, ground := Ground.phase }, { on := 8, ground := Ground.phase }, { on := 9, ground := Ground.phase }, { on := 10, ground := Ground.phase }, { on := 11, ground := Ground.textOnly Departure.lateStores }, { on := 12, ground := Ground.phase }], guard := none }) rfl (fun K hK => ?_) AllReadyH.nil)
              go_simp
              refine hK.out _ _ ?_ (fun hHeld => ?_)
              · first
                | exact HS.out _ (grew_set (grew_set HGv3.out _ (Nat.le_refl _)) _ (Nat.le_refl _))
                | exact HS.out _ (grew_drew (grew_set (grew_set HGv3.out _ (Nat.le_refl _)) _ (Nat.le_refl _)))
                | exact HS.out _ (grew_set (grew_set HGv3.out _ HGv1.out.size) _ HGv1.out.size)
                | exact HS.out _ (grew_drew (grew_set (grew_set HGv3.out _ HGv1.out.size) _ HGv1.out.size))
                | exact HS.out _ (grew_set (grew_set HGv3.out _ HGv2.out.size) _ HGv2.out.size)
                | exact HS.out _ (grew_drew (grew_set (grew_set HGv3.out _ HGv2.out.size) _ HGv2.out.size))
                | exact HS.out _ (grew_trans HGv3.out (grew_refl _))
                | exact HS.out _ (grew_trans HGv3.out (grew_drew (grew_refl _)))
                | exact HS.out _ (grew_trans HGv3.out (grew_drew (grew_alloc _ _ _)))
                | exact HS.out _ (grew_trans HGv3.out (grew_alloc _ _ _))
                | (trace_state; fail)
              clear hK K
              try simp only [Act.put, List.setIfInBounds_toArray, List.set_cons_zero, List.set_cons_succ]
              (refine wpAnyH_take (i := 14) (oi := { dst := some 10, op := Op.assign (Operand.tmp 71), type := 31, pos := "more.go:24", after := #[{ on := 11, ground := Ground.data }, { on := 13, ground := Ground.chain }, { on := 0, ground := Ground.phase }, { on := 1, ground := Ground.phase }, { on := 2, ground := Ground.phase }, { on := 3, ground := Ground.phase }, { on := 4, ground := Ground.phase }, { on := 5, ground := Ground.phase }, { on := 6, ground := Ground.phase }, { on := 7, ground := Ground.phase }, { on := 8, ground := Ground.phase }, { on := 9, ground := Ground.phase }, { on := 10, ground := Ground.phase }, { on := 11, ground := Ground.phase }, { on := 12, ground := Ground.phase }, { on := 13, ground := Ground.phase }], guard := none }) (v := ?_) rfl (by kernel_rfl) (by kernel_rfl) (by kernel_rfl) (fun _ _ _ h => h) (Or.inl ⟨by rfl, ?_⟩) (by assumption) ?_; rotate_left; · (intro w hSw; (try dsimp only at hSw); go_simp; (first | done | with_reducible rfl)))
              try simp only [Act.put, List.setIfInBounds_toArray, List.set_cons_zero, List.set_cons_succ]
              refine wpAnyH_done (by kernel_rfl) ?_ _
              clear hHeld
              first
                | (have hX : Own2 ((v3.setCell ⟨wt.heap.size, 0, none⟩ (.int .i64 (last + 2))).setCell ⟨wt.heap.size, 1, none⟩ (.slice A6 zl.length c6)) wt.heap.size (.int .i64 (last + 2)) (.slice A6 zl.length c6) ∧ (∀ u : Value, RowE enLg (((v3.setCell ⟨wt.heap.size, 0, none⟩ (.int .i64 (last + 2))).setCell ⟨wt.heap.size, 1, none⟩ (.slice A6 zl.length c6)).setCell ⟨wt.heap.size, 0, none⟩ u) A6 zl.length zl) ∧ RowE enLg ((v3.setCell ⟨wt.heap.size, 0, none⟩ (.int .i64 (last + 2))).setCell ⟨wt.heap.size, 1, none⟩ (.slice A6 zl.length c6)) A6 zl.length zl ∧ Grew wt ((v3.setCell ⟨wt.heap.size, 0, none⟩ (.int .i64 (last + 2))).setCell ⟨wt.heap.size, 1, none⟩ (.slice A6 zl.length c6)) ∧ wt.heap.size ≤ wt.heap.size := ⟨HW0.out.set _ _, fun u => (((hl6.set _ 0 _ HL0.out).set _ 1 _ HL0.out).set _ 0 u HL0.out).row, ((hl6.set _ 0 _ HL0.out).set _ 1 _ HL0.out).row, grew_set (grew_set HGv3.out _ (Nat.le_refl _)) _ (Nat.le_refl _), (Nat.le_refl _)⟩; (try clear t0 t1 t2 t3 t4); generalize ((v3.setCell ⟨wt.heap.size, 0, none⟩ (.int .i64 (last + 2))).setCell ⟨wt.heap.size, 1, none⟩ (.slice A6 zl.length c6)) = wF at *; generalize hTF : wt.heap.size = TF at *)
                | (have hX : Own2 ((v3.setCell ⟨v1.heap.size, 0, none⟩ (.int .i64 (last + 2))).setCell ⟨v1.heap.size, 1, none⟩ (.slice A6 zl.length c6)) v1.heap.size (.int .i64 (last + 2)) (.slice A6 zl.length c6) ∧ (∀ u : Value, RowE enLg (((v3.setCell ⟨v1.heap.size, 0, none⟩ (.int .i64 (last + 2))).setCell ⟨v1.heap.size, 1, none⟩ (.slice A6 zl.length c6)).setCell ⟨v1.heap.size, 0, none⟩ u) A6 zl.length zl) ∧ RowE enLg ((v3.setCell ⟨v1.heap.size, 0, none⟩ (.int .i64 (last + 2))).setCell ⟨v1.heap.size, 1, none⟩ (.slice A6 zl.length c6)) A6 zl.length zl ∧ Grew wt ((v3.setCell ⟨v1.heap.size, 0, none⟩ (.int .i64 (last + 2))).setCell ⟨v1.heap.size, 1, none⟩ (.slice A6 zl.length c6)) ∧ wt.heap.size ≤ v1.heap.size := ⟨HW1.out.set _ _, fun u => (((hl6.set _ 0 _ HL1.out).set _ 1 _ HL1.out).set _ 0 u HL1.out).row, ((hl6.set _ 0 _ HL1.out).set _ 1 _ HL1.out).row, grew_set (grew_set HGv3.out _ HGv1.out.size) _ HGv1.out.size, HGv1.out.size⟩; (try clear t0 t1 t2 t3 t4); generalize ((v3.setCell ⟨v1.heap.size, 0, none⟩ (.int .i64 (last + 2))).setCell ⟨v1.heap.size, 1, none⟩ (.slice A6 zl.length c6)) = wF at *; generalize hTF : v1.heap.size = TF at *)
                | (have hX : Own2 ((v3.setCell ⟨v2.heap.size, 0, none⟩ (.int .i64 (last + 2))).setCell ⟨v2.heap.size, 1, none⟩ (.slice A6 zl.length c6)) v2.heap.size (.int .i64 (last + 2)) (.slice A6 zl.length c6) ∧ (∀ u : Value, RowE enLg (((v3.setCell ⟨v2.heap.size, 0, none⟩ (.int .i64 (last + 2))).setCell ⟨v2.heap.size, 1, none⟩ (.slice A6 zl.length c6)).setCell ⟨v2.heap.size, 0, none⟩ u) A6 zl.length zl) ∧ RowE enLg ((v3.setCell ⟨v2.heap.size, 0, none⟩ (.int .i64 (last + 2))).setCell ⟨v2.heap.size, 1, none⟩ (.slice A6 zl.length c6)) A6 zl.length zl ∧ Grew wt ((v3.setCell ⟨v2.heap.size, 0, none⟩ (.int .i64 (last + 2))).setCell ⟨v2.heap.size, 1, none⟩ (.slice A6 zl.length c6)) ∧ wt.heap.size ≤ v2.heap.size := ⟨HW2.out.set _ _, fun u => (((hl6.set _ 0 _ (by simp)).set _ 1 _ (by simp)).set _ 0 u (by simp)).row, ((hl6.set _ 0 _ (by simp)).set _ 1 _ (by simp)).row, grew_set (grew_set HGv3.out _ HGv2.out.size) _ HGv2.out.size, HGv2.out.size⟩; (try clear t0 t1 t2 t3 t4); generalize ((v3.setCell ⟨v2.heap.size, 0, none⟩ (.int .i64 (last + 2))).setCell ⟨v2.heap.size, 1, none⟩ (.slice A6 zl.length c6)) = wF at *; generalize hTF : v2.heap.size = TF at *)
                | (have hX : Own2 (v3.alloc (.cells #[.int .i64 (last + 2), (.slice A6 zl.length c6)] 24)) v3.heap.size (.int .i64 (last + 2)) (.slice A6 zl.length c6) ∧ (∀ u : Value, RowE enLg ((v3.alloc (.cells #[.int .i64 (last + 2), (.slice A6 zl.length c6)] 24)).setCell ⟨v3.heap.size, 0, none⟩ u) A6 zl.length zl) ∧ RowE enLg (v3.alloc (.cells #[.int .i64 (last + 2), (.slice A6 zl.length c6)] 24)) A6 zl.length zl ∧ Grew wt (v3.alloc (.cells #[.int .i64 (last + 2), (.slice A6 zl.length c6)] 24)) ∧ wt.heap.size ≤ v3.heap.size := ⟨Own2.new _ _ _ _ _ rfl, fun u => hl6.row.keep (grew_set (grew_alloc _ _ _) _ (Nat.le_refl _)), hl6.row.keep (grew_alloc _ _ _), grew_trans HGv3.out (grew_alloc _ _ _), HGv3.out.size⟩; (try clear t0 t1 t2 t3 t4); generalize (v3.alloc (.cells #[.int .i64 (last + 2), (.slice A6 zl.length c6)] 24)) = wF at *; generalize hTF : v3.heap.size = TF at *)
              have HX := Lib.hid hX
              obtain ⟨⟨u0, u1, uf0, uf1, ul⟩, -, -, hgX, hTX⟩ := hX
              obtain ⟨-, p0, p1, -, hz5⟩ := HCt.out wF hgX
              clear hl6 hr6 hn6 hm5 hlt5 hTX
              go_wp2_with (first
                | (go_at_call 17; ((with_reducible refine (keep_yes (last + 2) A3 A6 zl.length c3 c6 zl _ (HCt.out _ HX.out.2.2.2.1).2.2.2.1 HX.out.2.2.1 (by have := HUL.out; omega)).mono ?_); rintro e w8 ⟨rfl, hg⟩; have HG8 := Lib.hid (grew_trans HGW.out (grew_trans (HCt.out _ HX.out.2.2.2.1).1 hg)); clear hg))
                | (go_at_call 21; ((with_reducible refine (WK _).mono ?_); rintro e w9 ⟨rfl, hg⟩; have HG9 := Lib.hid (grew_trans HG8.out hg); clear hg)))
              go_ret
              exact ⟨rfl, HG9.out⟩
          · go_simp
            refine hK.out _ _ ?_ (fun hHeld => ?_)
            · first
              | exact HS.out _ (grew_trans HGv3.out (grew_refl _))
              | exact HS.out _ (grew_trans HGv3.out (grew_drew (grew_refl _)))
              | exact HS.out _ (grew_trans HGv3.out (grew_drew (grew_alloc _ _ _)))
              | exact HS.out _ (grew_trans HGv3.out (grew_alloc _ _ _))
              | exact HS.out _ (grew_trans HGv2.out (grew_refl _))
              | exact HS.out _ (grew_trans HGv2.out (grew_drew (grew_refl _)))
              | exact HS.out _ (grew_trans HGv2.out (grew_drew (grew_alloc _ _ _)))
              | exact HS.out _ (grew_trans HGv2.out (grew_alloc _ _ _))
              | exact HS.out _ (grew_trans HGv1.out (grew_refl _))
              | exact HS.out _ (grew_trans HGv1.out (grew_drew (grew_refl _)))
              | exact HS.out _ (grew_trans HGv1.out (grew_drew (grew_alloc _ _ _)))
              | exact HS.out _ (grew_trans HGv1.out (grew_alloc _ _ _))
              | exact HS.out _ (grew_refl _)
              | exact HS.out _ (grew_drew (grew_refl _))
              | exact HS.out _ (grew_drew (grew_alloc _ _ _))
              | exact HS.out _ (grew_alloc _ _ _)
              | (trace_state; fail)
            clear hK K
            try simp only [Act.put, List.setIfInBounds_toArray, List.set_cons_zero, List.set_cons_succ]
            refine wpAnyH_ready (rs := [7]) (by kernel_rfl) (by simp) ?_
            refine (AllReadyH.cons (o := { dst := some 68, op := Op.call { callee := Callee.builtin Builtin.append, args := #[Operand.tmp 66, Operand.tmp 67], argTypes := #[25, 25] }, type := 25, pos := "more.go:24", after := #[{ on := 5, ground := Ground.data }, { on := 6, ground := Ground.data }, { on := 5, ground := Ground.chain }], guard := none }) rfl (fun K hK => ?_) AllReadyH.nil)
            have HB5 : Hid (_ ≤ v1.heap.size) := Below.size hg5
            (first | (refine step_append_E2 rfl _ _ 25 53 (legV 0 0 0 0) 32 rfl Try.underlying25 info_lg rfl _ _ la (by rfl) (hm5.own.keep (grew_refl _)) D dn dc lb (by rfl) HDN.out (HJk.out _ (grew_trans HGv1.out (grew_refl _))) (by have := HLA.out; unfold maxLen; omega) (by have := HLA.out; omega) (Nat.le_trans HB5.out (Below.size (grew_refl _))) ?_) | (refine step_append_E2 rfl _ _ 25 53 (legV 0 0 0 0) 32 rfl Try.underlying25 info_lg rfl _ _ la (by rfl) (hm5.own.keep (grew_drew (grew_refl _))) D dn dc lb (by rfl) HDN.out (HJk.out _ (grew_trans HGv1.out (grew_drew (grew_refl _)))) (by have := HLA.out; unfold maxLen; omega) (by have := HLA.out; omega) (Nat.le_trans HB5.out (Below.size (grew_drew (grew_refl _)))) ?_) | (refine step_append_E2 rfl _ _ 25 53 (legV 0 0 0 0) 32 rfl Try.underlying25 info_lg rfl _ _ la (by rfl) (hm5.own.keep (grew_drew (grew_alloc _ _ _))) D dn dc lb (by rfl) HDN.out (HJk.out _ (grew_trans HGv1.out (grew_drew (grew_alloc _ _ _)))) (by have := HLA.out; unfold maxLen; omega) (by have := HLA.out; omega) (Nat.le_trans HB5.out (Below.size (grew_drew (grew_alloc _ _ _)))) ?_) | (refine step_append_E2 rfl _ _ 25 53 (legV 0 0 0 0) 32 rfl Try.underlying25 info_lg rfl _ _ la (by rfl) (hm5.own.keep (grew_alloc _ _ _)) D dn dc lb (by rfl) HDN.out (HJk.out _ (grew_trans HGv1.out (grew_alloc _ _ _))) (by have := HLA.out; unfold maxLen; omega) (by have := HLA.out; omega) (Nat.le_trans HB5.out (Below.size (grew_alloc _ _ _))) ?_))
            intro v6 v2 hv hb6 hgr6
            obtain ⟨B6, d6, rfl, hr6, hn6, -⟩ := hv.form
            rw [List.length_append, HLA.out, HLB.out] at hr6 ⊢
            have HGv2 : Hid (Grew wt v2) := grew_below (by first | exact HGv1.out | exact grew_trans HGv1.out (grew_drew (grew_refl _)) | exact grew_trans HGv1.out (grew_drew (grew_alloc _ _ _)) | exact grew_trans HGv1.out (grew_alloc _ _ _)) hb6 (by first | exact Nat.le_refl _ | simp)
            (try have HW0 : Hid (Own2 v2 wt.heap.size (.int .i64 0) (.slice none 0 0)) := Own2.grown (HW0.out.keep (by first | exact grew_refl _ | exact grew_drew (grew_refl _))) hgr6 (fun e => absurd (hlt5 _ e.symm).1 (by simp)))
            (try have HW1 : Hid (Own2 v2 v1.heap.size (.int .i64 0) (.slice none 0 0)) := Own2.grown (by first | exact (Own2.new v1 (.int .i64 0) (.slice none 0 0) 24 _ rfl) | exact (Own2.new v1 (.int .i64 0) (.slice none 0 0) 24 _ rfl).keep (grew_drew (grew_refl _))) hgr6 (fun e => absurd (hlt5 _ e.symm).2 (Nat.lt_irrefl _)))
            (try obtain ⟨t0, t1, t2, t3, t4⟩ := HW0.out)
            (try obtain ⟨t0, t1, t2, t3, t4⟩ := HW1.out)
            (try have HL0 : Hid (wt.heap.size < v2.heap.size) := HW0.out.lt)
            (try have HL1 : Hid (v1.heap.size < v2.heap.size) := HW1.out.lt)
            refine hK.out _ _ ?_ (fun hHeld => ?_)
            · first
              | exact HS.out _ HGv2.out
            clear hK K
            try simp only [Act.put, List.setIfInBounds_toArray, List.set_cons_zero, List.set_cons_succ]
            refine wpAnyH_ready (rs := [8]) (by kernel_rfl) (by simp) ?_
            refine (AllReadyH.cons (o := { dst := some 69, op := Op.call { callee := Callee.value (Operand.func 15), args := #[Operand.tmp 61, Operand.tmp 64, Operand.tmp 68], argTypes := #[24, 3, 25] }, type := 34, pos := "more.go:24", after := #[{ on := 0, ground := Ground.data }, { on := 3, ground := Ground.data }, { on := 7, ground := Ground.data }, { on := 7, ground := Ground.chain }], guard := none }) rfl (fun K hK => ?_) AllReadyH.nil)
            go_simp
            (go_at_call 15; (first | (with_reducible refine (CP2 _ (grew_trans HGv2.out (grew_refl _)) _ _ (hr6.keep (grew_refl _)) hn6).mono ?_) | (with_reducible refine (CP2 _ (grew_trans HGv2.out (grew_drew (grew_refl _))) _ _ (hr6.keep (grew_drew (grew_refl _))) hn6).mono ?_) | (with_reducible refine (CP2 _ (grew_trans HGv2.out (grew_drew (grew_alloc _ _ _))) _ _ (hr6.keep (grew_drew (grew_alloc _ _ _))) hn6).mono ?_) | (with_reducible refine (CP2 _ (grew_trans HGv2.out (grew_alloc _ _ _)) _ _ (hr6.keep (grew_alloc _ _ _)) hn6).mono ?_)); rintro e v3 ⟨A6, c6, rfl, hl6, hg6⟩)
            have HS3 : Hid (Grew v2 v3) := (by first | exact hg6 | exact grew_trans (grew_drew (grew_refl _)) hg6 | exact grew_trans (grew_drew (grew_alloc _ _ _)) hg6 | exact grew_trans (grew_alloc _ _ _) hg6)
            have HGv3 : Hid (Grew wt v3) := grew_trans HGv2.out HS3.out
            (try have HW0 := Lib.hid (HW0.out.keep HS3.out))
            (try have HW1 := Lib.hid (HW1.out.keep HS3.out))
            (try have HW2 : Hid (Own2 v3 v2.heap.size (.int .i64 0) (.slice none 0 0)) := (Own2.new v2 (.int .i64 0) (.slice none 0 0) 24 _ rfl).keep (by first | exact hg6 | exact grew_trans (grew_drew (grew_refl _)) hg6))
            (try obtain ⟨t0, t1, t2, t3, t4⟩ := HW0.out)
            (try obtain ⟨t0, t1, t2, t3, t4⟩ := HW1.out)
            (try obtain ⟨t0, t1, t2, t3, t4⟩ := HW2.out)
            refine hK.out _ _ ?_ (fun hHeld => ?_)
            · first
              | exact HS.out _ HGv3.out
            clear hK K
            try simp only [Act.put, List.setIfInBounds_toArray, List.set_cons_zero, List.set_cons_succ]
            (refine wpAnyH_take (i := 9) (oi := { dst := some 60, op := Op.move (Operand.tmp 69), type := 34, pos := "more.go:24", after := #[{ on := 8, ground := Ground.data }], guard := none }) (v := ?_) rfl (by kernel_rfl) (by kernel_rfl) (by kernel_rfl) (fun _ _ _ h => h) (Or.inl ⟨by rfl, ?_⟩) (by assumption) ?_; rotate_left; · (intro w hSw; (try dsimp only at hSw); go_simp; (first | done | with_reducible rfl)))
            try simp only [Act.put, List.setIfInBounds_toArray, List.set_cons_zero, List.set_cons_succ]
            (refine wpAnyH_take (i := 10) (oi := { dst := some 70, op := Op.extract (Operand.tmp 60) 0, type := 24, pos := "more.go:24", after := #[{ on := 9, ground := Ground.data }], guard := none }) (v := ?_) rfl (by kernel_rfl) (by kernel_rfl) (by kernel_rfl) (fun _ _ _ h => h) (Or.inl ⟨by rfl, ?_⟩) (by assumption) ?_; rotate_left; · (intro w hSw; (try dsimp only at hSw); go_simp; (first | done | with_reducible rfl)))
            try simp only [Act.put, List.setIfInBounds_toArray, List.set_cons_zero, List.set_cons_succ]
            (refine wpAnyH_take (i := 11) (oi := { dst := some 71, op := Op.extract (Operand.tmp 60) 1, type := 31, pos := "more.go:24", after := #[{ on := 9, ground := Ground.data }, { on := 13, ground := Ground.gcOnly Departure.lateStores }], guard := none }) (v := ?_) rfl (by kernel_rfl) (by kernel_rfl) (by kernel_rfl) (fun _ _ _ h => h) (Or.inl ⟨by rfl, ?_⟩) (by assumption) ?_; rotate_left; · (intro w hSw; (try dsimp only at hSw); go_simp; (first | done | with_reducible rfl)))
            try simp only [Act.put, List.setIfInBounds_toArray, List.set_cons_zero, List.set_cons_succ]
            refine wpAnyH_ready (rs := [13]) (by kernel_rfl) (by simp) ?_
            refine (AllReadyH.cons (o := { dst := none, op := Op.store 24 (Operand.tmp 13) (Operand.tmp 70), type := 0, pos := "more.go:24", after := #[{ on := 12, ground := Ground.data }, { on := 10, ground := Ground.data }, { on := 8, ground := Ground.chain }, { on := 0, ground := Ground.phase }, { on := 1, ground := Ground.phase }, { on := 2, ground := Ground.phase }, { on := 3, ground := Ground.phase }, { on := 4, ground := Ground.phase }, { on := 5, ground := Ground.phase }, { on := 6, ground := Ground.phase }, { on := 7, ground := Ground.phase }, { on := 8, ground := Ground.phase }, { on := 9, ground := Ground.phase }, { on := 10, ground := Ground.phase }, { on := 11, ground := Ground.textOnly Departure.lateStores }, { on := 12, ground := Ground.phase }], guard := none }) rfl (fun K hK => ?_) AllReadyH.nil)
            go_simp
            refine hK.out _ _ ?_ (fun hHeld => ?_)
            · first
              | exact HS.out _ (grew_set (grew_set HGv3.out _ (Nat.le_refl _)) _ (Nat.le_refl _))
              | exact HS.out _ (grew_drew (grew_set (grew_set HGv3.out _ (Nat.le_refl _)) _ (Nat.le_refl _)))
              | exact HS.out _ (grew_set (grew_set HGv3.out _ HGv1.out.size) _ HGv1.out.size)
              | exact HS.out _ (grew_drew (grew_set (grew_set HGv3.out _ HGv1.out.size) _ HGv1.out.size))
              | exact HS.out _ (grew_set (grew_set HGv3.out _ HGv2.out.size) _ HGv2.out.size)
              | exact HS.out _ (grew_drew (grew_set (grew_set HGv3.out _ HGv2.out.size) _ HGv2.out.size))
              | exact HS.out _ (grew_trans HGv3.out (grew_refl _))
              | exact HS.out _ (grew_trans HGv3.out (grew_drew (grew_refl _)))
              | exact HS.out _ (grew_trans HGv3.out (grew_drew (grew_alloc _ _ _)))
              | exact HS.out _ (grew_trans HGv3.out (grew_alloc _ _ _))
              | (trace_state; fail)
            clear hK K
            try simp only [Act.put, List.setIfInBounds_toArray, List.set_cons_zero, List.set_cons_succ]
            (refine wpAnyH_take (i := 14) (oi := { dst := some 10, op := Op.assign (Operand.tmp 71), type := 31, pos := "more.go:24", after := #[{ on := 11, ground := Ground.data }, { on := 13, ground := Ground.chain }, { on := 0, ground := Ground.phase }, { on := 1, ground := Ground.phase }, { on := 2, ground := Ground.phase }, { on := 3, ground := Ground.phase }, { on := 4, ground := Ground.phase }, { on := 5, ground := Ground.phase }, { on := 6, ground := Ground.phase }, { on := 7, ground := Ground.phase }, { on := 8, ground := Ground.phase }, { on := 9, ground := Ground.phase }, { on := 10, ground := Ground.phase }, { on := 11, ground := Ground.phase }, { on := 12, ground := Ground.phase }, { on := 13, ground := Ground.phase }], guard := none }) (v := ?_) rfl (by kernel_rfl) (by kernel_rfl) (by kernel_rfl) (fun _ _ _ h => h) (Or.inl ⟨by rfl, ?_⟩) (by assumption) ?_; rotate_left; · (intro w hSw; (try dsimp only at hSw); go_simp; (first | done | with_reducible rfl)))
            try simp only [Act.put, List.setIfInBounds_toArray, List.set_cons_zero, List.set_cons_succ]
            refine wpAnyH_done (by kernel_rfl) ?_ _
            clear hHeld
            first
              | (have hX : Own2 ((v3.setCell ⟨wt.heap.size, 0, none⟩ (.int .i64 (last + 2))).setCell ⟨wt.heap.size, 1, none⟩ (.slice A6 zl.length c6)) wt.heap.size (.int .i64 (last + 2)) (.slice A6 zl.length c6) ∧ (∀ u : Value, RowE enLg (((v3.setCell ⟨wt.heap.size, 0, none⟩ (.int .i64 (last + 2))).setCell ⟨wt.heap.size, 1, none⟩ (.slice A6 zl.length c6)).setCell ⟨wt.heap.size, 0, none⟩ u) A6 zl.length zl) ∧ RowE enLg ((v3.setCell ⟨wt.heap.size, 0, none⟩ (.int .i64 (last + 2))).setCell ⟨wt.heap.size, 1, none⟩ (.slice A6 zl.length c6)) A6 zl.length zl ∧ Grew wt ((v3.setCell ⟨wt.heap.size, 0, none⟩ (.int .i64 (last + 2))).setCell ⟨wt.heap.size, 1, none⟩ (.slice A6 zl.length c6)) ∧ wt.heap.size ≤ wt.heap.size := ⟨HW0.out.set _ _, fun u => (((hl6.set _ 0 _ HL0.out).set _ 1 _ HL0.out).set _ 0 u HL0.out).row, ((hl6.set _ 0 _ HL0.out).set _ 1 _ HL0.out).row, grew_set (grew_set HGv3.out _ (Nat.le_refl _)) _ (Nat.le_refl _), (Nat.le_refl _)⟩; (try clear t0 t1 t2 t3 t4); generalize ((v3.setCell ⟨wt.heap.size, 0, none⟩ (.int .i64 (last + 2))).setCell ⟨wt.heap.size, 1, none⟩ (.slice A6 zl.length c6)) = wF at *; generalize hTF : wt.heap.size = TF at *)
              | (have hX : Own2 ((v3.setCell ⟨v1.heap.size, 0, none⟩ (.int .i64 (last + 2))).setCell ⟨v1.heap.size, 1, none⟩ (.slice A6 zl.length c6)) v1.heap.size (.int .i64 (last + 2)) (.slice A6 zl.length c6) ∧ (∀ u : Value, RowE enLg (((v3.setCell ⟨v1.heap.size, 0, none⟩ (.int .i64 (last + 2))).setCell ⟨v1.heap.size, 1, none⟩ (.slice A6 zl.length c6)).setCell ⟨v1.heap.size, 0, none⟩ u) A6 zl.length zl) ∧ RowE enLg ((v3.setCell ⟨v1.heap.size, 0, none⟩ (.int .i64 (last + 2))).setCell ⟨v1.heap.size, 1, none⟩ (.slice A6 zl.length c6)) A6 zl.length zl ∧ Grew wt ((v3.setCell ⟨v1.heap.size, 0, none⟩ (.int .i64 (last + 2))).setCell ⟨v1.heap.size, 1, none⟩ (.slice A6 zl.length c6)) ∧ wt.heap.size ≤ v1.heap.size := ⟨HW1.out.set _ _, fun u => (((hl6.set _ 0 _ HL1.out).set _ 1 _ HL1.out).set _ 0 u HL1.out).row, ((hl6.set _ 0 _ HL1.out).set _ 1 _ HL1.out).row, grew_set (grew_set HGv3.out _ HGv1.out.size) _ HGv1.out.size, HGv1.out.size⟩; (try clear t0 t1 t2 t3 t4); generalize ((v3.setCell ⟨v1.heap.size, 0, none⟩ (.int .i64 (last + 2))).setCell ⟨v1.heap.size, 1, none⟩ (.slice A6 zl.length c6)) = wF at *; generalize hTF : v1.heap.size = TF at *)
              | (have hX : Own2 ((v3.setCell ⟨v2.heap.size, 0, none⟩ (.int .i64 (last + 2))).setCell ⟨v2.heap.size, 1, none⟩ (.slice A6 zl.length c6)) v2.heap.size (.int .i64 (last + 2)) (.slice A6 zl.length c6) ∧ (∀ u : Value, RowE enLg (((v3.setCell ⟨v2.heap.size, 0, none⟩ (.int .i64 (last + 2))).setCell ⟨v2.heap.size, 1, none⟩ (.slice A6 zl.length c6)).setCell ⟨v2.heap.size, 0, none⟩ u) A6 zl.length zl) ∧ RowE enLg ((v3.setCell ⟨v2.heap.size, 0, none⟩ (.int .i64 (last + 2))).setCell ⟨v2.heap.size, 1, none⟩ (.slice A6 zl.length c6)) A6 zl.length zl ∧ Grew wt ((v3.setCell ⟨v2.heap.size, 0, none⟩ (.int .i64 (last + 2))).setCell ⟨v2.heap.size, 1, none⟩ (.slice A6 zl.length c6)) ∧ wt.heap.size ≤ v2.heap.size := ⟨HW2.out.set _ _, fun u => (((hl6.set _ 0 _ (by simp)).set _ 1 _ (by simp)).set _ 0 u (by simp)).row, ((hl6.set _ 0 _ (by simp)).set _ 1 _ (by simp)).row, grew_set (grew_set HGv3.out _ HGv2.out.size) _ HGv2.out.size, HGv2.out.size⟩; (try clear t0 t1 t2 t3 t4); generalize ((v3.setCell ⟨v2.heap.size, 0, none⟩ (.int .i64 (last + 2))).setCell ⟨v2.heap.size, 1, none⟩ (.slice A6 zl.length c6)) = wF at *; generalize hTF : v2.heap.size = TF at *)
              | (have hX : Own2 (v3.alloc (.cells #[.int .i64 (last + 2), (.slice A6 zl.length c6)] 24)) v3.heap.size (.int .i64 (last + 2)) (.slice A6 zl.length c6) ∧ (∀ u : Value, RowE enLg ((v3.alloc (.cells #[.int .i64 (last + 2), (.slice A6 zl.length c6)] 24)).setCell ⟨v3.heap.size, 0, none⟩ u) A6 zl.length zl) ∧ RowE enLg (v3.alloc (.cells #[.int .i64 (last + 2), (.slice A6 zl.length c6)] 24)) A6 zl.length zl ∧ Grew wt (v3.alloc (.cells #[.int .i64 (last + 2), (.slice A6 zl.length c6)] 24)) ∧ wt.heap.size ≤ v3.heap.size := ⟨Own2.new _ _ _ _ _ rfl, fun u => hl6.row.keep (grew_set (grew_alloc _ _ _) _ (Nat.le_refl _)), hl6.row.keep (grew_alloc _ _ _), grew_trans HGv3.out (grew_alloc _ _ _), HGv3.out.size⟩; (try clear t0 t1 t2 t3 t4); generalize (v3.alloc (.cells #[.int .i64 (last + 2), (.slice A6 zl.length c6)] 24)) = wF at *; generalize hTF : v3.heap.size = TF at *)
            have HX := Lib.hid hX
            obtain ⟨⟨u0, u1, uf0, uf1, ul⟩, -, -, hgX, hTX⟩ := hX
            obtain ⟨-, p0, p1, -, hz5⟩ := HCt.out wF hgX
            clear hl6 hr6 hn6 hm5 hlt5 hTX
            go_wp2_with (first
              | (go_at_call 17; ((with_reducible refine (keep_yes (last + 2) A3 A6 zl.length c3 c6 zl _ (HCt.out _ HX.out.2.2.2.1).2.2.2.1 HX.out.2.2.1 (by have := HUL.out; omega)).mono ?_); rintro e w8 ⟨rfl, hg⟩; have HG8 := Lib.hid (grew_trans HGW.out (grew_trans (HCt.out _ HX.out.2.2.2.1).1 hg)); clear hg))
              | (go_at_call 21; ((with_reducible refine (WK _).mono ?_); rintro e w9 ⟨rfl, hg⟩; have HG9 := Lib.hid (grew_trans HG8.out hg); clear hg)))
            go_ret
            exact ⟨rfl, HG9.out⟩
        · go_simp
          refine hK.out _ _ ?_ (fun hHeld => ?_)
          · first
            | exact HS.out _ (grew_trans HGv3.out (grew_refl _))
            | exact HS.out _ (grew_trans HGv3.out (grew_drew (grew_refl _)))
            | exact HS.out _ (grew_trans HGv3.out (grew_drew (grew_alloc _ _ _)))
            | exact HS.out _ (grew_trans HGv3.out (grew_alloc _ _ _))
            | exact HS.out _ (grew_trans HGv2.out (grew_refl _))
            | exact HS.out _ (grew_trans HGv2.out (grew_drew (grew_refl _)))
            | exact HS.out _ (grew_trans HGv2.out (grew_drew (grew_alloc _ _ _)))
            | exact HS.out _ (grew_trans HGv2.out (grew_alloc _ _ _))
            | exact HS.out _ (grew_trans HGv1.out (grew_refl _))
            | exact HS.out _ (grew_trans HGv1.out (grew_drew (grew_refl _)))
            | exact HS.out _ (grew_trans HGv1.out (grew_drew (grew_alloc _ _ _)))
            | exact HS.out _ (grew_trans HGv1.out (grew_alloc _ _ _))
            | exact HS.out _ (grew_refl _)
            | exact HS.out _ (grew_drew (grew_refl _))
            | exact HS.out _ (grew_drew (grew_alloc _ _ _))
            | exact HS.out _ (grew_alloc _ _ _)
            | (trace_state; fail)
          clear hK K
          try simp only [Act.put, List.setIfInBounds_toArray, List.set_cons_zero, List.set_cons_succ]
          refine wpAnyH_ready (rs := [5]) (by kernel_rfl) (by simp) ?_
          refine (AllReadyH.cons (o := { dst := some 66, op := Op.call { callee := Callee.value (Operand.func 26), args := #[Operand.tmp 65], argTypes := #[25] }, type := 25, pos := "more.go:24", after := #[{ on := 4, ground := Ground.data }], guard := none }) rfl (fun K hK => ?_) AllReadyH.nil)
          go_simp
          (go_at_call 26; (first | (with_reducible refine (CTw _ (grew_refl _)).mono ?_) | (with_reducible refine (CTw _ (grew_drew (grew_refl _))).mono ?_) | (with_reducible refine (CTw _ (grew_drew (grew_alloc _ _ _))).mono ?_) | (with_reducible refine (CTw _ (grew_alloc _ _ _)).mono ?_)); rintro e v1 ⟨B5, d5, rfl, hm5, hg5⟩)
          have HS1 : Hid (Grew wt v1) := (by first | exact hg5 | exact grew_trans (grew_drew (grew_refl _)) hg5 | exact grew_trans (grew_drew (grew_alloc _ _ _)) hg5 | exact grew_trans (grew_alloc _ _ _) hg5)
          have HGv1 : Hid (Grew wt v1) := HS1
          (try have HW0 : Hid (Own2 v1 wt.heap.size (.int .i64 0) (.slice none 0 0)) := (Own2.new wt (.int .i64 0) (.slice none 0 0) 24 _ rfl).keep (by first | exact hg5 | exact grew_trans (grew_drew (grew_refl _)) hg5))
          (try obtain ⟨t0, t1, t2, t3, t4⟩ := HW0.out)
          have hlt5 := World.ownsRow.lt hm5.own
          refine hK.out _ _ ?_ (fun hHeld => ?_)
          · first
            | exact HS.out _ HGv1.out
          clear hK K
          try simp only [Act.put, List.setIfInBounds_toArray, List.set_cons_zero, List.set_cons_succ]
          refine wpAnyH_ready (rs := [7]) (by kernel_rfl) (by simp) ?_
          refine (AllReadyH.cons (o := { dst := some 68, op := Op.call { callee := Callee.builtin Builtin.append, args := #[Operand.tmp 66, Operand.tmp 67], argTypes := #[25, 25] }, type := 25, pos := "more.go:24", after := #[{ on := 5, ground := Ground.data }, { on := 6, ground := Ground.data }, { on := 5, ground := Ground.chain }], guard := none }) rfl (fun K hK => ?_) AllReadyH.nil)
          have HB5 : Hid (_ ≤ v1.heap.size) := Below.size hg5
          (first | (refine step_append_E2 rfl _ _ 25 53 (legV 0 0 0 0) 32 rfl Try.underlying25 info_lg rfl _ _ la (by rfl) (hm5.own.keep (grew_refl _)) D dn dc lb (by rfl) HDN.out (HJk.out _ (grew_trans HGv1.out (grew_refl _))) (by have := HLA.out; unfold maxLen; omega) (by have := HLA.out; omega) (Nat.le_trans HB5.out (Below.size (grew_refl _))) ?_) | (refine step_append_E2 rfl _ _ 25 53 (legV 0 0 0 0) 32 rfl Try.underlying25 info_lg rfl _ _ la (by rfl) (hm5.own.keep (grew_drew (grew_refl _))) D dn dc lb (by rfl) HDN.out (HJk.out _ (grew_trans HGv1.out (grew_drew (grew_refl _)))) (by have := HLA.out; unfold maxLen; omega) (by have := HLA.out; omega) (Nat.le_trans HB5.out (Below.size (grew_drew (grew_refl _)))) ?_) | (refine step_append_E2 rfl _ _ 25 53 (legV 0 0 0 0) 32 rfl Try.underlying25 info_lg rfl _ _ la (by rfl) (hm5.own.keep (grew_drew (grew_alloc _ _ _))) D dn dc lb (by rfl) HDN.out (HJk.out _ (grew_trans HGv1.out (grew_drew (grew_alloc _ _ _)))) (by have := HLA.out; unfold maxLen; omega) (by have := HLA.out; omega) (Nat.le_trans HB5.out (Below.size (grew_drew (grew_alloc _ _ _)))) ?_) | (refine step_append_E2 rfl _ _ 25 53 (legV 0 0 0 0) 32 rfl Try.underlying25 info_lg rfl _ _ la (by rfl) (hm5.own.keep (grew_alloc _ _ _)) D dn dc lb (by rfl) HDN.out (HJk.out _ (grew_trans HGv1.out (grew_alloc _ _ _))) (by have := HLA.out; unfold maxLen; omega) (by have := HLA.out; omega) (Nat.le_trans HB5.out (Below.size (grew_alloc _ _ _))) ?_))
          intro v6 v2 hv hb6 hgr6
          obtain ⟨B6, d6, rfl, hr6, hn6, -⟩ := hv.form
          rw [List.length_append, HLA.out, HLB.out] at hr6 ⊢
          have HGv2 : Hid (Grew wt v2) := grew_below (by first | exact HGv1.out | exact grew_trans HGv1.out (grew_drew (grew_refl _)) | exact grew_trans HGv1.out (grew_drew (grew_alloc _ _ _)) | exact grew_trans HGv1.out (grew_alloc _ _ _)) hb6 (by first | exact Nat.le_refl _ | simp)
          (try have HW0 : Hid (Own2 v2 wt.heap.size (.int .i64 0) (.slice none 0 0)) := Own2.grown (HW0.out.keep (by first | exact grew_refl _ | exact grew_drew (grew_refl _))) hgr6 (fun e => absurd (hlt5 _ e.symm).1 (by simp)))
          (try have HW1 : Hid (Own2 v2 v1.heap.size (.int .i64 0) (.slice none 0 0)) := Own2.grown (by first | exact (Own2.new v1 (.int .i64 0) (.slice none 0 0) 24 _ rfl) | exact (Own2.new v1 (.int .i64 0) (.slice none 0 0) 24 _ rfl).keep (grew_drew (grew_refl _))) hgr6 (fun e => absurd (hlt5 _ e.symm).2 (Nat.lt_irrefl _)))
          (try obtain ⟨t0, t1, t2, t3, t4⟩ := HW0.out)
          (try obtain ⟨t0, t1, t2, t3, t4⟩ := HW1.out)
          (try have HL0 : Hid (wt.heap.size < v2.heap.size) := HW0.out.lt)
          (try have HL1 : Hid (v1.heap.size < v2.heap.size) := HW1.out.lt)
          refine hK.out _ _ ?_ (fun hHeld => ?_)
          · first
            | exact HS.out _ HGv2.out
          clear hK K
          try simp only [Act.put, List.setIfInBounds_toArray, List.set_cons_zero, List.set_cons_succ]
          refine wpAnyH_ready (rs := [8]) (by kernel_rfl) (by simp) ?_
          refine (AllReadyH.cons (o := { dst := some 69, op := Op.call { callee := Callee.value (Operand.func 15), args := #[Operand.tmp 61, Operand.tmp 64, Operand.tmp 68], argTypes := #[24, 3, 25] }, type := 34, pos := "more.go:24", after := #[{ on := 0, ground := Ground.data }, { on := 3, ground := Ground.data }, { on := 7, ground := Ground.data }, { on := 7, ground := Ground.chain }], guard := none }) rfl (fun K hK => ?_) AllReadyH.nil)
          go_simp
          (go_at_call 15; (first | (with_reducible refine (CP2 _ (grew_trans HGv2.out (grew_refl _)) _ _ (hr6.keep (grew_refl _)) hn6).mono ?_) | (with_reducible refine (CP2 _ (grew_trans HGv2.out (grew_drew (grew_refl _))) _ _ (hr6.keep (grew_drew (grew_refl _))) hn6).mono ?_) | (with_reducible refine (CP2 _ (grew_trans HGv2.out (grew_drew (grew_alloc _ _ _))) _ _ (hr6.keep (grew_drew (grew_alloc _ _ _))) hn6).mono ?_) | (with_reducible refine (CP2 _ (grew_trans HGv2.out (grew_alloc _ _ _)) _ _ (hr6.keep (grew_alloc _ _ _)) hn6).mono ?_)); rintro e v3 ⟨A6, c6, rfl, hl6, hg6⟩)
          have HS3 : Hid (Grew v2 v3) := (by first | exact hg6 | exact grew_trans (grew_drew (grew_refl _)) hg6 | exact grew_trans (grew_drew (grew_alloc _ _ _)) hg6 | exact grew_trans (grew_alloc _ _ _) hg6)
          have HGv3 : Hid (Grew wt v3) := grew_trans HGv2.out HS3.out
          (try have HW0 := Lib.hid (HW0.out.keep HS3.out))
          (try have HW1 := Lib.hid (HW1.out.keep HS3.out))
          (try have HW2 : Hid (Own2 v3 v2.heap.size (.int .i64 0) (.slice none 0 0)) := (Own2.new v2 (.int .i64 0) (.slice none 0 0) 24 _ rfl).keep (by first | exact hg6 | exact grew_trans (grew_drew (grew_refl _)) hg6))
          (try obtain ⟨t0, t1, t2, t3, t4⟩ := HW0.out)
          (try obtain ⟨t0, t1, t2, t3, t4⟩ := HW1.out)
          (try obtain ⟨t0, t1, t2, t3, t4⟩ := HW2.out)
          refine hK.out _ _ ?_ (fun hHeld => ?_)
          · first
            | exact HS.out _ HGv3.out
          clear hK K
          try simp only [Act.put, List.setIfInBounds_toArray, List.set_cons_zero, List.set_cons_succ]
          (refine wpAnyH_take (i := 9) (oi := { dst := some 60, op := Op.move (Operand.tmp 69), type := 34, pos := "more.go:24", after := #[{ on := 8, ground := Ground.data }], guard := none }) (v := ?_) rfl (by kernel_rfl) (by kernel_rfl) (by kernel_rfl) (fun _ _ _ h => h) (Or.inl ⟨by rfl, ?_⟩) (by assumption) ?_; rotate_left; · (intro w hSw; (try dsimp only at hSw); go_simp; (first | done | with_reducible rfl)))
          try simp only [Act.put, List.setIfInBounds_toArray, List.set_cons_zero, List.set_cons_succ]
          (refine wpAnyH_take (i := 10) (oi := { dst := some 70, op := Op.extract (Operand.tmp 60) 0, type := 24, pos := "more.go:24", after := #[{ on := 9, ground := Ground.data }], guard := none }) (v := ?_) rfl (by kernel_rfl) (by kernel_rfl) (by kernel_rfl) (fun _ _ _ h => h) (Or.inl ⟨by rfl, ?_⟩) (by assumption) ?_; rotate_left; · (intro w hSw; (try dsimp only at hSw); go_simp; (first | done | with_reducible rfl)))
          try simp only [Act.put, List.setIfInBounds_toArray, List.set_cons_zero, List.set_cons_succ]
          (refine wpAnyH_take (i := 11) (oi := { dst := some 71, op := Op.extract (Operand.tmp 60) 1, type := 31, pos := "more.go:24", after := #[{ on := 9, ground := Ground.data }, { on := 13, ground := Ground.gcOnly Departure.lateStores }], guard := none }) (v := ?_) rfl (by kernel_rfl) (by kernel_rfl) (by kernel_rfl) (fun _ _ _ h => h) (Or.inl ⟨by rfl, ?_⟩) (by assumption) ?_; rotate_left; · (intro w hSw; (try dsimp only at hSw); go_simp; (first | done | with_reducible rfl)))
          try simp only [Act.put, List.setIfInBounds_toArray, List.set_cons_zero, List.set_cons_succ]
          refine wpAnyH_ready (rs := [13]) (by kernel_rfl) (by simp) ?_
          refine (AllReadyH.cons (o := { dst := none, op := Op.store 24 (Operand.tmp 13) (Operand.tmp 70), type := 0, pos := "more.go:24", after := #[{ on := 12, ground := Ground.data }, { on := 10, ground := Ground.data }, { on := 8, ground := Ground.chain }, { on := 0, ground := Ground.phase }, { on := 1, ground := Ground.phase }, { on := 2, ground := Ground.phase }, { on := 3, ground := Ground.phase }, { on := 4, ground := Ground.phase }, { on := 5, ground := Ground.phase }, { on := 6, ground := Ground.phase }, { on := 7, ground := Ground.phase }, { on := 8, ground := Ground.phase }, { on := 9, ground := Ground.phase }, { on := 10, ground := Ground.phase }, { on := 11, ground := Ground.textOnly Departure.lateStores }, { on := 12, ground := Ground.phase }], guard := none }) rfl (fun K hK => ?_) AllReadyH.nil)
          go_simp
          refine hK.out _ _ ?_ (fun hHeld => ?_)
          · first
            | exact HS.out _ (grew_set (grew_set HGv3.out _ (Nat.le_refl _)) _ (Nat.le_refl _))
            | exact HS.out _ (grew_drew (grew_set (grew_set HGv3.out _ (Nat.le_refl _)) _ (Nat.le_refl _)))
            | exact HS.out _ (grew_set (grew_set HGv3.out _ HGv1.out.size) _ HGv1.out.size)
            | exact HS.out _ (grew_drew (grew_set (grew_set HGv3.out _ HGv1.out.size) _ HGv1.out.size))
            | exact HS.out _ (grew_set (grew_set HGv3.out _ HGv2.out.size) _ HGv2.out.size)
            | exact HS.out _ (grew_drew (grew_set (grew_set HGv3.out _ HGv2.out.size) _ HGv2.out.size))
            | exact HS.out _ (grew_trans HGv3.out (grew_refl _))
            | exact HS.out _ (grew_trans HGv3.out (grew_drew (grew_refl _)))
            | exact HS.out _ (grew_trans HGv3.out (grew_drew (grew_alloc _ _ _)))
            | exact HS.out _ (grew_trans HGv3.out (grew_alloc _ _ _))
            | (trace_state; fail)
          clear hK K
          try simp only [Act.put, List.setIfInBounds_toArray, List.set_cons_zero, List.set_cons_succ]
          (refine wpAnyH_take (i := 14) (oi := { dst := some 10, op := Op.assign (Operand.tmp 71), type := 31, pos := "more.go:24", after := #[{ on := 11, ground := Ground.data }, { on := 13, ground := Ground.chain }, { on := 0, ground := Ground.phase }, { on := 1, ground := Ground.phase }, { on := 2, ground := Ground.phase }, { on := 3, ground := Ground.phase }, { on := 4, ground := Ground.phase }, { on := 5, ground := Ground.phase }, { on := 6, ground := Ground.phase }, { on := 7, ground := Ground.phase }, { on := 8, ground := Ground.phase }, { on := 9, ground := Ground.phase }, { on := 10, ground := Ground.phase }, { on := 11, ground := Ground.phase }, { on := 12, ground := Ground.phase }, { on := 13, ground := Ground.phase }], guard := none }) (v := ?_) rfl (by kernel_rfl) (by kernel_rfl) (by kernel_rfl) (fun _ _ _ h => h) (Or.inl ⟨by rfl, ?_⟩) (by assumption) ?_; rotate_left; · (intro w hSw; (try dsimp only at hSw); go_simp; (first | done | with_reducible rfl)))
          try simp only [Act.put, List.setIfInBounds_toArray, List.set_cons_zero, List.set_cons_succ]
          refine wpAnyH_done (by kernel_rfl) ?_ _
          clear hHeld
          first
            | (have hX : Own2 ((v3.setCell ⟨wt.heap.size, 0, none⟩ (.int .i64 (last + 2))).setCell ⟨wt.heap.size, 1, none⟩ (.slice A6 zl.length c6)) wt.heap.size (.int .i64 (last + 2)) (.slice A6 zl.length c6) ∧ (∀ u : Value, RowE enLg (((v3.setCell ⟨wt.heap.size, 0, none⟩ (.int .i64 (last + 2))).setCell ⟨wt.heap.size, 1, none⟩ (.slice A6 zl.length c6)).setCell ⟨wt.heap.size, 0, none⟩ u) A6 zl.length zl) ∧ RowE enLg ((v3.setCell ⟨wt.heap.size, 0, none⟩ (.int .i64 (last + 2))).setCell ⟨wt.heap.size, 1, none⟩ (.slice A6 zl.length c6)) A6 zl.length zl ∧ Grew wt ((v3.setCell ⟨wt.heap.size, 0, none⟩ (.int .i64 (last + 2))).setCell ⟨wt.heap.size, 1, none⟩ (.slice A6 zl.length c6)) ∧ wt.heap.size ≤ wt.heap.size := ⟨HW0.out.set _ _, fun u => (((hl6.set _ 0 _ HL0.out).set _ 1 _ HL0.out).set _ 0 u HL0.out).row, ((hl6.set _ 0 _ HL0.out).set _ 1 _ HL0.out).row, grew_set (grew_set HGv3.out _ (Nat.le_refl _)) _ (Nat.le_refl _), (Nat.le_refl _)⟩; (try clear t0 t1 t2 t3 t4); generalize ((v3.setCell ⟨wt.heap.size, 0, none⟩ (.int .i64 (last + 2))).setCell ⟨wt.heap.size, 1, none⟩ (.slice A6 zl.length c6)) = wF at *; generalize hTF : wt.heap.size = TF at *)
            | (have hX : Own2 ((v3.setCell ⟨v1.heap.size, 0, none⟩ (.int .i64 (last + 2))).setCell ⟨v1.heap.size, 1, none⟩ (.slice A6 zl.length c6)) v1.heap.size (.int .i64 (last + 2)) (.slice A6 zl.length c6) ∧ (∀ u : Value, RowE enLg (((v3.setCell ⟨v1.heap.size, 0, none⟩ (.int .i64 (last + 2))).setCell ⟨v1.heap.size, 1, none⟩ (.slice A6 zl.length c6)).setCell ⟨v1.heap.size, 0, none⟩ u) A6 zl.length zl) ∧ RowE enLg ((v3.setCell ⟨v1.heap.size, 0, none⟩ (.int .i64 (last + 2))).setCell ⟨v1.heap.size, 1, none⟩ (.slice A6 zl.length c6)) A6 zl.length zl ∧ Grew wt ((v3.setCell ⟨v1.heap.size, 0, none⟩ (.int .i64 (last + 2))).setCell ⟨v1.heap.size, 1, none⟩ (.slice A6 zl.length c6)) ∧ wt.heap.size ≤ v1.heap.size := ⟨HW1.out.set _ _, fun u => (((hl6.set _ 0 _ HL1.out).set _ 1 _ HL1.out).set _ 0 u HL1.out).row, ((hl6.set _ 0 _ HL1.out).set _ 1 _ HL1.out).row, grew_set (grew_set HGv3.out _ HGv1.out.size) _ HGv1.out.size, HGv1.out.size⟩; (try clear t0 t1 t2 t3 t4); generalize ((v3.setCell ⟨v1.heap.size, 0, none⟩ (.int .i64 (last + 2))).setCell ⟨v1.heap.size, 1, none⟩ (.slice A6 zl.length c6)) = wF at *; generalize hTF : v1.heap.size = TF at *)
            | (have hX : Own2 ((v3.setCell ⟨v2.heap.size, 0, none⟩ (.int .i64 (last + 2))).setCell ⟨v2.heap.size, 1, none⟩ (.slice A6 zl.length c6)) v2.heap.size (.int .i64 (last + 2)) (.slice A6 zl.length c6) ∧ (∀ u : Value, RowE enLg (((v3.setCell ⟨v2.heap.size, 0, none⟩ (.int .i64 (last + 2))).setCell ⟨v2.heap.size, 1, none⟩ (.slice A6 zl.length c6)).setCell ⟨v2.heap.size, 0, none⟩ u) A6 zl.length zl) ∧ RowE enLg ((v3.setCell ⟨v2.heap.size, 0, none⟩ (.int .i64 (last + 2))).setCell ⟨v2.heap.size, 1, none⟩ (.slice A6 zl.length c6)) A6 zl.length zl ∧ Grew wt ((v3.setCell ⟨v2.heap.size, 0, none⟩ (.int .i64 (last + 2))).setCell ⟨v2.heap.size, 1, none⟩ (.slice A6 zl.length c6)) ∧ wt.heap.size ≤ v2.heap.size := ⟨HW2.out.set _ _, fun u => (((hl6.set _ 0 _ (by simp)).set _ 1 _ (by simp)).set _ 0 u (by simp)).row, ((hl6.set _ 0 _ (by simp)).set _ 1 _ (by simp)).row, grew_set (grew_set HGv3.out _ HGv2.out.size) _ HGv2.out.size, HGv2.out.size⟩; (try clear t0 t1 t2 t3 t4); generalize ((v3.setCell ⟨v2.heap.size, 0, none⟩ (.int .i64 (last + 2))).setCell ⟨v2.heap.size, 1, none⟩ (.slice A6 zl.length c6)) = wF at *; generalize hTF : v2.heap.size = TF at *)
            | (have hX : Own2 (v3.alloc (.cells #[.int .i64 (last + 2), (.slice A6 zl.length c6)] 24)) v3.heap.size (.int .i64 (last + 2)) (.slice A6 zl.length c6) ∧ (∀ u : Value, RowE enLg ((v3.alloc (.cells #[.int .i64 (last + 2), (.slice A6 zl.length c6)] 24)).setCell ⟨v3.heap.size, 0, none⟩ u) A6 zl.length zl) ∧ RowE enLg (v3.alloc (.cells #[.int .i64 (last + 2), (.slice A6 zl.length c6)] 24)) A6 zl.length zl ∧ Grew wt (v3.alloc (.cells #[.int .i64 (last + 2), (.slice A6 zl.length c6)] 24)) ∧ wt.heap.size ≤ v3.heap.size := ⟨Own2.new _ _ _ _ _ rfl, fun u => hl6.row.keep (grew_set (grew_alloc _ _ _) _ (Nat.le_refl _)), hl6.row.keep (grew_alloc _ _ _), grew_trans HGv3.out (grew_alloc _ _ _), HGv3.out.size⟩; (try clear t0 t1 t2 t3 t4); generalize (v3.alloc (.cells #[.int .i64 (last + 2), (.slice A6 zl.length c6)] 24)) = wF at *; generalize hTF : v3.heap.size = TF at *)
          have HX := Lib.hid hX
          obtain ⟨⟨u0, u1, uf0, uf1, ul⟩, -, -, hgX, hTX⟩ := hX
          obtain ⟨-, p0, p1, -, hz5⟩ := HCt.out wF hgX
          clear hl6 hr6 hn6 hm5 hlt5 hTX
          go_wp2_with (first
            | (go_at_call 17; ((with_reducible refine (keep_yes (last + 2) A3 A6 zl.length c3 c6 zl _ (HCt.out _ HX.out.2.2.2.1).2.2.2.1 HX.out.2.2.1 (by have := HUL.out; omega)).mono ?_); rintro e w8 ⟨rfl, hg⟩; have HG8 := Lib.hid (grew_trans HGW.out (grew_trans (HCt.out _ HX.out.2.2.2.1).1 hg)); clear hg))
            | (go_at_call 21; ((with_reducible refine (WK _).mono ?_); rintro e w9 ⟨rfl, hg⟩; have HG9 := Lib.hid (grew_trans HG8.out hg); clear hg)))
          go_ret
          exact ⟨rfl, HG9.out⟩
      · have CQn := fun w' g => (CQ w' g).mono fun e w'' h => postR_no h1 h
        clear CQ HPB
        unfold ldV at CQn
        generalize postE (last + 1) tl (last + 2) lb = pe at *
        have d1 : (pe != 0) = true := by simpa using h1
        go_wp2_with (first
          | (go_at_call 15; ((with_reducible refine (CQn _ (grew_refl _)).mono ?_); rintro e w5 ⟨A3, c3, rfl, hn, hg⟩; have HG5 := Lib.hid hg; clear hg hn CQn))
          | (go_at_call 21; ((with_reducible refine (WK _).mono ?_); rintro e w9 ⟨rfl, hg⟩; have HG9 := Lib.hid (grew_trans HGW.out (grew_trans HG4.out (grew_trans HG5.out (grew_trans (grew_alloc _ _ _) hg)))); clear hg)))
        go_ret
        exact ⟨rfl, HG9.out⟩
    · have CPn := fun w' g => (CP w' g).mono fun e w'' h => postR_no h0 h
      clear CP
      unfold ldV at CPn
      generalize postE last bl (last + 1) la = pe at *
      have d1 : (pe != 0) = true := by simpa using h0
      have CQ := fun A2 c2 w' (g : Grew w2 w') => lpost_any 0 1 A2 D 0 c2 dn dc [] lb w' (RowE.nil _ _ _) (HJ.out.keep (grew_trans HGW.out g)) HDN.out (by omega) (by omega)
      unfold PostP ldV at CQ
      go_wp2_with (first
        | (go_at_call 15; ((with_reducible refine (CPn _ (grew_refl _)).mono ?_); rintro e w3 ⟨A2, c2, rfl, hn, hg⟩; have HG3 := Lib.hid hg; clear hg hn CPn))
        | (go_at_call 15; ((with_reducible refine (CQ _ _ _ (grew_trans HG3.out (grew_alloc _ _ _))).mono ?_); rintro e w5 ⟨A3, c3, rfl, hn, hg⟩; have HG5 := Lib.hid hg; clear hg hn CQ))
        | (go_at_call 21; ((with_reducible refine (WK _).mono ?_); rintro e w9 ⟨rfl, hg⟩; have HG9 := Lib.hid (grew_trans HGW.out (grew_trans HG3.out (grew_trans (grew_alloc _ _ _) (grew_trans HG5.out (grew_trans (grew_alloc _ _ _) hg))))); clear hg)))
      go_ret
      exact ⟨rfl, HG9.out⟩
  · have CH := heavy_not (c := c) h hf
    clear h h2 h3 hB hD hf
    go_enter Try.func8, Try.ntmps8
    go_wp2_with (go_at_call 22; ((with_reducible refine CH.mono ?_); rintro e w1 ⟨rfl, rfl⟩; clear CH))
    go_ret
    exact ⟨rfl, grew_refl _⟩
end Go.Proofs.Ytafglljfgoeapaa.NumK
namespace Go.Proofs.Ytafglljfgoeapaa.ledgerParts
open Go.ChangeShapes Go.WideShapes Go.ChangeAt Go.RowKit
set_option linter.unusedVariables false

theorem own : ownKnob Try.prog.godebug = none := by kernel_rfl
theorem laidOut : laidOutB Try.prog = true := by kernel_rfl

set_option maxRecDepth 100000 in
theorem lifted (os : Os) (started : os.Started) (H : Type) (enc : TypeId × Value → H) :
    ReturnsInHanded {} Try.checked os 8 .any (Rows.ledgerPartsSpec.pre6 enc Try.prog Try.f8 Rows.ledgerPartsRow.domain false) (Rows.ledgerPartsSpec.post enc Try.prog Try.f8 false true false false) := by
  refine returnsInHanded_of_change (C := Try.checked) own started (by kernel_rfl) Try.func8
    (ChangeSpec.witness6 (enc := enc) (C := Try.checked) false ⟨#[], #[.slice none 0 0, .slice none 0 0, .slice none 0 0], []⟩ 8 (by kernel_rfl) (by kernel_rfl) (by kernel_rfl) (by kernel_rfl)) ?_
  intro W base args ds gs before hval0 hW hcnd _
  have hval : ∀ (j : Nat) t v, Try.f8.params[j]? = some t → args[j]? = some v → Value.okWide Try.prog W .any base t v := hval0
  have hW' := hW
  obtain ⟨p, q, hA0, hV, rfl, hfz, hnd⟩ := hW
  have hA : DataW.TrodAll enc Try.prog W 0 (fun _ => true) true Try.f8.params.toList args.toList ds p := hA0
  skip
  rw [Try.params8] at hA hval
  obtain ⟨v0, vs0, d0, ds0, p0, q0, hargs, rfl, rfl, h0, r0⟩ := trodAll_cons hA
  obtain ⟨v1, vs1, d1, ds1, p1, q1, rfl, rfl, rfl, h1, r1⟩ := trodAll_cons r0
  obtain ⟨v2, vs2, d2, ds2, p2, q2, rfl, rfl, rfl, h2, r2⟩ := trodAll_cons r1
  obtain ⟨rfl, rfl, rfl⟩ := trodAll_nil r2
  obtain rfl : args = #[v0, v1, v2] := by cases args; simp_all
  obtain ⟨rfl, rfl⟩ := trodVars_none hV
  have k0 := h0
  have lt0 : ∀ x ∈ p0, x.block < W.heap.size := by obtain ⟨m, hm⟩ := k0; exact DataW.trod_lt m _ _ _ hm
  obtain ⟨A0, len0, cap0, l0, rfl, ro0, n0, c0, m0⟩ := NumK.arg_slice Try.underlying45 NumK.opens_posts (hval 0 45 v0 rfl rfl) h0
  have k1 := h1
  have lt1 : ∀ x ∈ p1, x.block < W.heap.size := by obtain ⟨m, hm⟩ := k1; exact DataW.trod_lt m _ _ _ hm
  obtain ⟨A1, len1, cap1, l1, rfl, ro1, n1, c1, m1⟩ := NumK.arg_slice Try.underlying25 NumK.opens_legs (hval 1 25 v1 rfl rfl) h1
  have k2 := h2
  have lt2 : ∀ x ∈ p2, x.block < W.heap.size := by obtain ⟨m, hm⟩ := k2; exact DataW.trod_lt m _ _ _ hm
  obtain ⟨A2, len2, cap2, l2, rfl, ro2, n2, c2, m2⟩ := NumK.arg_slice Try.underlying25 NumK.opens_legs (hval 2 25 v2 rfl rfl) h2
  clear hA0 hval0
  refine (NumK.ledgerParts_walk A0 A1 A2 len0 cap0 len1 cap1 len2 cap2 l0 l1 l2 W (NumK.posts_of_row ro0) (NumK.legs_of_row ro1) n1 (by omega) (NumK.legs_of_row ro2) n2 (by omega)).mono fun e W' ⟨he, bel⟩ => ?_
  subst he
  exact ⟨_, rfl, _, _, _, [], _, [], hW', trodAll_mk1 (shut_bool Try.underlying4 _), (trodAll_cons_mk (Below.trod laidOut (by kernel_rfl) (of_decide_eq_true (by kernel_rfl)) k0 bel lt0) (trodAll_cons_mk (Below.trod laidOut (by kernel_rfl) (of_decide_eq_true (by kernel_rfl)) k1 bel lt1) (trodAll_cons_mk (Below.trod laidOut (by kernel_rfl) (of_decide_eq_true (by kernel_rfl)) k2 bel lt2) trodAll_mk0))), rfl, bel.frame _, fun h => by cases h⟩

theorem over : Rows.ledgerPartsRow.holds Try.pinned (OpenSpec.ofChange Rows.ledgerPartsSpec) :=
  OpenClaim.holds_of_wide 8 Try.f8 rfl rfl rfl rfl rfl rfl rfl ⟨rfl, rfl, rfl, rfl, rfl⟩ rfl rfl rfl rfl rfl (by kernel_rfl) Try.func8 (by kernel_rfl)
    (of_decide_eq_true (by kernel_rfl)) (by unfold Func.isWrapper; first | (rw [if_pos (by decide +kernel)]; kernel_rfl) | (rw [if_neg (by decide +kernel)]; exact ⟨rfl, rfl⟩))
    (fun os started H enc _ => lifted os started H enc)

/-! ### the statement -/
theorem proved : Rows.LedgerPartsSaid := over
end Go.Proofs.Ytafglljfgoeapaa.ledgerParts
