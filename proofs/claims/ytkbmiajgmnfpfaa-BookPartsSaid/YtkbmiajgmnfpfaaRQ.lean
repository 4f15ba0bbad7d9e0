/- Books in memory; book.Check, Of, in, Sum, Clear; slices.Clone. -/
import Derived.Test.YtkbmiajgmnfpfaaRP2
import Derived.Lib.Walk
import Derived.Lib.SliceRun
import Derived.Test.YtkbmiajgmnfpfaaRA2
import Derived.Test.YtkbmiajgmnfpfaaRO
import Derived.Deep.DeepCutAuto
namespace Go.Proofs.Ytkbmiajgmnfpfaa.NumK
open Go.RowKit
set_option linter.unusedVariables false

abbrev vBk (next : Int) (A1 A2 : Option Addr) (n1 n2 c1 c2 : Nat) : Value := .agg #[.int .i64 next, .slice A1 n1 c1, .slice A2 n2 c2]
theorem info_bk : (Try.prog.info? 25).map (fun i => (i.zero, i.size)) = some (some (vBk 0 none none 0 0 0 0), 3) := by kernel_rfl
/-- What of a book's slices is known whoever owns them. -/
structure InB (w : World) (b : Bk) (A1 A2 : Option Addr) (n1 n2 c1 c2 : Nat) : Prop where
  t : RowE enTr w A1 n1 b.2.1
  p : RowE enPo w A2 n2 b.2.2
  k1 : A1 = none → c1 = 0
  k2 : A2 = none → c2 = 0
  l1 : n1 ≤ c1 ∧ c1 ≤ 9223372036854775807
  l2 : n2 ≤ c2 ∧ c2 ≤ 9223372036854775807
structure OwnB (w : World) (base : Nat) (b : Bk) (A1 A2 : Option Addr) (c1 c2 : Nat) : Prop where
  t : OwnE enTr w base 49 (.slice A1 b.2.1.length c1) b.2.1
  p : OwnE enPo w base 36 (.slice A2 b.2.2.length c2) b.2.2
  ne : Apart A1 A2
section
variable {w w' : World} {base : Nat} {b : Bk} {A1 A2 : Option Addr} {n1 n2 c1 c2 : Nat}
theorem InB.keep (h : InB w b A1 A2 n1 n2 c1 c2) (g : Grew w w') : InB w' b A1 A2 n1 n2 c1 c2 := ⟨h.t.keep g, h.p.keep g, h.k1, h.k2, h.l1, h.l2⟩
theorem OwnB.keep (h : OwnB w base b A1 A2 c1 c2) (g : Grew w w') : OwnB w' base b A1 A2 c1 c2 := ⟨h.t.keep g, h.p.keep g, h.ne⟩
theorem OwnB.mono {b2 : Nat} (h : OwnB w base b A1 A2 c1 c2) (hb : b2 ≤ base) : OwnB w b2 b A1 A2 c1 c2 := ⟨h.t.mono hb, h.p.mono hb, h.ne⟩
theorem OwnB.in (h : OwnB w base b A1 A2 c1 c2) : InB w b A1 A2 b.2.1.length b.2.2.length c1 c2 :=
  ⟨(own_form h.t).1, (own_form h.p).1, (own_form h.t).2.1, (own_form h.p).2.1, (own_form h.t).2.2, (own_form h.p).2.2⟩
theorem OwnB.nil (w : World) (base : Nat) : OwnB w base bk0 none none 0 0 := ⟨OwnE.nil _ _ _ _, OwnE.nil _ _ _ _, fun x y h => by cases h⟩
end
/-- A book that a call hands back. -/
def BookP (b : Bk) (w : World) (e : Ending) (w' : World) : Prop :=
  ∃ A1 A2 c1 c2, e = .returned (vBk b.1 A1 A2 b.2.1.length b.2.2.length c1 c2) ∧ OwnB w' w.heap.size b A1 A2 c1 c2 ∧ Grew w w'
/-- A book and an error. -/
def BookE (b : Bk) (n : Int) (w : World) (e : Ending) (w' : World) : Prop :=
  ∃ A1 A2 c1 c2, e = .returned (.tuple #[vBk b.1 A1 A2 b.2.1.length b.2.2.length c1 c2, .int .i64 n]) ∧ OwnB w' w.heap.size b A1 A2 c1 c2 ∧ Grew w w'
/-- A book, a number and an error. -/
def BookN (b : Bk) (no n : Int) (w : World) (e : Ending) (w' : World) : Prop :=
  ∃ A1 A2 c1 c2, e = .returned (.tuple #[vBk b.1 A1 A2 b.2.1.length b.2.2.length c1 c2, .int .i64 no, .int .i64 n]) ∧ OwnB w' w.heap.size b A1 A2 c1 c2 ∧ Grew w w'

def chkB (b : Bk) : Int := if rightB b then 0 else 14
theorem chkB_yes {b : Bk} (h : rightB b = true) : chkB b = 0 := by unfold chkB; rw [if_pos h]
theorem chkB_no {b : Bk} (h : rightB b = false) : chkB b = 14 := by unfold chkB; rw [h]; rfl

set_option maxRecDepth 100000 in
set_option maxHeartbeats 1000000 in
theorem bcheck_any (b : Bk) (A1 A2 : Option Addr) (n1 n2 c1 c2 : Nat) (w : World) (h : InB w b A1 A2 n1 n2 c1 c2) (hn : n1 ≤ 100000 ∧ n2 ≤ 100000) :
    Calls Try.prog 13 #[vBk b.1 A1 A2 n1 n2 c1 c2] w fun e w' => e = .returned (.int .i64 (chkB b)) ∧ Grew w w' := by
  have C1 := fun w' => bwithin_any b.1 0 1099511627776 w'
  have C2 := fun w' (g : Grew w w') => rightPoss_any A2 n2 c2 b.2.2 w' (h.p.keep g) hn.2
  have C3 := fun w' (g : Grew w w') => rightTrades_any A1 n1 c1 b.2.1 b.1 w' (h.t.keep g) hn.1
  have HR : Hid (chkB b = if (wi b.1 0 1099511627776 && rightTs b.1 b.2.1 && rightPs b.2.2) = true then 0 else 14) := rfl
  have HX0 : Hid (OwnC (w.alloc (.cells #[.int .i64 b.1, .slice A1 n1 c1, .slice A2 n2 c2] 25)) w.heap.size [.int .i64 b.1, .slice A1 n1 c1, .slice A2 n2 c2]) := OwnC.new w [.int .i64 b.1, .slice A1 n1 c1, .slice A2 n2 c2] _ _ rfl
  clear h
  generalize chkB b = V at *
  generalize rightTs b.1 b.2.1 = R3 at *
  generalize rightPs b.2.2 = R2 at *
  generalize b.1 = nx at *
  generalize wi nx 0 1099511627776 = R1 at *
  dsimp only [vBk]
  have H : (R1 = false) ∨ (R1 = true ∧ R2 = false) ∨ (R1 = true ∧ R2 = true) := by cases R1 <;> cases R2 <;> simp
  rcases H with rfl | ⟨rfl, rfl⟩ | ⟨rfl, rfl⟩
  · have HF : Hid (V = 14) := by show _ = _; rw [HR.out]; rfl
    clear HR
    go_enter Try.func13, Try.ntmps13
    go_wp2_with (go_at_call 33; ((with_reducible refine (C1 _).mono ?_); rintro e w1 ⟨rfl, rfl⟩))
    go_ret
    exact ⟨ret_i HF.out.symm, grew_alloc _ _ _⟩
  · have HF : Hid (V = 14) := by show _ = _; rw [HR.out]; cases R3 <;> rfl
    clear HR
    go_enter Try.func13, Try.ntmps13
    go_wp2_with (first
      | (go_at_call 33; ((with_reducible refine (C1 _).mono ?_); rintro e w1 ⟨rfl, rfl⟩))
      | (go_at_call 34; ((with_reducible refine (C2 _ (grew_alloc _ _ _)).mono ?_); rintro e w2 ⟨rfl, hg⟩; have HG2 := Lib.hid (own_back hg); clear hg)))
    go_ret
    exact ⟨ret_i HF.out.symm, HG2.out⟩
  · cases R3
    all_goals
      (have HF := Lib.hid HR.out
       simp only [Bool.and_true, Bool.and_false, if_true, Bool.false_eq_true, if_false] at HF
       clear HR
       go_enter Try.func13, Try.ntmps13
       go_wp2_with (first
         | (go_at_call 33; ((with_reducible refine (C1 _).mono ?_); rintro e w1 ⟨rfl, rfl⟩))
         | (go_at_call 34; ((with_reducible refine (C2 _ (grew_alloc _ _ _)).mono ?_); rintro e w2 ⟨rfl, hg⟩; have HG2 := Lib.hid (own_back hg); have x0 : w2.cell? ⟨w.heap.size, 0, none⟩ = some (.int .i64 nx) := (HX0.out.keep hg).at 0 _ rfl; have x1 : w2.cell? ⟨w.heap.size, 1, none⟩ = some (.slice A1 n1 c1) := (HX0.out.keep hg).at 1 _ rfl; clear hg))
         | (go_at_call 35; ((with_reducible refine (C3 _ HG2.out).mono ?_); rintro e w3 ⟨rfl, hg⟩; have HG3 := Lib.hid (grew_trans HG2.out hg); clear hg)))
       go_ret
       exact ⟨ret_i HF.out.symm, HG3.out⟩)

/-! ### slices.Clone -/
theorem clonePo_any (A : Option Addr) (n c : Nat) (l : List Po) (w : World) (h : RowE enPo w A n l) (hA : A = none → c = 0) (hn : n ≤ 1000000) :
    Calls Try.prog 48 #[.slice A n c] w fun e w' => ∃ A' c', e = .returned (.slice A' n c') ∧ OwnE enPo w' w.heap.size 36 (.slice A' n c') l ∧ Grew w w' := by
  have q22 : ∀ (w : World) (a : Option Addr) (n c n' c' : Nat), (binOp .eql 23 (.slice a n c) (.slice none n' c')).run Try.prog w = .ok (.bool a.isNone) w := fun w a n c n' c' => Lib.run_eql_slice_nil w _ _ a n c n' c' Try.underlying23
  have HL := Lib.hid h.len
  cases A with
  | none =>
    obtain rfl := hA rfl
    obtain rfl : n = 0 := by
      rcases Nat.eq_zero_or_pos n with h1 | h1
      · exact h1
      · obtain ⟨b, o, e, _⟩ := h.2 h1; cases e
    obtain rfl := List.eq_nil_of_length_eq_zero h.len
    go_enter Try.func48, Try.ntmps48
    go_wp2
    go_ret
    exact ⟨none, 0, rfl, OwnE.nil _ _ _ _, grew_refl _⟩
  | some ad =>
    have HI := Lib.hid h
    clear h hA
    obtain ⟨ab, ao, asp⟩ := ad
    go_enter Try.func48, Try.ntmps48
    go_wp2_with (at_builtin; refine (wpList_append_E rfl _ _ 23 36 (vPo po0) 32 rfl Try.underlying23 info_po rfl w.heap.size _ [] rfl (OwnE.empty enPo w _ _ (Nat.le_refl _)) _ n c l rfl (by intro h; cases h) (HI.out.keep (grew_alloc _ _ _)) (by simp; unfold maxLen; omega) (by simp; omega) (by simp) ?_); intro v' w' ho hb; rw [List.nil_append] at ho; have HP := Lib.hid ho; have HB : Hid (Grew w w') := Below.trans (grew_alloc _ _ _) hb; clear ho hb)
    go_ret
    obtain ⟨A', c', rfl, -⟩ := HP.out.form
    rw [HL.out] at HP
    exact ⟨A', c', by rw [HL.out]; rfl, HP.out, HB.out⟩
theorem cloneTr_any (A : Option Addr) (n c : Nat) (l : List Tr) (w : World) (h : RowE enTr w A n l) (hA : A = none → c = 0) (hn : n ≤ 1000000) :
    Calls Try.prog 45 #[.slice A n c] w fun e w' => ∃ A' c', e = .returned (.slice A' n c') ∧ OwnE enTr w' w.heap.size 49 (.slice A' n c') l ∧ Grew w w' := by
  have q22 : ∀ (w : World) (a : Option Addr) (n c n' c' : Nat), (binOp .eql 22 (.slice a n c) (.slice none n' c')).run Try.prog w = .ok (.bool a.isNone) w := fun w a n c n' c' => Lib.run_eql_slice_nil w _ _ a n c n' c' Try.underlying22
  have HL := Lib.hid h.len
  cases A with
  | none =>
    obtain rfl := hA rfl
    obtain rfl : n = 0 := by
      rcases Nat.eq_zero_or_pos n with h1 | h1
      · exact h1
      · obtain ⟨b, o, e, _⟩ := h.2 h1; cases e
    obtain rfl := List.eq_nil_of_length_eq_zero h.len
    go_enter Try.func45, Try.ntmps45
    go_wp2
    go_ret
    exact ⟨none, 0, rfl, OwnE.nil _ _ _ _, grew_refl _⟩
  | some ad =>
    have HI := Lib.hid h
    clear h hA
    obtain ⟨ab, ao, asp⟩ := ad
    go_enter Try.func45, Try.ntmps45
    go_wp2_with (at_builtin; refine (wpList_append_E rfl _ _ 22 49 (vTr tr0) 56 rfl Try.underlying22 info_tr rfl w.heap.size _ [] rfl (OwnE.empty enTr w _ _ (Nat.le_refl _)) _ n c l rfl (by intro h; cases h) (HI.out.keep (grew_alloc _ _ _)) (by simp; unfold maxLen; omega) (by simp; omega) (by simp) ?_); intro v' w' ho hb; rw [List.nil_append] at ho; have HP := Lib.hid ho; have HB : Hid (Grew w w') := Below.trans (grew_alloc _ _ _) hb; clear ho hb)
    go_ret
    obtain ⟨A', c', rfl, -⟩ := HP.out.form
    rw [HL.out] at HP
    exact ⟨A', c', by rw [HL.out]; rfl, HP.out, HB.out⟩
end Go.Proofs.Ytkbmiajgmnfpfaa.NumK
namespace Go.Proofs.Ytkbmiajgmnfpfaa.NumK
open Go.RowKit
set_option linter.unusedVariables false

set_option maxRecDepth 100000 in
set_option maxHeartbeats 2000000 in
theorem clear_any (b : Bk) (A1 A2 : Option Addr) (n1 n2 c1 c2 : Nat) (w : World) (h : InB w b A1 A2 n1 n2 c1 c2) (hn : n2 ≤ 100000) :
    Calls Try.prog 22 #[vBk b.1 A1 A2 n1 n2 c1 c2] w (BookP (clearB b) w) := by
  have HL2 := Lib.hid h.p.len
  have CC := fun w' (g : Grew w w') => clonePo_any A2 n2 c2 b.2.2 w' (h.p.keep g) h.k2 (by omega)
  clear h
  have HB : Hid (clearB b = (b.1, [], b.2.2)) := rfl
  dsimp only [vBk]
  have HX0 : Hid (OwnC ((w.alloc (.cells #[.int .i64 b.1, .slice A1 n1 c1, .slice A2 n2 c2] 25)).alloc (.cells #[.int .i64 0, .slice none 0 0, .slice none 0 0] 25)) w.heap.size [.int .i64 b.1, .slice A1 n1 c1, .slice A2 n2 c2]) := (OwnC.new w [.int .i64 b.1, .slice A1 n1 c1, .slice A2 n2 c2] _ _ rfl).keep (grew_alloc _ _ _)
  have HY0 : Hid (OwnC ((w.alloc (.cells #[.int .i64 b.1, .slice A1 n1 c1, .slice A2 n2 c2] 25)).alloc (.cells #[.int .i64 0, .slice none 0 0, .slice none 0 0] 25)) (w.heap.size + 1) [.int .i64 0, .slice none 0 0, .slice none 0 0]) := OwnC.new _ [.int .i64 0, .slice none 0 0, .slice none 0 0] _ _ (by simp)
  have HG0 : Hid (Grew w ((w.alloc (.cells #[.int .i64 b.1, .slice A1 n1 c1, .slice A2 n2 c2] 25)).alloc (.cells #[.int .i64 0, .slice none 0 0, .slice none 0 0] 25))) := grew_trans (grew_alloc _ _ _) (grew_alloc _ _ _)
  generalize b.1 = nx at *
  go_enter Try.func22, Try.ntmps22
  go_upto_region 1 with fail
  generalize (w.alloc (.cells #[.int .i64 nx, .slice A1 n1 c1, .slice A2 n2 c2] 25)).alloc (.cells #[.int .i64 0, .slice none 0 0, .slice none 0 0] 25) = w0 at *
  have HSZ : Hid (w.heap.size + 2 ≤ w0.heap.size) := by have := HY0.out.lt; show _ ≤ _; omega
  have HS : Hid (∀ w', Grew w0 w' → w'.cell? ⟨w.heap.size, 0, none⟩ = some (.int .i64 nx) ∧ w'.cell? ⟨w.heap.size, 2, none⟩ = some (.slice A2 n2 c2)) := fun w' g => ⟨(HX0.out.keep g).at 0 _ rfl, (HX0.out.keep g).at 2 _ rfl⟩
  go_region_held3 (fun w' => w'.cell? ⟨w.heap.size, 0, none⟩ = some (.int .i64 nx) ∧ w'.cell? ⟨w.heap.size, 2, none⟩ = some (.slice A2 n2 c2))
    (first
      | exact ⟨HXP.out.at 0 _ rfl, HXP.out.at 2 _ rfl⟩
      | exact HS.out _ HG3.out
      | exact HS.out _ (grew_drew (grew_refl _))
      | (trace_state; fail))
    ((go_at_call 48; (with_reducible refine (CC _ (grew_drew HG0.out)).mono ?_); rintro e w3 ⟨A', c', rfl, ho, hg⟩; have HG3 : Hid (Grew w0 w3) := grew_trans (grew_drew (grew_refl _)) hg; have HO := Lib.hid ho; have HX3 := Lib.hid (HX0.out.keep HG3.out); have HY3 := Lib.hid (HY0.out.keep HG3.out); have HXP : Hid (OwnC (putC w3 (w.heap.size + 1) 0 [.int .i64 nx, .slice none 0 0, .slice A' n2 c']) w.heap.size [.int .i64 nx, .slice A1 n1 c1, .slice A2 n2 c2]) := OwnC.putO (by omega) _ _ _ HX3.out; have y0 : w3.cell? ⟨w.heap.size + 1, 0, none⟩ = some (.int .i64 0) := HY3.out.at 0 _ rfl; have y1 : w3.cell? ⟨w.heap.size + 1, 1, none⟩ = some (.slice none 0 0) := HY3.out.at 1 _ rfl; have y2 : w3.cell? ⟨w.heap.size + 1, 2, none⟩ = some (.slice none 0 0) := HY3.out.at 2 _ rfl; have f0 : w3.frozen? ⟨w.heap.size + 1, 0, none⟩ = false := HY3.out.fr 0 (by decide); have f1 : w3.frozen? ⟨w.heap.size + 1, 1, none⟩ = false := HY3.out.fr 1 (by decide); have f2 : w3.frozen? ⟨w.heap.size + 1, 2, none⟩ = false := HY3.out.fr 2 (by decide); clear ho hg))
  have HYP := Lib.hid (HY3.out.all [.int .i64 nx, .slice none 0 0, .slice A' n2 c'] rfl)
  have HGP := Lib.hid (grew_put (w.heap.size + 1) (Nat.le_succ _) [.int .i64 nx, .slice none 0 0, .slice A' n2 c'] 0 _ (grew_trans HG0.out HG3.out))
  have HOP := Lib.hid (OwnE.put (b := w.heap.size + 1) (base := w.heap.size + 2) (by omega) [.int .i64 nx, .slice none 0 0, .slice A' n2 c'] 0 _ (HO.out.mono HSZ.out))
  change Exit.then _ _ _ _ (putC w3 (w.heap.size + 1) 0 [.int .i64 nx, .slice none 0 0, .slice A' n2 c'])
  generalize putC w3 (w.heap.size + 1) 0 [.int .i64 nx, .slice none 0 0, .slice A' n2 c'] = w9 at *
  clear y0 y1 y2 f0 f1 f2 HY3 HX3 HXP HS
  have z0 : w9.cell? ⟨w.heap.size + 1, 0, none⟩ = _ := HYP.out.at 0 _ rfl
  have z1 : w9.cell? ⟨w.heap.size + 1, 1, none⟩ = _ := HYP.out.at 1 _ rfl
  have z2 : w9.cell? ⟨w.heap.size + 1, 2, none⟩ = _ := HYP.out.at 2 _ rfl
  apply_assumption
  go_wp2
  refine bodyPost_ret (v := .agg #[.int .i64 nx, .slice none 0 0, .slice A' n2 c']) (by simp [results, Try.results22, go_sem, z0, z1, z2]) rfl ?_
  rw [HB.out]
  rw [← HL2.out] at HOP ⊢
  exact ⟨none, A', 0, c', rfl, ⟨OwnE.nil _ _ _ _, HOP.out.mono (by omega), fun x y h => by cases h⟩, HGP.out⟩
end Go.Proofs.Ytkbmiajgmnfpfaa.NumK
namespace Go.Proofs.Ytkbmiajgmnfpfaa.NumK
open Go.RowKit
set_option linter.unusedVariables false

theorem filt_len (l : List Po) (p : Po → Bool) (j : Nat) : ((l.take j).filter p).length ≤ j := Nat.le_trans (List.length_filter_le _ _) (by rw [List.length_take]; omega)

set_option maxRecDepth 100000 in
set_option maxHeartbeats 2000000 in
theorem bin_any (A : Option Addr) (n c : Nat) (l : List Po) (m : Int) (w : World) (h : RowE enPo w A n l) (hn : n ≤ 100000) :
    Calls Try.prog 30 #[.slice A n c, .int .i64 m] w fun e w' => ∃ A' c', e = .returned (.slice A' (l.filter (isI m)).length c') ∧ OwnE enPo w' w.heap.size 36 (.slice A' (l.filter (isI m)).length c') (l.filter (isI m)) ∧ Grew w w' := by
  have HI := Lib.hid h
  have HL := Lib.hid h.len
  clear h
  go_enter Try.func30, Try.ntmps30
  go_wp2
  go_loopw [5, 10] (fun v5 v10 wr => ∃ j : Nat, v10 = .int .i64 j ∧ j ≤ n ∧ Hid (OwnE enPo wr w.heap.size 36 v5 ((l.take j).filter (isI m))) ∧ Hid (Grew w wr)) (fun _ v10 _ => n - (intOf v10).toNat)
  case atStart => exact ⟨0, rfl, by omega, OwnE.nil _ _ _ _, grew_refl _⟩
  case round =>
    obtain ⟨j, rfl, hj, HO, HG⟩ := hrel
    by_cases hlt : j < n
    · have hjl : j < l.length := by rw [HL.out]; exact hlt
      obtain ⟨b, o, rfl, hb, hc⟩ := (HI.out.keep HG.out).po hlt
      obtain ⟨a0, a1, a2, a3⟩ := hc j hlt
      have HS := Lib.hid (filter_take_succ (isI m) l po0 j hjl)
      have HLN := Lib.hid (filt_len l (isI m) j)
      have HM : Hid (isI m (l.getD j po0) = decide ((l.getD j po0).2.1 = m)) := rfl
      have i0 : (0 : Int) ≤ (j : Int) := by omega
      have i1 : (j : Int) < (n : Int) := by omega
      have HW : Hid (w.heap.size ≤ wr.heap.size) := HG.out.size
      clear hc hb
      generalize (l.take j).filter (isI m) = lj at *
      generalize isI m (l.getD j po0) = im at *
      generalize l.getD j po0 = x at *
      obtain ⟨q1, q2, q3, q4⟩ := x
      dsimp only at a0 a1 a2 a3 HM
      by_cases hm : q2 = m
      · have HS2 : Hid ((l.take (j + 1)).filter (isI m) = lj ++ [(q1, q2, q3, q4)]) := by show _ = _; rw [HS.out, HM.out, decide_eq_true hm]; rfl
        subst hm
        clear HS HM
        go_wp2_with (at_builtin; refine (wpList_append_E rfl _ _ 23 36 (vPo po0) 32 rfl Try.underlying23 info_po rfl w.heap.size _ lj rfl ((HO.out.keep (grew_alloc _ _ _)).keep (grew_alloc _ _ _)) _ 1 1 [(q1, q2, q3, q4)] rfl (by intro h; cases h) (RowE.one1 enPo _ _ _ _ _ (by simp) rfl) (by have := HLN.out; simp; unfold maxLen; omega) (by have := HLN.out; omega) (Nat.le_trans HW.out (by simp; omega)) ?_); intro v' w' ho hb; have HP := Lib.hid ho; have HB : Hid (Grew w w') := Below.trans (grew_trans HG.out (grew_trans (grew_alloc _ _ _) (grew_alloc _ _ _))) hb; clear ho hb)
        go_roundw
        case rel => exact ⟨j + 1, by go_num, by omega, by rw [HS2.out]; exact HP.out, HB.out⟩
        case measure => simp only [intOf]; omega
      · have HS2 : Hid ((l.take (j + 1)).filter (isI m) = lj) := by show _ = _; rw [HS.out, HM.out, decide_eq_false hm]; simp
        have d0 : (q2 == m) = false := by simpa using hm
        clear HS HM hm
        go_wp2
        go_roundw
        case rel => exact ⟨j + 1, by go_num, by omega, by rw [HS2.out]; exact HO.out.keep (grew_alloc _ _ _), grew_trans HG.out (grew_alloc _ _ _)⟩
        case measure => simp only [intOf]; omega
    · obtain rfl : j = n := by omega
      have ht : l.take j = l := List.take_of_length_le (by rw [HL.out]; exact Nat.le_refl _)
      rw [ht] at HO
      clear ht
      go_wp2
      go_ret
      obtain ⟨A', c', rfl, -⟩ := HO.out.form
      exact ⟨A', c', rfl, HO.out, HG.out⟩

theorem both_sum (l : List Po) (m : Int) : bothQ l m = sumPQ (l.filter (isI m)) ∧ bothC l m = sumPC (l.filter (isI m)) := by
  unfold bothQ bothC sumPQ sumPC
  have e : bothOK l m = decide (sumPE (l.filter (isI m)) = 0) := by
    unfold bothOK sumPE
    cases h1 : (l.filter (isI m)).all okAm
    · simp
    · show (true && (isMoney (qI l m) && isMoney (cI l m))) = decide ((if true = true then (if (isMoney (qI l m) && isMoney (cI l m)) = true then (0 : Int) else 1) else 3) = 0)
      cases isMoney (qI l m) && isMoney (cI l m) <;> simp
  rw [e]
  constructor
  · by_cases h : sumPE (l.filter (isI m)) = 0
    · rw [if_pos (by simpa using h), if_pos h]; rfl
    · rw [if_neg (by simpa using h), if_neg h]
  · by_cases h : sumPE (l.filter (isI m)) = 0
    · rw [if_pos (by simpa using h), if_pos h]; rfl
    · rw [if_neg (by simpa using h), if_neg h]

theorem bsum_any (b : Bk) (A1 A2 : Option Addr) (n1 n2 c1 c2 : Nat) (m : Int) (w : World) (h : InB w b A1 A2 n1 n2 c1 c2) (hn : n2 ≤ 100000) :
    Calls Try.prog 11 #[vBk b.1 A1 A2 n1 n2 c1 c2, .int .i64 m] w fun e w' => e = .returned (.tuple #[.int .i64 (bothQ b.2.2 m), .int .i64 (bothC b.2.2 m)]) ∧ Grew w w' := by
  have CI := fun w' (g : Grew w w') => bin_any A2 n2 c2 b.2.2 m w' (h.p.keep g) hn
  have CS := fun (A' : Option Addr) (c' : Nat) w' (ho : RowE enPo w' A' (b.2.2.filter (isI m)).length (b.2.2.filter (isI m))) => psumP_any A' _ c' (b.2.2.filter (isI m)) w' ho (Nat.le_trans (List.length_filter_le _ _) (by rw [h.p.len]; exact hn))
  obtain ⟨e1, e2⟩ := both_sum b.2.2 m
  rw [e1, e2]
  clear h e1 e2
  generalize b.2.2.filter (isI m) = l at *
  unfold SumPost at CS
  generalize sumPQ l = Q at *
  generalize sumPC l = C at *
  generalize sumPE l = E at *
  generalize b.1 = nx at *
  dsimp only [vBk]
  go_enter Try.func11, Try.ntmps11
  go_wp2_with (first
    | (go_at_call 30; ((with_reducible refine (CI _ (grew_alloc _ _ _)).mono ?_); rintro e w1 ⟨A', c', rfl, ho, hg⟩; have HO := Lib.hid (own_form ho).1; have HG1 := Lib.hid (own_back hg); clear ho hg CI))
    | (go_at_call 29; ((with_reducible refine (CS _ _ _ HO.out).mono ?_); rintro e w2 ⟨rfl, hg⟩; have HG2 := Lib.hid (grew_trans HG1.out hg); clear hg CS)))
  go_ret2
  exact ⟨rfl, HG2.out⟩

/-! ### Of -/
theorem of_found (l : List Po) (k : Ky) (j : Nat) (h : j < l.length) (h0 : ∀ i, i < j → isK k (l.getD i po0) = false) (h1 : isK k (l.getD j po0) = true) : ofP l k = l.getD j po0 := by
  unfold ofP
  have e : l.find? (isK k) = some l[j] := by
    rw [List.find?_eq_some_iff_getElem]
    refine ⟨by rw [← getD_at l po0 j h]; exact h1, j, h, rfl, fun i hi => ?_⟩
    have := h0 i hi
    rw [getD_at l po0 i (by omega)] at this
    rw [this]; rfl
  rw [e, getD_at l po0 j h]; rfl
theorem of_none (l : List Po) (k : Ky) (h0 : ∀ i, i < l.length → isK k (l.getD i po0) = false) : ofP l k = (k.1, k.2, 0, 0) := by
  unfold ofP
  have e : l.find? (isK k) = none := by
    rw [List.find?_eq_none]
    intro x hx
    obtain ⟨i, hi, rfl⟩ := List.getElem_of_mem hx
    have := h0 i hi
    rw [getD_at l po0 i hi] at this
    rw [this]; decide
  rw [e]; rfl
theorem isK_alt (a b : Int) (x : Po) : isK (a, b) x = (decide (x.1 = a) && decide (x.2.1 = b)) := rfl
theorem run_equalKy (w : World) (a b c d : Int) (E : Bool) (h : E = (decide (a = c) && decide (b = d))) :
    (Op.equalIn 10000 27 (.agg #[.int .i64 a, .int .i64 b]) (.agg #[.int .i64 c, .int .i64 d])).run Try.prog w = .ok E w := by
  subst h
  rw [run_equalIn_struct w 9999 _ _ _ (by kernel_rfl) (by kernel_rfl)]
  go_simp
  repeat' split
  all_goals simp_all

set_option maxRecDepth 100000 in
set_option maxHeartbeats 2000000 in
theorem bof_any (b : Bk) (A1 A2 : Option Addr) (n1 n2 c1 c2 : Nat) (k1 k2 : Int) (w : World) (h : InB w b A1 A2 n1 n2 c1 c2) (hn : n2 ≤ 100000) :
    Calls Try.prog 16 #[vBk b.1 A1 A2 n1 n2 c1 c2, vKy (k1, k2)] w fun e w' => e = .returned (vPo (ofP b.2.2 (k1, k2))) ∧ Grew w w' := by
  have HI := Lib.hid h.p
  have HL := Lib.hid h.p.len
  have HF := Lib.hid (of_found b.2.2 (k1, k2))
  have HNo := Lib.hid (of_none b.2.2 (k1, k2))
  clear h
  dsimp only [vBk, vKy]
  have HX0 : Hid (OwnC (((w.alloc (.cells #[.int .i64 b.1, .slice A1 n1 c1, .slice A2 n2 c2] 25)).alloc (.cells #[.int .i64 k1, .int .i64 k2] 27)).alloc (.cells #[.int .i64 0, .int .i64 0, .int .i64 0, .int .i64 0] 36)) w.heap.size [.int .i64 b.1, .slice A1 n1 c1, .slice A2 n2 c2]) := ((OwnC.new w [.int .i64 b.1, .slice A1 n1 c1, .slice A2 n2 c2] _ _ rfl).keep (grew_alloc _ _ _)).keep (grew_alloc _ _ _)
  have HY0 : Hid (OwnC (((w.alloc (.cells #[.int .i64 b.1, .slice A1 n1 c1, .slice A2 n2 c2] 25)).alloc (.cells #[.int .i64 k1, .int .i64 k2] 27)).alloc (.cells #[.int .i64 0, .int .i64 0, .int .i64 0, .int .i64 0] 36)) (w.heap.size + 1) [.int .i64 k1, .int .i64 k2]) := (OwnC.new _ [.int .i64 k1, .int .i64 k2] _ _ (by simp)).keep (grew_alloc _ _ _)
  have HZ0 : Hid (OwnC (((w.alloc (.cells #[.int .i64 b.1, .slice A1 n1 c1, .slice A2 n2 c2] 25)).alloc (.cells #[.int .i64 k1, .int .i64 k2] 27)).alloc (.cells #[.int .i64 0, .int .i64 0, .int .i64 0, .int .i64 0] 36)) (w.heap.size + 1 + 1) [.int .i64 0, .int .i64 0, .int .i64 0, .int .i64 0]) := OwnC.new _ [.int .i64 0, .int .i64 0, .int .i64 0, .int .i64 0] _ _ (by simp)
  have HG0 : Hid (Grew w (((w.alloc (.cells #[.int .i64 b.1, .slice A1 n1 c1, .slice A2 n2 c2] 25)).alloc (.cells #[.int .i64 k1, .int .i64 k2] 27)).alloc (.cells #[.int .i64 0, .int .i64 0, .int .i64 0, .int .i64 0] 36))) := grew_trans (grew_trans (grew_alloc _ _ _) (grew_alloc _ _ _)) (grew_alloc _ _ _)
  generalize b.1 = nx at *
  generalize b.2.2 = l at *
  generalize ofP l (k1, k2) = R at *
  go_enter Try.func16, Try.ntmps16
  go_upto_region 1 with fail
  generalize ((w.alloc (.cells #[.int .i64 nx, .slice A1 n1 c1, .slice A2 n2 c2] 25)).alloc (.cells #[.int .i64 k1, .int .i64 k2] 27)).alloc (.cells #[.int .i64 0, .int .i64 0, .int .i64 0, .int .i64 0] 36) = w0 at *
  have x2 : w0.cell? ⟨w.heap.size, 2, none⟩ = some (.slice A2 n2 c2) := HX0.out.at 2 _ rfl
  go_wp2
  clear x2
  go_loopw [10] (fun v wr => ∃ j : Nat, v = .int .i64 j ∧ j ≤ n2 ∧ Hid (∀ i, i < j → isK (k1, k2) (l.getD i po0) = false) ∧ Hid (Grew w0 wr)) (fun v _ => n2 - (intOf v).toNat)
  case atStart => exact ⟨0, rfl, by omega, (by intro i hi; omega), grew_refl _⟩
  case round =>
    obtain ⟨j, rfl, hj, HK, HG⟩ := hrel
    have HGW := Lib.hid (grew_trans HG0.out HG.out)
    have HZ := Lib.hid (HZ0.out.keep HG.out)
    have HY := Lib.hid (HY0.out.keep HG.out)
    by_cases hlt : j < n2
    · have hjl : j < l.length := by rw [HL.out]; exact hlt
      obtain ⟨bb, o, rfl, hb, hc⟩ := (HI.out.keep HGW.out).po hlt
      obtain ⟨a0, a1, a2, a3⟩ := hc j hlt
      have HF1 := Lib.hid (HF.out j hjl HK.out)
      have HK1 : Hid (isK (k1, k2) (l.getD j po0) = false → ∀ i, i < j + 1 → isK (k1, k2) (l.getD i po0) = false) := fun h i hi => by
        rcases Nat.lt_or_ge i j with h1 | h1
        · exact HK.out i h1
        · obtain rfl : i = j := by omega
          exact h
      have HM := Lib.hid (isK_alt k1 k2 (l.getD j po0))
      have i0 : (0 : Int) ≤ (j : Int) := by omega
      have i1 : (j : Int) < (n2 : Int) := by omega
      clear hc hb HNo HF
      generalize isK (k1, k2) (l.getD j po0) = im at *
      generalize l.getD j po0 = x at *
      obtain ⟨q1, q2, q3, q4⟩ := x
      dsimp only at a0 a1 a2 a3 HM
      have hE := fun w => run_equalKy w q1 q2 k1 k2 _ HM.out
      have HN1 : Hid (w.heap.size + 1 + 1 < wr.heap.size) := HZ.out.lt
      have HYN := Lib.hid (HY.out.keep (grew_alloc wr #[.int .i64 q1, .int .i64 q2, .int .i64 q3, .int .i64 q4] 36))
      have y0 : (wr.alloc (.cells #[.int .i64 q1, .int .i64 q2, .int .i64 q3, .int .i64 q4] 36)).cell? ⟨w.heap.size + 1, 0, none⟩ = some (.int .i64 k1) := HYN.out.at 0 _ rfl
      have y1 : (wr.alloc (.cells #[.int .i64 q1, .int .i64 q2, .int .i64 q3, .int .i64 q4] 36)).cell? ⟨w.heap.size + 1, 1, none⟩ = some (.int .i64 k2) := HYN.out.at 1 _ rfl
      have HGA : Hid (Grew w (wr.alloc (.cells #[.int .i64 q1, .int .i64 q2, .int .i64 q3, .int .i64 q4] 36))) := grew_trans HGW.out (grew_alloc _ _ _)
      have HGB : Hid (Grew w0 (wr.alloc (.cells #[.int .i64 q1, .int .i64 q2, .int .i64 q3, .int .i64 q4] 36))) := grew_trans HG.out (grew_alloc _ _ _)
      have HZN := Lib.hid (HZ.out.keep (grew_alloc wr #[.int .i64 q1, .int .i64 q2, .int .i64 q3, .int .i64 q4] 36))
      have HPN := Lib.hid (OwnC.new wr [.int .i64 q1, .int .i64 q2, .int .i64 q3, .int .i64 q4] 36 _ rfl)
      clear HM
      cases im
      · have HK2 := Lib.hid (HK1.out rfl)
        clear HF1 HK1
        go_wp2
        go_roundw
        case rel => exact ⟨j + 1, by go_num, by omega, HK2.out, HGB.out⟩
        case measure => simp only [intOf]; omega
      · have HR := Lib.hid (HF1.out rfl)
        clear HF1 HK1 HYN
        go_upto_region 5 with fail
        generalize wr.alloc (.cells #[.int .i64 q1, .int .i64 q2, .int .i64 q3, .int .i64 q4] 36) = w8 at *
        have p0 : w8.cell? ⟨wr.heap.size, 0, none⟩ = some (.int .i64 q1) := HPN.out.at 0 _ rfl
        have p1 : w8.cell? ⟨wr.heap.size, 1, none⟩ = some (.int .i64 q2) := HPN.out.at 1 _ rfl
        have p2 : w8.cell? ⟨wr.heap.size, 2, none⟩ = some (.int .i64 q3) := HPN.out.at 2 _ rfl
        have p3 : w8.cell? ⟨wr.heap.size, 3, none⟩ = some (.int .i64 q4) := HPN.out.at 3 _ rfl
        have z0 : w8.cell? ⟨w.heap.size + 1 + 1, 0, none⟩ = some (.int .i64 0) := HZN.out.at 0 _ rfl
        have z1 : w8.cell? ⟨w.heap.size + 1 + 1, 1, none⟩ = some (.int .i64 0) := HZN.out.at 1 _ rfl
        have z2 : w8.cell? ⟨w.heap.size + 1 + 1, 2, none⟩ = some (.int .i64 0) := HZN.out.at 2 _ rfl
        have z3 : w8.cell? ⟨w.heap.size + 1 + 1, 3, none⟩ = some (.int .i64 0) := HZN.out.at 3 _ rfl
        have f0 : w8.frozen? ⟨w.heap.size + 1 + 1, 0, none⟩ = false := HZN.out.fr 0 (by decide)
        have f1 : w8.frozen? ⟨w.heap.size + 1 + 1, 1, none⟩ = false := HZN.out.fr 1 (by decide)
        have f2 : w8.frozen? ⟨w.heap.size + 1 + 1, 2, none⟩ = false := HZN.out.fr 2 (by decide)
        have f3 : w8.frozen? ⟨w.heap.size + 1 + 1, 3, none⟩ = false := HZN.out.fr 3 (by decide)
        go_wp2
        have HP := HZN.out.all [.int .i64 q1, .int .i64 q2, .int .i64 q3, .int .i64 q4] rfl
        have HGP := grew_put (w := w) (w.heap.size + 1 + 1) (by omega) [.int .i64 q1, .int .i64 q2, .int .i64 q3, .int .i64 q4] 0 _ HGA.out
        change bodyPost _ _ _ _ _ (putC w8 (w.heap.size + 1 + 1) 0 [.int .i64 q1, .int .i64 q2, .int .i64 q3, .int .i64 q4])
        clear z0 z1 z2 z3
        generalize putC w8 (w.heap.size + 1 + 1) 0 [.int .i64 q1, .int .i64 q2, .int .i64 q3, .int .i64 q4] = w9 at *
        have z0 : w9.cell? ⟨w.heap.size + 1 + 1, 0, none⟩ = _ := HP.at 0 _ rfl
        have z1 : w9.cell? ⟨w.heap.size + 1 + 1, 1, none⟩ = _ := HP.at 1 _ rfl
        have z2 : w9.cell? ⟨w.heap.size + 1 + 1, 2, none⟩ = _ := HP.at 2 _ rfl
        have z3 : w9.cell? ⟨w.heap.size + 1 + 1, 3, none⟩ = _ := HP.at 3 _ rfl
        refine bodyPost_ret (v := .agg #[.int .i64 q1, .int .i64 q2, .int .i64 q3, .int .i64 q4]) (by simp [results, Try.results16, go_sem, z0, z1, z2, z3]) rfl ?_
        rw [HR.out]
        exact ⟨rfl, HGP⟩
    · obtain rfl : j = n2 := by omega
      have HR := Lib.hid (HNo.out (fun i hi => HK.out i (by rw [HL.out] at hi; exact hi)))
      have y0 : wr.cell? ⟨w.heap.size + 1, 0, none⟩ = some (.int .i64 k1) := HY.out.at 0 _ rfl
      have y1 : wr.cell? ⟨w.heap.size + 1, 1, none⟩ = some (.int .i64 k2) := HY.out.at 1 _ rfl
      have z0 : wr.cell? ⟨w.heap.size + 1 + 1, 0, none⟩ = some (.int .i64 0) := HZ.out.at 0 _ rfl
      have z1 : wr.cell? ⟨w.heap.size + 1 + 1, 1, none⟩ = some (.int .i64 0) := HZ.out.at 1 _ rfl
      have z2 : wr.cell? ⟨w.heap.size + 1 + 1, 2, none⟩ = some (.int .i64 0) := HZ.out.at 2 _ rfl
      have z3 : wr.cell? ⟨w.heap.size + 1 + 1, 3, none⟩ = some (.int .i64 0) := HZ.out.at 3 _ rfl
      have f0 : wr.frozen? ⟨w.heap.size + 1 + 1, 0, none⟩ = false := HZ.out.fr 0 (by decide)
      have f1 : wr.frozen? ⟨w.heap.size + 1 + 1, 1, none⟩ = false := HZ.out.fr 1 (by decide)
      have f2 : wr.frozen? ⟨w.heap.size + 1 + 1, 2, none⟩ = false := HZ.out.fr 2 (by decide)
      have f3 : wr.frozen? ⟨w.heap.size + 1 + 1, 3, none⟩ = false := HZ.out.fr 3 (by decide)
      clear HF HNo HK
      go_wp2
      have HP := HZ.out.all [.int .i64 k1, .int .i64 k2, .int .i64 0, .int .i64 0] rfl
      have HGP := grew_put (w := w) (w.heap.size + 1 + 1) (by omega) [.int .i64 k1, .int .i64 k2, .int .i64 0, .int .i64 0] 0 _ HGW.out
      change bodyPost _ _ _ _ _ (putC wr (w.heap.size + 1 + 1) 0 [.int .i64 k1, .int .i64 k2, .int .i64 0, .int .i64 0])
      clear z0 z1 z2 z3
      generalize putC wr (w.heap.size + 1 + 1) 0 [.int .i64 k1, .int .i64 k2, .int .i64 0, .int .i64 0] = w9 at *
      have z0 : w9.cell? ⟨w.heap.size + 1 + 1, 0, none⟩ = _ := HP.at 0 _ rfl
      have z1 : w9.cell? ⟨w.heap.size + 1 + 1, 1, none⟩ = _ := HP.at 1 _ rfl
      have z2 : w9.cell? ⟨w.heap.size + 1 + 1, 2, none⟩ = _ := HP.at 2 _ rfl
      have z3 : w9.cell? ⟨w.heap.size + 1 + 1, 3, none⟩ = _ := HP.at 3 _ rfl
      refine bodyPost_ret (v := .agg #[.int .i64 k1, .int .i64 k2, .int .i64 0, .int .i64 0]) (by simp [results, Try.results16, go_sem, z0, z1, z2, z3]) rfl ?_
      rw [HR.out]
      exact ⟨rfl, HGP⟩
end Go.Proofs.Ytkbmiajgmnfpfaa.NumK
