/- Rolls that a call owns; Check (RlI without copied). -/
import Derived.Test.YtgblhliinjgofaaRC
import Derived.Test.YtgblhliinjgofaaRE
import Derived.Test.YtgblhliinjgofaaRA2
import Derived.Deep.RegionHeld3
import Derived.Deep.CutBlock
namespace Go.Proofs.Ytgblhliinjgofaa.NumK
open Go.RowKit
set_option linter.unusedVariables false

def rightR (r : Rl) : Bool := rightL okMb noMb mb0 r.1 && (rightL okIn noIn in0 r.2.1 && rightL okAs noAs as0 r.2.2)

def chkV (r : Rl) : Int := if rightR r = true then 0 else 14
theorem chkV_yes {r : Rl} (h : rightR r = true) : chkV r = 0 := by unfold chkV; rw [if_pos h]
theorem chkV_no {r : Rl} (h : rightR r = false) : chkV r = 14 := by unfold chkV; rw [h]; rfl
structure Own3 (w : World) (base : Nat) (r : Rl) (A1 A2 A3 : Option Addr) (c1 c2 c3 : Nat) : Prop where
  m : OwnE enMb w base 51 (.slice A1 r.1.length c1) r.1
  i : OwnE enIn w base 56 (.slice A2 r.2.1.length c2) r.2.1
  h : OwnE enAs w base 82 (.slice A3 r.2.2.length c3) r.2.2
theorem own_form {α : Type} {E : En α} {w : World} {base : Nat} {t : TypeId} {A : Option Addr} {n c : Nat} {l : List α} (h : OwnE E w base t (.slice A n c) l) : RowE E w A l.length l ∧ (A = none → c = 0) ∧ l.length ≤ c ∧ c ≤ 9223372036854775807 := by
  obtain ⟨A', c', e, hr, hn, h1, h2⟩ := h.form
  cases e
  exact ⟨hr, hn, h1, by unfold maxLen at h2; omega⟩
theorem OwnE.block {α : Type} {E : En α} {w : World} {base : Nat} {t : TypeId} {A : Option Addr} {n c : Nat} {l : List α} (h : OwnE E w base t (.slice A n c) l) : ∀ x, A = some x → base ≤ x.block ∧ x.block < w.heap.size := by
  intro x hx
  subst hx
  exact World.ownsRow.lt h x.block rfl
/-- Not in one block. -/
def Apart (A B : Option Addr) : Prop := ∀ x y, A = some x → B = some y → x.block ≠ y.block
theorem apart_of {A B : Option Addr} {m p q n : Nat} (h1 : ∀ x, A = some x → m ≤ x.block ∧ x.block < p) (h2 : ∀ x, B = some x → q ≤ x.block ∧ x.block < n) (h : p ≤ q) : Apart A B := fun x y hx hy => by
  have := h1 x hx; have := h2 y hy; omega
section
variable {w w' : World} {base : Nat} {r : Rl} {A1 A2 A3 : Option Addr} {c1 c2 c3 : Nat}
theorem Own3.keep (h : Own3 w base r A1 A2 A3 c1 c2 c3) (g : Grew w w') : Own3 w' base r A1 A2 A3 c1 c2 c3 := ⟨h.m.keep g, h.i.keep g, h.h.keep g⟩
theorem Own3.mono {b2 : Nat} (h : Own3 w base r A1 A2 A3 c1 c2 c3) (hb : b2 ≤ base) : Own3 w b2 r A1 A2 A3 c1 c2 c3 := ⟨h.m.mono hb, h.i.mono hb, h.h.mono hb⟩
theorem Own3.rows (h : Own3 w base r A1 A2 A3 c1 c2 c3) : Rows3 w r A1 A2 A3 r.1.length r.2.1.length r.2.2.length := ⟨(own_form h.m).1, (own_form h.i).1, (own_form h.h).1⟩
end
/-- What of a roll's slices is known whoever owns them. -/
structure In3 (w : World) (r : Rl) (A1 A2 A3 : Option Addr) (n1 n2 n3 c1 c2 c3 : Nat) : Prop where
  rows : Rows3 w r A1 A2 A3 n1 n2 n3
  k1 : A1 = none → c1 = 0
  k2 : A2 = none → c2 = 0
  k3 : A3 = none → c3 = 0
  l1 : n1 ≤ c1 ∧ c1 ≤ 9223372036854775807
  l2 : n2 ≤ c2 ∧ c2 ≤ 9223372036854775807
  l3 : n3 ≤ c3 ∧ c3 ≤ 9223372036854775807
theorem In3.keep {w w' : World} {r : Rl} {A1 A2 A3 : Option Addr} {n1 n2 n3 c1 c2 c3 : Nat} (h : In3 w r A1 A2 A3 n1 n2 n3 c1 c2 c3) (g : Grew w w') : In3 w' r A1 A2 A3 n1 n2 n3 c1 c2 c3 := ⟨h.rows.keep g, h.k1, h.k2, h.k3, h.l1, h.l2, h.l3⟩
theorem Own3.in3 {w : World} {base : Nat} {r : Rl} {A1 A2 A3 : Option Addr} {c1 c2 c3 : Nat} (h : Own3 w base r A1 A2 A3 c1 c2 c3) : In3 w r A1 A2 A3 r.1.length r.2.1.length r.2.2.length c1 c2 c3 :=
  ⟨h.rows, (own_form h.m).2.1, (own_form h.i).2.1, (own_form h.h).2.1, (own_form h.m).2.2, (own_form h.i).2.2, (own_form h.h).2.2⟩
theorem own3_nil (w : World) (base : Nat) : Own3 w base ([], [], []) none none none 0 0 0 := ⟨OwnE.nil _ _ _ _, OwnE.nil _ _ _ _, OwnE.nil _ _ _ _⟩

/-- A roll that a call hands back. -/
def RollP (r : Rl) (w : World) (e : Ending) (w' : World) : Prop :=
  ∃ A1 A2 A3 c1 c2 c3, e = .returned (rlV A1 A2 A3 r.1.length r.2.1.length r.2.2.length c1 c2 c3) ∧ Own3 w' w.heap.size r A1 A2 A3 c1 c2 c3 ∧ Grew w w'
/-- One of three rows of its own. -/
def RollQ (r : Rl) (w : World) (e : Ending) (w' : World) : Prop :=
  ∃ A1 A2 A3 c1 c2 c3, e = .returned (rlV A1 A2 A3 r.1.length r.2.1.length r.2.2.length c1 c2 c3) ∧ (Own3 w' (w.heap.size + 2) r A1 A2 A3 c1 c2 c3 ∧ Apart A1 A2 ∧ Apart A1 A3 ∧ Apart A2 A3) ∧ Grew w w'
theorem RollQ.p {r : Rl} {w : World} {e : Ending} {w' : World} (h : RollQ r w e w') : RollP r w e w' := by
  obtain ⟨A1, A2, A3, c1, c2, c3, he, ⟨ho, _⟩, hg⟩ := h
  exact ⟨A1, A2, A3, c1, c2, c3, he, ho.mono (by omega), hg⟩
/-- A roll and an error. -/
def RollE (r : Rl) (n : Int) (w : World) (e : Ending) (w' : World) : Prop :=
  ∃ A1 A2 A3 c1 c2 c3, e = .returned (.tuple #[rlV A1 A2 A3 r.1.length r.2.1.length r.2.2.length c1 c2 c3, .int .i64 n]) ∧ Own3 w' w.heap.size r A1 A2 A3 c1 c2 c3 ∧ Grew w w'

set_option maxRecDepth 100000 in
set_option maxHeartbeats 1000000 in
theorem check_any (r : Rl) (A1 A2 A3 : Option Addr) (n1 n2 n3 c1 c2 c3 : Nat) (w : World) (h : Rows3 w r A1 A2 A3 n1 n2 n3) (hn : n1 ≤ 1000000 ∧ n2 ≤ 1000000 ∧ n3 ≤ 1000000) :
    Calls Try.prog 23 #[rlV A1 A2 A3 n1 n2 n3 c1 c2 c3] w fun e w' => e = .returned (.int .i64 (chkV r)) ∧ Grew w w' := by
  have C1 := fun w' (g : Grew w w') => rightMb_any A1 n1 c1 r.1 w' (h.m.keep g) hn.1
  have C2 := fun w' (g : Grew w w') => rightIn_any A2 n2 c2 r.2.1 w' (h.i.keep g) hn.2.1
  have C3 := fun w' (g : Grew w w') => rightAs_any A3 n3 c3 r.2.2 w' (h.h.keep g) hn.2.2
  have HR : Hid (chkV r = if (rightL okMb noMb mb0 r.1 && (rightL okIn noIn in0 r.2.1 && rightL okAs noAs as0 r.2.2)) = true then 0 else 14) := rfl
  have HX0 : Hid (OwnC (w.alloc (.cells #[.slice A1 n1 c1, .slice A2 n2 c2, .slice A3 n3 c3] 26)) w.heap.size [.slice A1 n1 c1, .slice A2 n2 c2, .slice A3 n3 c3]) := OwnC.new w [.slice A1 n1 c1, .slice A2 n2 c2, .slice A3 n3 c3] _ _ rfl
  clear h
  generalize chkV r = V at *
  generalize rightL okMb noMb mb0 r.1 = R1 at *
  generalize rightL okIn noIn in0 r.2.1 = R2 at *
  generalize rightL okAs noAs as0 r.2.2 = R3 at *
  dsimp only [rlV]
  cases R1
  · have HF : Hid (14 = V) := by show _ = _; rw [HR.out]; rfl
    clear HR
    go_enter Try.func23, Try.ntmps23
    go_wp2_with (go_at_call 38; ((with_reducible refine (C1 _ (grew_alloc _ _ _)).mono ?_); rintro e w1 ⟨rfl, hg⟩; have HG1 := Lib.hid (own_back hg); clear hg C1))
    go_ret
    exact ⟨ret_i HF.out, HG1.out⟩
  · cases R2
    · have HF : Hid (14 = V) := by show _ = _; rw [HR.out]; rfl
      clear HR
      go_enter Try.func23, Try.ntmps23
      go_wp2_with (first
        | (go_at_call 38; ((with_reducible refine (C1 _ (grew_alloc _ _ _)).mono ?_); rintro e w1 ⟨rfl, hg⟩; have x1 : w1.cell? ⟨w.heap.size, 1, none⟩ = some (.slice A2 n2 c2) := (HX0.out.keep hg).at 1 _ rfl; have HG1 := Lib.hid (own_back hg); clear hg C1))
        | (go_at_call 41; ((with_reducible refine (C2 _ HG1.out).mono ?_); rintro e w2 ⟨rfl, hg⟩; have HG2 := Lib.hid (grew_trans HG1.out hg); clear hg C2)))
      go_ret
      exact ⟨ret_i HF.out, HG2.out⟩
    · cases R3
      all_goals
        (have HF := Lib.hid HR.out
         simp only [Bool.and_true, Bool.and_false, if_true, Bool.false_eq_true, if_false] at HF
         clear HR
         go_enter Try.func23, Try.ntmps23
         go_wp2_with (first
           | (go_at_call 38; ((with_reducible refine (C1 _ (grew_alloc _ _ _)).mono ?_); rintro e w1 ⟨rfl, hg⟩; have x1 : w1.cell? ⟨w.heap.size, 1, none⟩ = some (.slice A2 n2 c2) := (HX0.out.keep hg).at 1 _ rfl; have HX1 := Lib.hid (HX0.out.keep hg); have HG1 := Lib.hid (own_back hg); clear hg C1))
           | (go_at_call 41; ((with_reducible refine (C2 _ HG1.out).mono ?_); rintro e w2 ⟨rfl, hg⟩; have x2 : w2.cell? ⟨w.heap.size, 2, none⟩ = some (.slice A3 n3 c3) := (HX1.out.keep hg).at 2 _ rfl; have HG2 := Lib.hid (grew_trans HG1.out hg); clear hg C2))
           | (go_at_call 44; ((with_reducible refine (C3 _ HG2.out).mono ?_); rintro e w3 ⟨rfl, hg⟩; have HG3 := Lib.hid (grew_trans HG2.out hg); clear hg C3)))
         go_ret
         exact ⟨ret_i HF.out.symm, HG3.out⟩)

end Go.Proofs.Ytgblhliinjgofaa.NumK
namespace Go.Proofs.Ytgblhliinjgofaa.NumK
open Go.RowKit
set_option linter.unusedVariables false

set_option maxRecDepth 100000 in
set_option maxHeartbeats 4000000 in
theorem twinRoll_any (r : Rl) (A1 A2 A3 : Option Addr) (n1 n2 n3 c1 c2 c3 : Nat) (w : World) (h : In3 w r A1 A2 A3 n1 n2 n3 c1 c2 c3) (hn : n1 ≤ 1000000 ∧ n2 ≤ 1000000 ∧ n3 ≤ 1000000) :
    Calls Try.prog 9 #[rlV A1 A2 A3 n1 n2 n3 c1 c2 c3] w (RollQ r w) := by
  have HI := Lib.hid h
  have HL1 := Lib.hid h.rows.m.len
  have HL2 := Lib.hid h.rows.i.len
  have HL3 := Lib.hid h.rows.h.len
  clear h
  dsimp only [rlV]
  go_enter Try.func9, Try.ntmps9
  go_upto_region 2 with fail
  have HG0 : Hid (Grew w (((w.alloc (.cells #[.slice A1 n1 c1, .slice A2 n2 c2, .slice A3 n3 c3] 26)).alloc (.cells #[.slice none 0 0, .slice none 0 0, .slice none 0 0] 26)).alloc (.cells #[.slice none 0 0, .slice none 0 0, .slice none 0 0] 26))) := grew_trans (grew_trans (grew_alloc _ _ _) (grew_alloc _ _ _)) (grew_alloc _ _ _)
  have HX0 : Hid (OwnC (((w.alloc (.cells #[.slice A1 n1 c1, .slice A2 n2 c2, .slice A3 n3 c3] 26)).alloc (.cells #[.slice none 0 0, .slice none 0 0, .slice none 0 0] 26)).alloc (.cells #[.slice none 0 0, .slice none 0 0, .slice none 0 0] 26)) w.heap.size [.slice A1 n1 c1, .slice A2 n2 c2, .slice A3 n3 c3]) := ((OwnC.new w [.slice A1 n1 c1, .slice A2 n2 c2, .slice A3 n3 c3] _ _ rfl).keep (grew_alloc _ _ _)).keep (grew_alloc _ _ _)
  have HY0 : Hid (OwnC (((w.alloc (.cells #[.slice A1 n1 c1, .slice A2 n2 c2, .slice A3 n3 c3] 26)).alloc (.cells #[.slice none 0 0, .slice none 0 0, .slice none 0 0] 26)).alloc (.cells #[.slice none 0 0, .slice none 0 0, .slice none 0 0] 26)) (w.heap.size + 1) [.slice none 0 0, .slice none 0 0, .slice none 0 0]) := (OwnC.new _ [.slice none 0 0, .slice none 0 0, .slice none 0 0] _ _ (by simp)).keep (grew_alloc _ _ _)
  have HZ0 : Hid (OwnC (((w.alloc (.cells #[.slice A1 n1 c1, .slice A2 n2 c2, .slice A3 n3 c3] 26)).alloc (.cells #[.slice none 0 0, .slice none 0 0, .slice none 0 0] 26)).alloc (.cells #[.slice none 0 0, .slice none 0 0, .slice none 0 0] 26)) (w.heap.size + 1 + 1) [.slice none 0 0, .slice none 0 0, .slice none 0 0]) := OwnC.new _ [.slice none 0 0, .slice none 0 0, .slice none 0 0] _ _ (by simp)
  have HSZ : Hid (w.heap.size + 3 ≤ (((w.alloc (.cells #[.slice A1 n1 c1, .slice A2 n2 c2, .slice A3 n3 c3] 26)).alloc (.cells #[.slice none 0 0, .slice none 0 0, .slice none 0 0] 26)).alloc (.cells #[.slice none 0 0, .slice none 0 0, .slice none 0 0] 26)).heap.size) := by show _ ≤ _; simp
  generalize (((w.alloc (.cells #[.slice A1 n1 c1, .slice A2 n2 c2, .slice A3 n3 c3] 26)).alloc (.cells #[.slice none 0 0, .slice none 0 0, .slice none 0 0] 26)).alloc (.cells #[.slice none 0 0, .slice none 0 0, .slice none 0 0] 26)) = w0 at *
  have x0 : w0.cell? ⟨w.heap.size, 0, none⟩ = some (.slice A1 n1 c1) := HX0.out.at 0 _ rfl
  have z0 : w0.cell? ⟨w.heap.size + 1 + 1, 0, none⟩ = some (.slice none 0 0) := HZ0.out.at 0 _ rfl
  go_upto_region 5 with (first
    | (at_builtin; refine (wpList_append_E rfl _ _ 22 51 (vMb mb0) 24 rfl Try.underlying22 info_mb rfl (w0).heap.size _ [] rfl (OwnE.nil enMb _ _ _) A1 n1 c1 r.1 rfl HI.out.k1 (HI.out.rows.m.keep HG0.out) (by simp; unfold maxLen; omega) (by simp; omega) (Nat.le_refl _) ?_); intro v' w1 ho hb; rw [List.nil_append] at ho; obtain ⟨B1, d1, rfl, -⟩ := ho.form; have HBk1 := Lib.hid ho.block; have HSk1 := Lib.hid hb.size; have HX1 := Lib.hid ((HX0.out).keep hb); have HY1 := Lib.hid ((HY0.out).keep hb); have HZp := ((HZ0.out).keep hb); have z0f : w1.frozen? ⟨w.heap.size + 1 + 1, 0, none⟩ = false := HZp.fr 0 (by show 0 < 3; omega); have z0c : w1.cell? ⟨w.heap.size + 1 + 1, 0, none⟩ = some (.slice none 0 0) := HZp.at 0 _ rfl; have z1c : w1.cell? ⟨w.heap.size + 1 + 1, 1, none⟩ = some (.slice none 0 0) := HZp.at 1 _ rfl; have x1 : w1.cell? ⟨w.heap.size, 1, none⟩ = some (.slice A2 n2 c2) := HX1.out.at 1 _ rfl; have HZ1 := Lib.hid (HZp.set 0 (.slice B1 r.1.length d1) (by show 0 < 3; omega)); have HX1 := Lib.hid (HX1.out.other ⟨w.heap.size + 1 + 1, 0, none⟩ (.slice B1 r.1.length d1) (by show _ + 1 + 1 ≠ _; omega)); have HY1 := Lib.hid (HY1.out.other ⟨w.heap.size + 1 + 1, 0, none⟩ (.slice B1 r.1.length d1) (by show _ + 1 + 1 ≠ _; omega)); have HGp : Hid (Grew w w1) := grew_trans HG0.out hb; have HGs1 : Hid (Grew w (w1.setCell ⟨w.heap.size + 1 + 1, 0, none⟩ (.slice B1 r.1.length d1))) := grew_set HGp.out _ (by show _ ≤ _ + 1 + 1; omega); have HSZ1 : Hid (w.heap.size + 3 ≤ (w1.setCell ⟨w.heap.size + 1 + 1, 0, none⟩ (.slice B1 r.1.length d1)).heap.size) := le_set _ _ (Nat.le_trans HSZ.out hb.size); have HO1 := Lib.hid ((ho.mono HSZ.out).set (w.heap.size + 1 + 1) 0 (.slice B1 r.1.length d1) (by omega)); clear ho hb HZp HGp)
    | (at_builtin; refine (wpList_append_E rfl _ _ 23 56 (vIn in0) 96 rfl Try.underlying23 info_in rfl ((w1.setCell ⟨w.heap.size + 1 + 1, 0, none⟩ (.slice B1 r.1.length d1))).heap.size _ [] rfl (OwnE.nil enIn _ _ _) A2 n2 c2 r.2.1 rfl HI.out.k2 (HI.out.rows.i.keep HGs1.out) (by simp; unfold maxLen; omega) (by simp; omega) (Nat.le_refl _) ?_); intro v' w2 ho hb; rw [List.nil_append] at ho; obtain ⟨B2, d2, rfl, -⟩ := ho.form; have HBk2 := Lib.hid ho.block; have HSk2 := Lib.hid hb.size; have HA12 := Lib.hid (apart_of HBk1.out HBk2.out (Nat.le_of_eq (size_set _ _ _).symm)); have HX2 := Lib.hid ((HX1.out).keep hb); have HY2 := Lib.hid ((HY1.out).keep hb); have HZp := ((HZ1.out).keep hb); have z1f : w2.frozen? ⟨w.heap.size + 1 + 1, 1, none⟩ = false := HZp.fr 1 (by show 1 < 3; omega); have z1c : w2.cell? ⟨w.heap.size + 1 + 1, 1, none⟩ = some (.slice none 0 0) := HZp.at 1 _ rfl; have z2c : w2.cell? ⟨w.heap.size + 1 + 1, 2, none⟩ = some (.slice none 0 0) := HZp.at 2 _ rfl; have x2 : w2.cell? ⟨w.heap.size, 2, none⟩ = some (.slice A3 n3 c3) := HX2.out.at 2 _ rfl; have HZ2 := Lib.hid (HZp.set 1 (.slice B2 r.2.1.length d2) (by show 1 < 3; omega)); have HX2 := Lib.hid (HX2.out.other ⟨w.heap.size + 1 + 1, 1, none⟩ (.slice B2 r.2.1.length d2) (by show _ + 1 + 1 ≠ _; omega)); have HY2 := Lib.hid (HY2.out.other ⟨w.heap.size + 1 + 1, 1, none⟩ (.slice B2 r.2.1.length d2) (by show _ + 1 + 1 ≠ _; omega)); have HGp : Hid (Grew w w2) := grew_trans HGs1.out hb; have HGs2 : Hid (Grew w (w2.setCell ⟨w.heap.size + 1 + 1, 1, none⟩ (.slice B2 r.2.1.length d2))) := grew_set HGp.out _ (by show _ ≤ _ + 1 + 1; omega); have HSZ2 : Hid (w.heap.size + 3 ≤ (w2.setCell ⟨w.heap.size + 1 + 1, 1, none⟩ (.slice B2 r.2.1.length d2)).heap.size) := le_set _ _ (Nat.le_trans HSZ1.out hb.size); have HO2 := Lib.hid ((ho.mono HSZ1.out).set (w.heap.size + 1 + 1) 1 (.slice B2 r.2.1.length d2) (by omega)); have HO1 := Lib.hid ((HO1.out.keep hb).set (w.heap.size + 1 + 1) 1 (.slice B2 r.2.1.length d2) (by omega)); clear ho hb HZp HGp)
    | (at_builtin; refine (wpList_append_E rfl _ _ 24 82 (vAs as0) 32 rfl Try.underlying24 info_as rfl ((w2.setCell ⟨w.heap.size + 1 + 1, 1, none⟩ (.slice B2 r.2.1.length d2))).heap.size _ [] rfl (OwnE.nil enAs _ _ _) A3 n3 c3 r.2.2 rfl HI.out.k3 (HI.out.rows.h.keep HGs2.out) (by simp; unfold maxLen; omega) (by simp; omega) (Nat.le_refl _) ?_); intro v' w3 ho hb; rw [List.nil_append] at ho; obtain ⟨B3, d3, rfl, -⟩ := ho.form; have HBk3 := Lib.hid ho.block; have HSk3 := Lib.hid hb.size; have HA23 := Lib.hid (apart_of HBk2.out HBk3.out (Nat.le_of_eq (size_set _ _ _).symm)); have HA13 := Lib.hid (apart_of HBk1.out HBk3.out (by rw [size_set]; have := HSk2.out; rw [size_set] at this; exact this)); have HX3 := Lib.hid ((HX2.out).keep hb); have HY3 := Lib.hid ((HY2.out).keep hb); have HZp := ((HZ2.out).keep hb); have z2f : w3.frozen? ⟨w.heap.size + 1 + 1, 2, none⟩ = false := HZp.fr 2 (by show 2 < 3; omega); have z2c : w3.cell? ⟨w.heap.size + 1 + 1, 2, none⟩ = some (.slice none 0 0) := HZp.at 2 _ rfl; have HZ3 := Lib.hid (HZp.set 2 (.slice B3 r.2.2.length d3) (by show 2 < 3; omega)); have HX3 := Lib.hid (HX3.out.other ⟨w.heap.size + 1 + 1, 2, none⟩ (.slice B3 r.2.2.length d3) (by show _ + 1 + 1 ≠ _; omega)); have HY3 := Lib.hid (HY3.out.other ⟨w.heap.size + 1 + 1, 2, none⟩ (.slice B3 r.2.2.length d3) (by show _ + 1 + 1 ≠ _; omega)); have HGp : Hid (Grew w w3) := grew_trans HGs2.out hb; have HGs3 : Hid (Grew w (w3.setCell ⟨w.heap.size + 1 + 1, 2, none⟩ (.slice B3 r.2.2.length d3))) := grew_set HGp.out _ (by show _ ≤ _ + 1 + 1; omega); have HSZ3 : Hid (w.heap.size + 3 ≤ (w3.setCell ⟨w.heap.size + 1 + 1, 2, none⟩ (.slice B3 r.2.2.length d3)).heap.size) := le_set _ _ (Nat.le_trans HSZ2.out hb.size); have HO3 := Lib.hid ((ho.mono HSZ2.out).set (w.heap.size + 1 + 1) 2 (.slice B3 r.2.2.length d3) (by omega)); have HO1 := Lib.hid ((HO1.out.keep hb).set (w.heap.size + 1 + 1) 2 (.slice B3 r.2.2.length d3) (by omega)); have HO2 := Lib.hid ((HO2.out.keep hb).set (w.heap.size + 1 + 1) 2 (.slice B3 r.2.2.length d3) (by omega)); clear ho hb HZp HGp))
  have HZ := Lib.hid HZ3.out
  have q0 : (w3.setCell ⟨w.heap.size + 1 + 1, 2, none⟩ (.slice B3 r.2.2.length d3)).cell? ⟨w.heap.size + 1 + 1, 0, none⟩ = some (.slice B1 r.1.length d1) := HZ3.out.at 0 _ rfl
  have q1 : (w3.setCell ⟨w.heap.size + 1 + 1, 2, none⟩ (.slice B3 r.2.2.length d3)).cell? ⟨w.heap.size + 1 + 1, 1, none⟩ = some (.slice B2 r.2.1.length d2) := HZ3.out.at 1 _ rfl
  have q2 : (w3.setCell ⟨w.heap.size + 1 + 1, 2, none⟩ (.slice B3 r.2.2.length d3)).cell? ⟨w.heap.size + 1 + 1, 2, none⟩ = some (.slice B3 r.2.2.length d3) := HZ3.out.at 2 _ rfl
  generalize w3.setCell ⟨w.heap.size + 1 + 1, 2, none⟩ (.slice B3 r.2.2.length d3) = w8 at *
  have y0 : w8.cell? ⟨w.heap.size + 1, 0, none⟩ = some (.slice none 0 0) := HY3.out.at 0 _ rfl
  have y1 : w8.cell? ⟨w.heap.size + 1, 1, none⟩ = some (.slice none 0 0) := HY3.out.at 1 _ rfl
  have y2 : w8.cell? ⟨w.heap.size + 1, 2, none⟩ = some (.slice none 0 0) := HY3.out.at 2 _ rfl
  have f0 : w8.frozen? ⟨w.heap.size + 1, 0, none⟩ = false := HY3.out.fr 0 (by decide)
  have f1 : w8.frozen? ⟨w.heap.size + 1, 1, none⟩ = false := HY3.out.fr 1 (by decide)
  have f2 : w8.frozen? ⟨w.heap.size + 1, 2, none⟩ = false := HY3.out.fr 2 (by decide)
  go_wp2
  have HP := HY3.out.all [Value.slice B1 r.1.length d1, .slice B2 r.2.1.length d2, .slice B3 r.2.2.length d3] rfl
  have HGP := grew_put (w.heap.size + 1) (Nat.le_succ _) [Value.slice B1 r.1.length d1, .slice B2 r.2.1.length d2, .slice B3 r.2.2.length d3] 0 _ HGs3.out
  have hb : w.heap.size + 1 < w.heap.size + 3 := by omega
  have P1 := OwnE.put hb [Value.slice B1 r.1.length d1, .slice B2 r.2.1.length d2, .slice B3 r.2.2.length d3] 0 _ HO1.out
  have P2 := OwnE.put hb [Value.slice B1 r.1.length d1, .slice B2 r.2.1.length d2, .slice B3 r.2.2.length d3] 0 _ HO2.out
  have P3 := OwnE.put hb [Value.slice B1 r.1.length d1, .slice B2 r.2.1.length d2, .slice B3 r.2.2.length d3] 0 _ HO3.out
  change bodyPost _ _ _ _ _ (putC w8 (w.heap.size + 1) 0 [.slice B1 r.1.length d1, .slice B2 r.2.1.length d2, .slice B3 r.2.2.length d3])
  generalize putC w8 (w.heap.size + 1) 0 [.slice B1 r.1.length d1, .slice B2 r.2.1.length d2, .slice B3 r.2.2.length d3] = w9 at *
  have z0 : w9.cell? ⟨w.heap.size + 1, 0, none⟩ = _ := HP.at 0 _ rfl
  have z1 : w9.cell? ⟨w.heap.size + 1, 1, none⟩ = _ := HP.at 1 _ rfl
  have z2 : w9.cell? ⟨w.heap.size + 1, 2, none⟩ = _ := HP.at 2 _ rfl
  refine bodyPost_ret (v := .agg #[.slice B1 r.1.length d1, .slice B2 r.2.1.length d2, .slice B3 r.2.2.length d3]) (by simp [results, Try.results9, go_sem, z0, z1, z2]) rfl ?_
  exact ⟨B1, B2, B3, d1, d2, d3, rfl, ⟨⟨P1.mono (by omega), P2.mono (by omega), P3.mono (by omega)⟩, HA12.out, HA13.out, HA23.out⟩, HGP⟩
end Go.Proofs.Ytgblhliinjgofaa.NumK
