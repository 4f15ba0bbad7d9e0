/- Members, instruments, assets, rolls that are the same. -/
import Derived.Test.YtodnllopokoicaaGreatRG8
import Derived.Test.YtodnllopokoicaaGreatRG1
import Derived.Test.YtodnllopokoicaaGreatRG2
import Derived.Test.YtodnllopokoicaaGreatRG10
import Derived.Test.YtodnllopokoicaaGreatRG11
import Derived.Test.YtodnllopokoicaaGreatRG12
import Derived.Deep.RegionHeld3
namespace Go.Proofs.YtodnllopokoicaaGreat.NumK
open Go.RowKit

/-! ### rolls -/
abbrev rlV (A1 A2 A3 : Option Addr) (n1 n2 n3 c1 c2 c3 : Nat) : Value := .agg #[.slice A1 n1 c1, .slice A2 n2 c2, .slice A3 n3 c3]
/-- A roll's rows, wherever they lie. -/
structure Rows3 (w : World) (r : Rl) (A1 A2 A3 : Option Addr) (n1 n2 n3 : Nat) : Prop where
  m : RowE enMb w A1 n1 r.1
  i : RowE enIn w A2 n2 r.2.1
  h : RowE enAs w A3 n3 r.2.2
theorem Rows3.keep {w w' : World} {r : Rl} {A1 A2 A3 : Option Addr} {n1 n2 n3 : Nat} (h : Rows3 w r A1 A2 A3 n1 n2 n3) (g : Grew w w') : Rows3 w' r A1 A2 A3 n1 n2 n3 := ⟨h.m.keep g, h.i.keep g, h.h.keep g⟩

end Go.Proofs.YtodnllopokoicaaGreat.NumK
namespace Go.Proofs.YtodnllopokoicaaGreat.NumK
open Go.RowKit
set_option linter.unusedVariables false

def rightR (r : Rl) : Bool := rightL okMb noMb mb0 r.1 && (rightL okIn noIn in0 r.2.1 && rightL okAs noAs as0 r.2.2)

def chkV (r : Rl) : Int := if rightR r = true then 0 else 14
theorem chkV_yes {r : Rl} (h : rightR r = true) : chkV r = 0 := by unfold chkV; rw [if_pos h]
theorem chkV_no {r : Rl} (h : rightR r = false) : chkV r = 14 := by unfold chkV; rw [h]; rfl
structure Own3 (w : World) (base : Nat) (r : Rl) (A1 A2 A3 : Option Addr) (c1 c2 c3 : Nat) : Prop where
  m : OwnE enMb w base 123 (.slice A1 r.1.length c1) r.1
  i : OwnE enIn w base 105 (.slice A2 r.2.1.length c2) r.2.1
  h : OwnE enAs w base 76 (.slice A3 r.2.2.length c3) r.2.2
section
variable {w w' : World} {base : Nat} {r : Rl} {A1 A2 A3 : Option Addr} {c1 c2 c3 : Nat}
theorem Own3.keep (h : Own3 w base r A1 A2 A3 c1 c2 c3) (g : Grew w w') : Own3 w' base r A1 A2 A3 c1 c2 c3 := ⟨h.m.keep g, h.i.keep g, h.h.keep g⟩
theorem Own3.mono {b2 : Nat} (h : Own3 w base r A1 A2 A3 c1 c2 c3) (hb : b2 ≤ base) : Own3 w b2 r A1 A2 A3 c1 c2 c3 := ⟨h.m.mono hb, h.i.mono hb, h.h.mono hb⟩
theorem Own3.rows (h : Own3 w base r A1 A2 A3 c1 c2 c3) : Rows3 w r A1 A2 A3 r.1.length r.2.1.length r.2.2.length := ⟨(own_form h.m).1, (own_form h.i).1, (own_form h.h).1⟩
end
/-- What of a roll's slices is known whoever owns them. -/
structure In3 (w : World) (r : Rl) (A1 A2 A3 : Option Addr) (n1 n2 n3 c1 c2 c3 : Nat) : Prop where
  rows : Rows3 w r A1 A2 A3 n1 n2 n3
  k1 : A1 = none → c1 = 0
  k2 : A2 = none → c2 = 0
  k3 : A3 = none → c3 = 0
  l1 : n1 ≤ c1 ∧ c1 ≤ 9223372036854775807
  l2 : n2 ≤ c2 ∧ c2 ≤ 9223372036854775807
  l3 : n3 ≤ c3 ∧ c3 ≤ 9223372036854775807
theorem In3.keep {w w' : World} {r : Rl} {A1 A2 A3 : Option Addr} {n1 n2 n3 c1 c2 c3 : Nat} (h : In3 w r A1 A2 A3 n1 n2 n3 c1 c2 c3) (g : Grew w w') : In3 w' r A1 A2 A3 n1 n2 n3 c1 c2 c3 := ⟨h.rows.keep g, h.k1, h.k2, h.k3, h.l1, h.l2, h.l3⟩
/-- A roll that a call hands back. -/
def RollP (r : Rl) (w : World) (e : Ending) (w' : World) : Prop :=
  ∃ A1 A2 A3 c1 c2 c3, e = .returned (rlV A1 A2 A3 r.1.length r.2.1.length r.2.2.length c1 c2 c3) ∧ Own3 w' w.heap.size r A1 A2 A3 c1 c2 c3 ∧ Grew w w'
/-- One of three rows of its own. -/
def RollQ (r : Rl) (w : World) (e : Ending) (w' : World) : Prop :=
  ∃ A1 A2 A3 c1 c2 c3, e = .returned (rlV A1 A2 A3 r.1.length r.2.1.length r.2.2.length c1 c2 c3) ∧ (Own3 w' (w.heap.size + 2) r A1 A2 A3 c1 c2 c3 ∧ Apart A1 A2 ∧ Apart A1 A3 ∧ Apart A2 A3) ∧ Grew w w'
theorem RollQ.p {r : Rl} {w : World} {e : Ending} {w' : World} (h : RollQ r w e w') : RollP r w e w' := by
  obtain ⟨A1, A2, A3, c1, c2, c3, he, ⟨ho, _⟩, hg⟩ := h
  exact ⟨A1, A2, A3, c1, c2, c3, he, ho.mono (by omega), hg⟩
/-- A roll and an error. -/
def RollE (r : Rl) (n : Int) (w : World) (e : Ending) (w' : World) : Prop :=
  ∃ A1 A2 A3 c1 c2 c3, e = .returned (.tuple #[rlV A1 A2 A3 r.1.length r.2.1.length r.2.2.length c1 c2 c3, .int .i64 n]) ∧ Own3 w' w.heap.size r A1 A2 A3 c1 c2 c3 ∧ Grew w w'

set_option maxRecDepth 100000 in
set_option maxHeartbeats 1000000 in
theorem check_any (r : Rl) (A1 A2 A3 : Option Addr) (n1 n2 n3 c1 c2 c3 : Nat) (w : World) (h : Rows3 w r A1 A2 A3 n1 n2 n3) (hn : n1 ≤ 1000000 ∧ n2 ≤ 1000000 ∧ n3 ≤ 1000000) :
    Calls Tryz.prog 22 #[rlV A1 A2 A3 n1 n2 n3 c1 c2 c3] w fun e w' => e = .returned (.int .i64 (chkV r)) ∧ Grew w w' := by
  have C1 := fun w' (g : Grew w w') => rightMb_any A1 n1 c1 r.1 w' (h.m.keep g) hn.1
  have C2 := fun w' (g : Grew w w') => rightIn_any A2 n2 c2 r.2.1 w' (h.i.keep g) hn.2.1
  have C3 := fun w' (g : Grew w w') => rightAs_any A3 n3 c3 r.2.2 w' (h.h.keep g) hn.2.2
  have HR : Hid (chkV r = if (rightL okMb noMb mb0 r.1 && (rightL okIn noIn in0 r.2.1 && rightL okAs noAs as0 r.2.2)) = true then 0 else 14) := rfl
  have HX0 : Hid (OwnC (w.alloc (.cells #[.slice A1 n1 c1, .slice A2 n2 c2, .slice A3 n3 c3] 28)) w.heap.size [.slice A1 n1 c1, .slice A2 n2 c2, .slice A3 n3 c3]) := OwnC.new w [.slice A1 n1 c1, .slice A2 n2 c2, .slice A3 n3 c3] _ _ rfl
  clear h
  generalize chkV r = V at *
  generalize rightL okMb noMb mb0 r.1 = R1 at *
  generalize rightL okIn noIn in0 r.2.1 = R2 at *
  generalize rightL okAs noAs as0 r.2.2 = R3 at *
  dsimp only [rlV]
  cases R1
  · have HF : Hid (14 = V) := by show _ = _; rw [HR.out]; rfl
    clear HR
    go_enter Tryz.func22, Tryz.ntmps22
    go_wp2_with (go_at_call 57; ((with_reducible refine (C1 _ (grew_alloc _ _ _)).mono ?_); rintro e w1 ⟨rfl, hg⟩; have HG1 := Lib.hid (own_back hg); clear hg C1))
    go_ret
    exact ⟨ret_i HF.out, HG1.out⟩
  · cases R2
    · have HF : Hid (14 = V) := by show _ = _; rw [HR.out]; rfl
      clear HR
      go_enter Tryz.func22, Tryz.ntmps22
      go_wp2_with (first
        | (go_at_call 57; ((with_reducible refine (C1 _ (grew_alloc _ _ _)).mono ?_); rintro e w1 ⟨rfl, hg⟩; have x1 : w1.cell? ⟨w.heap.size, 1, none⟩ = some (.slice A2 n2 c2) := (HX0.out.keep hg).at 1 _ rfl; have HG1 := Lib.hid (own_back hg); clear hg C1))
        | (go_at_call 60; ((with_reducible refine (C2 _ HG1.out).mono ?_); rintro e w2 ⟨rfl, hg⟩; have HG2 := Lib.hid (grew_trans HG1.out hg); clear hg C2)))
      go_ret
      exact ⟨ret_i HF.out, HG2.out⟩
    · cases R3
      all_goals
        (have HF := Lib.hid HR.out
         simp only [Bool.and_true, Bool.and_false, if_true, Bool.false_eq_true, if_false] at HF
         clear HR
         go_enter Tryz.func22, Tryz.ntmps22
         go_wp2_with (first
           | (go_at_call 57; ((with_reducible refine (C1 _ (grew_alloc _ _ _)).mono ?_); rintro e w1 ⟨rfl, hg⟩; have x1 : w1.cell? ⟨w.heap.size, 1, none⟩ = some (.slice A2 n2 c2) := (HX0.out.keep hg).at 1 _ rfl; have HX1 := Lib.hid (HX0.out.keep hg); have HG1 := Lib.hid (own_back hg); clear hg C1))
           | (go_at_call 60; ((with_reducible refine (C2 _ HG1.out).mono ?_); rintro e w2 ⟨rfl, hg⟩; have x2 : w2.cell? ⟨w.heap.size, 2, none⟩ = some (.slice A3 n3 c3) := (HX1.out.keep hg).at 2 _ rfl; have HG2 := Lib.hid (grew_trans HG1.out hg); clear hg C2))
           | (go_at_call 63; ((with_reducible refine (C3 _ HG2.out).mono ?_); rintro e w3 ⟨rfl, hg⟩; have HG3 := Lib.hid (grew_trans HG2.out hg); clear hg C3)))
         go_ret
         exact ⟨ret_i HF.out.symm, HG3.out⟩)

end Go.Proofs.YtodnllopokoicaaGreat.NumK
namespace Go.Proofs.YtodnllopokoicaaGreat.NumK
open Go.RowKit
set_option linter.unusedVariables false

def qsOK (l : List Po) : Bool := l.all fun p => okQ p.2.2.1
def lossOK (r : Rl) (who cur : Int) (l : List Po) : Bool := (List.range 6).all fun j => isMoney (lossV r who cur l j)
def lossE (r : Rl) (who cur : Int) (l : List Po) : Int := if rightR r = true then (if qsOK l = true then (if lossOK r who cur l = true then 0 else 1) else 3) else 14
/-- What a scenario tells: nothing beside an error. -/
def lossA (r : Rl) (who cur : Int) (l : List Po) (j : Nat) : Int := if lossE r who cur l = 0 then lossV r who cur l j else 0
def margE (r : Rl) (who cur : Int) (l : List Po) : Int := if lossE r who cur l = 0 then (if isMoney (margV r who cur l) = true then 0 else 1) else lossE r who cur l
def margN (r : Rl) (who cur : Int) (l : List Po) : Int := if margE r who cur l = 0 then margV r who cur l else 0

theorem lossE_iff {r : Rl} {who cur : Int} {l : List Po} : lossE r who cur l = 0 ↔ rightR r = true ∧ qsOK l = true ∧ lossOK r who cur l = true := by
  unfold lossE
  by_cases h1 : rightR r = true <;> by_cases h2 : qsOK l = true <;> by_cases h3 : lossOK r who cur l = true <;> simp [h1, h2, h3]
theorem lossOK_iff {r : Rl} {who cur : Int} {l : List Po} : lossOK r who cur l = true ↔ ∀ j, j < 6 → isMoney (lossV r who cur l j) = true := by
  unfold lossOK
  rw [List.all_eq_true]
  exact ⟨fun h j hj => h j (List.mem_range.2 hj), fun h j hj => h j (List.mem_range.1 hj)⟩
theorem qsOK_iff {l : List Po} : qsOK l = true ↔ ∀ p ∈ l, okQ p.2.2.1 = true := by unfold qsOK; rw [List.all_eq_true]
theorem margE_iff {r : Rl} {who cur : Int} {l : List Po} : margE r who cur l = 0 ↔ lossE r who cur l = 0 ∧ isMoney (margV r who cur l) = true := by
  unfold margE
  by_cases h1 : lossE r who cur l = 0
  · rw [if_pos h1]; by_cases h2 : isMoney (margV r who cur l) = true <;> simp [h1, h2]
  · rw [if_neg h1]; simp [h1]
theorem right_i {r : Rl} (h : rightR r = true) : rightL okIn noIn in0 r.2.1 = true := by
  unfold rightR at h
  rw [Bool.and_eq_true, Bool.and_eq_true] at h
  exact h.2.1
theorem cnt_has {r : Rl} {who cur : Int} {p : Po} (h : cntG r who cur p = true) : hasI r p = true := by
  unfold cntG at h; rw [Bool.and_eq_true] at h; exact h.1
/-! ### the laws -/
theorem qs_turn {l : List Po} : qsOK (l.map turnP) = qsOK l := by
  unfold qsOK
  rw [List.all_map]
  congr 1
  funext p
  show okQ (-p.2.2.1) = okQ p.2.2.1
  unfold okQ wi
  rw [Bool.eq_iff_iff]
  simp only [Bool.and_eq_true, decide_eq_true_eq]
  omega
theorem grid_covers {r : Rl} {who cur : Int} {l : List Po} (h : margE r who cur l = 0) : lossE r who cur (l.map turnP) = 0 ∧ 0 ≤ margN r who cur l ∧ ∀ j, j < 6 → lossA r who cur l j ≤ margN r who cur l ∧ lossA r who cur l j = -lossA r who cur (l.map turnP) j := by
  obtain ⟨h1, h2⟩ := margE_iff.1 h
  obtain ⟨g1, g2, g3⟩ := lossE_iff.1 h1
  have ht : lossE r who cur (l.map turnP) = 0 := lossE_iff.2 ⟨g1, by rw [qs_turn]; exact g2, lossOK_iff.2 fun j hj => by
    have := lossOK_iff.1 g3 j hj
    rw [loss_turn]; rw [isMoney_iff] at this ⊢; omega⟩
  have hm : margN r who cur l = margV r who cur l := by unfold margN; rw [if_pos h]
  have hc := marg_covers (right_i g1) who cur l
  refine ⟨ht, by rw [hm]; exact hc.1, fun j hj => ?_⟩
  have e1 : lossA r who cur l j = lossV r who cur l j := by unfold lossA; rw [if_pos h1]
  have e2 : lossA r who cur (l.map turnP) j = lossV r who cur (l.map turnP) j := by unfold lossA; rw [if_pos ht]
  rw [e1, e2, hm, loss_turn, Int.neg_neg]
  exact ⟨hc.2 j hj, rfl⟩
end Go.Proofs.YtodnllopokoicaaGreat.NumK
namespace Go.Proofs.YtodnllopokoicaaGreat.NumK
open Go.RowKit
set_option linter.unusedVariables false

def assetOf (r : Rl) (x : Pg) : As := findL noAs as0 r.2.2 x.2.1
def hasA (r : Rl) (x : Pg) : Bool := hasL noAs r.2.2 x.2.1
/-- Does a pledge count? -/
def cntV (r : Rl) (who cur : Int) (x : Pg) : Bool := hasA r x && (decide (x.1 = who) && decide ((assetOf r x).2.1 = cur))
def valP (r : Rl) (x : Pg) : Int := valueV (assetOf r x) x.2.2
def covG (r : Rl) (who cur : Int) (x : Pg) : Int := if cntV r who cur x = true then valP r x else 0
def covS (r : Rl) (who cur : Int) (l : List Pg) : Int := (l.map (covG r who cur)).sum
def valsOK (r : Rl) (who cur : Int) (l : List Pg) : Bool := l.all fun x => !(cntV r who cur x) || decide (valP r x ≤ 4611686018427387904)
/-- Beside a ledger (ok: is it right?) in which the cash is b. -/
def covE (ok : Bool) (b : Int) (r : Rl) (who cur : Int) (l : List Pg) : Int :=
  if ok = true ∧ rightR r = true ∧ rightPg l = true then (if valsOK r who cur l = true ∧ isMoney (b + covS r who cur l) = true then 0 else 1) else 14
def covN (ok : Bool) (b : Int) (r : Rl) (who cur : Int) (l : List Pg) : Int := if covE ok b r who cur l = 0 then b + covS r who cur l else 0
theorem covE_iff {ok : Bool} {b : Int} {r : Rl} {who cur : Int} {l : List Pg} : covE ok b r who cur l = 0 ↔ ok = true ∧ rightR r = true ∧ rightPg l = true ∧ valsOK r who cur l = true ∧ isMoney (b + covS r who cur l) = true := by
  unfold covE
  by_cases h1 : ok = true ∧ rightR r = true ∧ rightPg l = true
  · rw [if_pos h1]
    by_cases h2 : valsOK r who cur l = true ∧ isMoney (b + covS r who cur l) = true
    · rw [if_pos h2]; exact ⟨fun _ => ⟨h1.1, h1.2.1, h1.2.2, h2⟩, fun _ => rfl⟩
    · rw [if_neg h2]; exact ⟨fun h => absurd h (by decide), fun h => absurd h.2.2.2 h2⟩
  · rw [if_neg h1]; exact ⟨fun h => absurd h (by decide), fun h => absurd ⟨h.1, h.2.1, h.2.2.1⟩ h1⟩
theorem right_a {r : Rl} (h : rightR r = true) : rightL okAs noAs as0 r.2.2 = true := by
  unfold rightR at h
  rw [Bool.and_eq_true, Bool.and_eq_true] at h
  exact h.2.2
theorem asset_ok {r : Rl} (h : rightR r = true) {x : Pg} (hx : hasA r x = true) : okAs (assetOf r x) = true :=
  ((rightL_iff okAs noAs as0 r.2.2).1 (right_a h)).1 _ (find_mem noAs as0 r.2.2 x.2.1 hx).1
theorem cntV_has {r : Rl} {who cur : Int} {x : Pg} (h : cntV r who cur x = true) : hasA r x = true := by
  unfold cntV at h; rw [Bool.and_eq_true] at h; exact h.1
/-- How far a value goes: for sums that wides hold. -/
theorem valP_in {r : Rl} (h : rightR r = true) {x : Pg} (hx : hasA r x = true) (hu : 0 ≤ x.2.2 ∧ x.2.2 ≤ 1099511627776) : 0 ≤ valP r x ∧ valP r x ≤ 1099511627776 * 1073741824 := by
  have h1 := asset_ok h hx
  obtain ⟨_, _, h3, _⟩ := (okAs_iff _).1 h1
  refine ⟨value_nonneg h1 hu.1, Int.le_trans (value_le h1 hu.1) ?_⟩
  exact Int.le_trans (Int.mul_le_mul_of_nonneg_right hu.2 (by omega)) (Int.mul_le_mul_of_nonneg_left h3.2 (by omega))
/-! ### one is put in, or taken out -/
def covO (r : Rl) (who cur : Int) (o : Option Pg) : Int := match o with | some x => covG r who cur x | none => 0
/-! ### what a member lacks -/
/-- Beside a cover (its error, its number), a book (ok: is it right?) and a margin (its error, its number). -/
def shortE (ce c : Int) (ok : Bool) (me m : Int) : Int := if ce = 0 then (if ok = true then (if me = 0 then (if 4611686018427387904 < m - c then 1 else 0) else me) else 14) else ce
def shortN (ce c : Int) (ok : Bool) (me m : Int) : Int := if shortE ce c ok me m = 0 then (if m - c < 0 then 0 else m - c) else 0
theorem shortE_iff {ce c : Int} {ok : Bool} {me m : Int} : shortE ce c ok me m = 0 ↔ ce = 0 ∧ ok = true ∧ me = 0 ∧ m - c ≤ 4611686018427387904 := by
  unfold shortE
  by_cases h1 : ce = 0
  · rw [if_pos h1]
    by_cases h2 : ok = true
    · rw [if_pos h2]
      by_cases h3 : me = 0
      · rw [if_pos h3]
        by_cases h4 : 4611686018427387904 < m - c
        · rw [if_pos h4]; exact ⟨fun h => absurd h (by decide), fun h => absurd h.2.2.2 (by omega)⟩
        · rw [if_neg h4]; exact ⟨fun _ => ⟨h1, h2, h3, by omega⟩, fun _ => rfl⟩
      · rw [if_neg h3]; exact ⟨fun h => absurd h h3, fun h => absurd h.2.2.1 h3⟩
    · rw [if_neg h2]; exact ⟨fun h => absurd h (by decide), fun h => absurd h.2.1 h2⟩
  · rw [if_neg h1]; exact ⟨fun h => absurd h h1, fun h => absurd h.1 h1⟩
/-- With so much cash more, nothing is lacking. -/
theorem short_paid {r : Rl} {who cur b n m me : Int} {l : List Pg} {ok ok2 bk : Bool} (h : shortE (covE ok b r who cur l) (covN ok b r who cur l) bk me m = 0) (hn : shortN (covE ok b r who cur l) (covN ok b r who cur l) bk me m = n) (h2 : shortE (covE ok2 (b + n) r who cur l) (covN ok2 (b + n) r who cur l) bk me m = 0) :
    shortN (covE ok2 (b + n) r who cur l) (covN ok2 (b + n) r who cur l) bk me m = 0 := by
  obtain ⟨g1, _⟩ := shortE_iff.1 h
  obtain ⟨f1, _⟩ := shortE_iff.1 h2
  have e1 : covN ok b r who cur l = b + covS r who cur l := by unfold covN; rw [if_pos g1]
  have e2 : covN ok2 (b + n) r who cur l = b + n + covS r who cur l := by unfold covN; rw [if_pos f1]
  unfold shortN at hn ⊢
  rw [if_pos h, e1] at hn
  rw [if_pos h2, e2]
  split at hn <;> split <;> omega
end Go.Proofs.YtodnllopokoicaaGreat.NumK
