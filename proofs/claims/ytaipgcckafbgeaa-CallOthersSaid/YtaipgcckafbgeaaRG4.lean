/- Members, instruments, assets in memory; which are right. -/
import Derived.Test.YtaipgcckafbgeaaRG2
import Derived.Deep.RegionHeld3
import Derived.Test.YtaipgcckafbgeaaRG1
import Derived.Deep.RegionWith
import Derived.BigQuiet
import Derived.Test.YtaipgcckafbgeaaRG3
import Derived.Deep.DeepCutAuto
import Derived.Deep.Light
namespace Go.Proofs.Ytaipgcckafbgeaa.NumK
open Go.RowKit

def enMb : En Mb := ⟨3, fun x => [.int .i64 x.1, .int .i64 x.2.1, .int .i64 x.2.2], fun _ => rfl, fun a v hv => by
  simp at hv; rcases hv with rfl | rfl | rfl <;> rfl, by decide⟩
def enAs : En As := ⟨4, fun x => [.int .i64 x.1, .int .i64 x.2.1, .int .i64 x.2.2.1, .int .i64 x.2.2.2], fun _ => rfl, fun a v hv => by
  simp at hv; rcases hv with rfl | rfl | rfl | rfl <;> rfl, by decide⟩
def enIn : En In := ⟨12, fun x => [.int .i64 x.1.1, .int .i64 x.1.2.1, .int .i64 x.1.2.2.1, .int .i64 x.1.2.2.2.1, .int .i64 x.1.2.2.2.2.1, .int .i64 x.1.2.2.2.2.2,
    .int .i64 x.2.1, .int .i64 x.2.2.1, .int .i64 x.2.2.2.1, .int .i64 x.2.2.2.2.1, .int .i64 x.2.2.2.2.2.1, .int .i64 x.2.2.2.2.2.2], fun _ => rfl, fun a v hv => by
  simp at hv; rcases hv with rfl | rfl | rfl | rfl | rfl | rfl | rfl | rfl | rfl | rfl | rfl | rfl <;> rfl, by decide⟩

abbrev vMb (x : Mb) : Value := .agg #[.int .i64 x.1, .int .i64 x.2.1, .int .i64 x.2.2]
abbrev vAs (x : As) : Value := .agg #[.int .i64 x.1, .int .i64 x.2.1, .int .i64 x.2.2.1, .int .i64 x.2.2.2]
abbrev vIn (x : In) : Value := .agg #[.int .i64 x.1.1, .int .i64 x.1.2.1, .int .i64 x.1.2.2.1, .int .i64 x.1.2.2.2.1, .int .i64 x.1.2.2.2.2.1, .int .i64 x.1.2.2.2.2.2,
    .int .i64 x.2.1, .int .i64 x.2.2.1, .int .i64 x.2.2.2.1, .int .i64 x.2.2.2.2.1, .int .i64 x.2.2.2.2.2.1, .int .i64 x.2.2.2.2.2.2]

/-- The cells at a place are such a one's. -/
def CMb (w : World) (b p : Nat) (x : Mb) : Prop :=
  w.cell? ⟨b, p, none⟩ = some (.int .i64 x.1) ∧ w.cell? ⟨b, p + 1, none⟩ = some (.int .i64 x.2.1) ∧ w.cell? ⟨b, p + 2, none⟩ = some (.int .i64 x.2.2)
def CAs (w : World) (b p : Nat) (x : As) : Prop :=
  w.cell? ⟨b, p, none⟩ = some (.int .i64 x.1) ∧ w.cell? ⟨b, p + 1, none⟩ = some (.int .i64 x.2.1) ∧ w.cell? ⟨b, p + 2, none⟩ = some (.int .i64 x.2.2.1) ∧ w.cell? ⟨b, p + 3, none⟩ = some (.int .i64 x.2.2.2)
def CIn (w : World) (b p : Nat) (x : In) : Prop :=
  w.cell? ⟨b, p, none⟩ = some (.int .i64 x.1.1) ∧ w.cell? ⟨b, p + 1, none⟩ = some (.int .i64 x.1.2.1) ∧ w.cell? ⟨b, p + 2, none⟩ = some (.int .i64 x.1.2.2.1) ∧ w.cell? ⟨b, p + 3, none⟩ = some (.int .i64 x.1.2.2.2.1)
  ∧ w.cell? ⟨b, p + 4, none⟩ = some (.int .i64 x.1.2.2.2.2.1) ∧ w.cell? ⟨b, p + 5, none⟩ = some (.int .i64 x.1.2.2.2.2.2) ∧ w.cell? ⟨b, p + 6, none⟩ = some (.int .i64 x.2.1) ∧ w.cell? ⟨b, p + 7, none⟩ = some (.int .i64 x.2.2.1)
  ∧ w.cell? ⟨b, p + 8, none⟩ = some (.int .i64 x.2.2.2.1) ∧ w.cell? ⟨b, p + 9, none⟩ = some (.int .i64 x.2.2.2.2.1) ∧ w.cell? ⟨b, p + 10, none⟩ = some (.int .i64 x.2.2.2.2.2.1) ∧ w.cell? ⟨b, p + 11, none⟩ = some (.int .i64 x.2.2.2.2.2.2)

theorem CMb.keep {w w' : World} {b p : Nat} {x : Mb} (h : CMb w b p x) (g : Grew w w') (hb : b < w.heap.size) : CMb w' b p x :=
  ⟨(grew_cell g (p := ⟨b, _, none⟩) hb).trans h.1, (grew_cell g (p := ⟨b, _, none⟩) hb).trans h.2.1, (grew_cell g (p := ⟨b, _, none⟩) hb).trans h.2.2⟩
theorem CAs.keep {w w' : World} {b p : Nat} {x : As} (h : CAs w b p x) (g : Grew w w') (hb : b < w.heap.size) : CAs w' b p x :=
  ⟨(grew_cell g (p := ⟨b, _, none⟩) hb).trans h.1, (grew_cell g (p := ⟨b, _, none⟩) hb).trans h.2.1, (grew_cell g (p := ⟨b, _, none⟩) hb).trans h.2.2.1, (grew_cell g (p := ⟨b, _, none⟩) hb).trans h.2.2.2⟩
theorem CIn.keep {w w' : World} {b p : Nat} {x : In} (h : CIn w b p x) (g : Grew w w') (hb : b < w.heap.size) : CIn w' b p x := by
  obtain ⟨h0, h1, h2, h3, h4, h5, h6, h7, h8, h9, h10, h11⟩ := h
  exact ⟨(grew_cell g (p := ⟨b, _, none⟩) hb).trans h0, (grew_cell g (p := ⟨b, _, none⟩) hb).trans h1, (grew_cell g (p := ⟨b, _, none⟩) hb).trans h2, (grew_cell g (p := ⟨b, _, none⟩) hb).trans h3,
    (grew_cell g (p := ⟨b, _, none⟩) hb).trans h4, (grew_cell g (p := ⟨b, _, none⟩) hb).trans h5, (grew_cell g (p := ⟨b, _, none⟩) hb).trans h6, (grew_cell g (p := ⟨b, _, none⟩) hb).trans h7,
    (grew_cell g (p := ⟨b, _, none⟩) hb).trans h8, (grew_cell g (p := ⟨b, _, none⟩) hb).trans h9, (grew_cell g (p := ⟨b, _, none⟩) hb).trans h10, (grew_cell g (p := ⟨b, _, none⟩) hb).trans h11⟩

theorem RowE.as {w : World} {n : Nat} {l : List As} {A : Option Addr} (h : RowE enAs w A n l) {j : Nat} (hj : j < n) : ∃ b o, A = some ⟨b, o, none⟩ ∧ b < w.heap.size ∧ ∀ j, j < n → CAs w b (o + j * 4) (l.getD j as0) := by
  have hl := h.len
  obtain ⟨b, o, e, hb, hc⟩ := h.at (by omega)
  refine ⟨b, o, e, hb, fun j hj => ?_⟩
  have hj' : j < l.length := by omega
  rw [getD_at l as0 j hj']
  exact ⟨hc j hj' 0 (by decide), hc j hj' 1 (by decide), hc j hj' 2 (by decide), hc j hj' 3 (by decide)⟩
theorem RowE.in {w : World} {n : Nat} {l : List In} {A : Option Addr} (h : RowE enIn w A n l) {j : Nat} (hj : j < n) : ∃ b o, A = some ⟨b, o, none⟩ ∧ b < w.heap.size ∧ ∀ j, j < n → CIn w b (o + j * 12) (l.getD j in0) := by
  have hl := h.len
  obtain ⟨b, o, e, hb, hc⟩ := h.at (by omega)
  refine ⟨b, o, e, hb, fun j hj => ?_⟩
  have hj' : j < l.length := by omega
  rw [getD_at l in0 j hj']
  exact ⟨hc j hj' 0 (by decide), hc j hj' 1 (by decide), hc j hj' 2 (by decide), hc j hj' 3 (by decide), hc j hj' 4 (by decide), hc j hj' 5 (by decide), hc j hj' 6 (by decide), hc j hj' 7 (by decide), hc j hj' 8 (by decide), hc j hj' 9 (by decide), hc j hj' 10 (by decide), hc j hj' 11 (by decide)⟩

/-! ### numbers -/
theorem rcur_any (n : Int) (w : World) : Calls Try.prog 29 #[.int .i64 n] w fun e w' => e = .returned (.bool (wi n 0 2)) ∧ w = w' := by
  have CW := fun w => rwithin_any n 0 2 w
  generalize wi n 0 2 = R at *
  go_enter Try.func29, Try.ntmps29
  go_wp2_with (go_at_call 40; ((with_reducible refine (CW _).mono ?_); rintro e w1 ⟨rfl, rfl⟩))
  go_ret
  exact ⟨rfl, rfl⟩

end Go.Proofs.Ytaipgcckafbgeaa.NumK
namespace Go.Proofs.Ytaipgcckafbgeaa.NumK
open Go.RowKit


end Go.Proofs.Ytaipgcckafbgeaa.NumK
namespace Go.Proofs.Ytaipgcckafbgeaa.NumK
open Go.RowKit
set_option linter.unusedVariables false

end Go.Proofs.Ytaipgcckafbgeaa.NumK
namespace Go.Proofs.Ytaipgcckafbgeaa.NumK
open Go.RowKit
set_option linter.unusedVariables false

end Go.Proofs.Ytaipgcckafbgeaa.NumK
namespace Go.Proofs.Ytaipgcckafbgeaa.NumK
open Go.RowKit
set_option linter.unusedVariables false

end Go.Proofs.Ytaipgcckafbgeaa.NumK
namespace Go.Proofs.Ytaipgcckafbgeaa.NumK
open Go.RowKit

/-! ### rolls -/
abbrev rlV (A1 A2 A3 : Option Addr) (n1 n2 n3 c1 c2 c3 : Nat) : Value := .agg #[.slice A1 n1 c1, .slice A2 n2 c2, .slice A3 n3 c3]
/-- A roll's rows, wherever they lie. -/
structure Rows3 (w : World) (r : Rl) (A1 A2 A3 : Option Addr) (n1 n2 n3 : Nat) : Prop where
  m : RowE enMb w A1 n1 r.1
  i : RowE enIn w A2 n2 r.2.1
  h : RowE enAs w A3 n3 r.2.2
theorem Rows3.keep {w w' : World} {r : Rl} {A1 A2 A3 : Option Addr} {n1 n2 n3 : Nat} (h : Rows3 w r A1 A2 A3 n1 n2 n3) (g : Grew w w') : Rows3 w' r A1 A2 A3 n1 n2 n3 := ⟨h.m.keep g, h.i.keep g, h.h.keep g⟩

end Go.Proofs.Ytaipgcckafbgeaa.NumK
namespace Go.Proofs.Ytaipgcckafbgeaa.NumK
open Go.RowKit
set_option linter.unusedVariables false

def rightR (r : Rl) : Bool := rightL okMb noMb mb0 r.1 && (rightL okIn noIn in0 r.2.1 && rightL okAs noAs as0 r.2.2)

def chkV (r : Rl) : Int := if rightR r = true then 0 else 14
section
variable {w w' : World} {base : Nat} {r : Rl} {A1 A2 A3 : Option Addr} {c1 c2 c3 : Nat}
end
/-- What of a roll's slices is known whoever owns them. -/
structure In3 (w : World) (r : Rl) (A1 A2 A3 : Option Addr) (n1 n2 n3 c1 c2 c3 : Nat) : Prop where
  rows : Rows3 w r A1 A2 A3 n1 n2 n3
  k1 : A1 = none → c1 = 0
  k2 : A2 = none → c2 = 0
  k3 : A3 = none → c3 = 0
  l1 : n1 ≤ c1 ∧ c1 ≤ 9223372036854775807
  l2 : n2 ≤ c2 ∧ c2 ≤ 9223372036854775807
  l3 : n3 ≤ c3 ∧ c3 ≤ 9223372036854775807
theorem In3.keep {w w' : World} {r : Rl} {A1 A2 A3 : Option Addr} {n1 n2 n3 c1 c2 c3 : Nat} (h : In3 w r A1 A2 A3 n1 n2 n3 c1 c2 c3) (g : Grew w w') : In3 w' r A1 A2 A3 n1 n2 n3 c1 c2 c3 := ⟨h.rows.keep g, h.k1, h.k2, h.k3, h.l1, h.l2, h.l3⟩
end Go.Proofs.Ytaipgcckafbgeaa.NumK
namespace Go.Proofs.Ytaipgcckafbgeaa.NumK
open Go.RowKit
set_option linter.unusedVariables false

def qsOK (l : List Po) : Bool := l.all fun p => okQ p.2.2.1
def lossOK (r : Rl) (who cur : Int) (l : List Po) : Bool := (List.range 6).all fun j => isMoney (lossV r who cur l j)
def lossE (r : Rl) (who cur : Int) (l : List Po) : Int := if rightR r = true then (if qsOK l = true then (if lossOK r who cur l = true then 0 else 1) else 3) else 14
/-- What a scenario tells: nothing beside an error. -/
def lossA (r : Rl) (who cur : Int) (l : List Po) (j : Nat) : Int := if lossE r who cur l = 0 then lossV r who cur l j else 0
def margE (r : Rl) (who cur : Int) (l : List Po) : Int := if lossE r who cur l = 0 then (if isMoney (margV r who cur l) = true then 0 else 1) else lossE r who cur l
def margN (r : Rl) (who cur : Int) (l : List Po) : Int := if margE r who cur l = 0 then margV r who cur l else 0

/-! ### the laws -/
end Go.Proofs.Ytaipgcckafbgeaa.NumK
namespace Go.Proofs.Ytaipgcckafbgeaa.NumK
open Go.RowKit
set_option linter.unusedVariables false

def assetOf (r : Rl) (x : Pg) : As := findL noAs as0 r.2.2 x.2.1
def hasA (r : Rl) (x : Pg) : Bool := hasL noAs r.2.2 x.2.1
/-- Does a pledge count? -/
def cntV (r : Rl) (who cur : Int) (x : Pg) : Bool := hasA r x && (decide (x.1 = who) && decide ((assetOf r x).2.1 = cur))
def valP (r : Rl) (x : Pg) : Int := valueV (assetOf r x) x.2.2
def covG (r : Rl) (who cur : Int) (x : Pg) : Int := if cntV r who cur x = true then valP r x else 0
def covS (r : Rl) (who cur : Int) (l : List Pg) : Int := (l.map (covG r who cur)).sum
def valsOK (r : Rl) (who cur : Int) (l : List Pg) : Bool := l.all fun x => !(cntV r who cur x) || decide (valP r x ≤ 4611686018427387904)
/-- Beside a ledger (ok: is it right?) in which the cash is b. -/
def covE (ok : Bool) (b : Int) (r : Rl) (who cur : Int) (l : List Pg) : Int :=
  if ok = true ∧ rightR r = true ∧ rightPg l = true then (if valsOK r who cur l = true ∧ isMoney (b + covS r who cur l) = true then 0 else 1) else 14
def covN (ok : Bool) (b : Int) (r : Rl) (who cur : Int) (l : List Pg) : Int := if covE ok b r who cur l = 0 then b + covS r who cur l else 0
/-! ### one is put in, or taken out -/
def covO (r : Rl) (who cur : Int) (o : Option Pg) : Int := match o with | some x => covG r who cur x | none => 0
/-! ### what a member lacks -/
/-- Beside a cover (its error, its number), a book (ok: is it right?) and a margin (its error, its number). -/
def shortE (ce c : Int) (ok : Bool) (me m : Int) : Int := if ce = 0 then (if ok = true then (if me = 0 then (if 4611686018427387904 < m - c then 1 else 0) else me) else 14) else ce
def shortN (ce c : Int) (ok : Bool) (me m : Int) : Int := if shortE ce c ok me m = 0 then (if m - c < 0 then 0 else m - c) else 0
end Go.Proofs.Ytaipgcckafbgeaa.NumK
namespace Go.Proofs.Ytaipgcckafbgeaa.NumK
open Go.RowKit
set_option linter.unusedVariables false

def cmpI (x y : Int) : Int := if x < y then -1 else if x > y then 1 else 0
theorem isNaN_any (x : Int) (w : World) : Calls Try.prog 43 #[.int .i64 x] w fun e w' => e = .returned (.bool false) ∧ w = w' := by
  go_enter Try.func43, Try.ntmps43
  go_wp2
  go_ret
  exact ⟨rfl, rfl⟩
theorem compare_any (x y : Int) (w : World) : Calls Try.prog 39 #[.int .i64 x, .int .i64 y] w fun e w' => e = .returned (.int .i64 (cmpI x y)) ∧ w = w' := by
  have C1 := fun w => isNaN_any x w
  have C2 := fun w => isNaN_any y w
  have HC : Hid (cmpI x y = if x < y then -1 else if x > y then 1 else 0) := rfl
  generalize cmpI x y = R at *
  by_cases h1 : x < y
  · have HR : Hid (R = -1) := by show _ = _; rw [HC.out, if_pos h1]
    clear HC
    go_enter Try.func39, Try.ntmps39
    go_wp2_with (first
      | (go_at_call 43; ((with_reducible refine (C1 _).mono ?_); rintro e w1 ⟨rfl, rfl⟩))
      | (go_at_call 43; ((with_reducible refine (C2 _).mono ?_); rintro e w1 ⟨rfl, rfl⟩)))
    go_ret
    exact ⟨ret_i HR.out.symm, rfl⟩
  · by_cases h2 : x > y
    · have HR : Hid (R = 1) := by show _ = _; rw [HC.out, if_neg h1, if_pos h2]
      clear HC
      go_enter Try.func39, Try.ntmps39
      go_wp2_with (first
        | (go_at_call 43; ((with_reducible refine (C1 _).mono ?_); rintro e w1 ⟨rfl, rfl⟩))
        | (go_at_call 43; ((with_reducible refine (C2 _).mono ?_); rintro e w1 ⟨rfl, rfl⟩)))
      go_ret
      exact ⟨ret_i HR.out.symm, rfl⟩
    · have HR : Hid (R = 0) := by show _ = _; rw [HC.out, if_neg h1, if_neg h2]
      clear HC
      go_enter Try.func39, Try.ntmps39
      go_wp2_with (first
        | (go_at_call 43; ((with_reducible refine (C1 _).mono ?_); rintro e w1 ⟨rfl, rfl⟩))
        | (go_at_call 43; ((with_reducible refine (C2 _).mono ?_); rintro e w1 ⟨rfl, rfl⟩)))
      go_ret
      exact ⟨ret_i HR.out.symm, rfl⟩
theorem RowE.one {α : Type} (E : En α) (w : World) (x : α) (t : TypeId) (N : Nat) (hN : N = w.heap.size) : RowE E (w.alloc (.cells (E.cs x).toArray t)) (some ⟨N, 0, none⟩) 1 [x] := by
  subst hN
  refine ⟨rfl, fun _ => ⟨_, _, rfl, by simp, fun j hj => ⟨_, rfl, fun i hi => ?_⟩⟩⟩
  have hj : j < 1 := hj
  obtain rfl : j = 0 := by omega
  rw [Nat.zero_mul, Nat.zero_add, World.cell?_alloc_at _ _ _ _ rfl]
  simp
theorem RowE.dropO {α : Type} {E : En α} {w : World} {ad : Option Addr} {n k : Nat} {l : List α} (h : RowE E w ad n l) (hk : k ≤ n) : RowE E w (Option.map (fun x => x.add (k * E.size)) ad) (n - k) (l.drop k) := by
  cases ad with
  | none =>
    have h0 : n = 0 := by
      rcases Nat.eq_zero_or_pos n with h1 | h1
      · exact h1
      · obtain ⟨b, o, e, _⟩ := h.2 h1; cases e
    subst h0
    have hl := List.eq_nil_of_length_eq_zero h.len
    rw [hl, List.drop_nil, Nat.zero_sub]
    exact RowE.nil _ _ _
  | some a => exact Row.drop h hk
end Go.Proofs.Ytaipgcckafbgeaa.NumK
namespace Go.Proofs.Ytaipgcckafbgeaa.NumK
open Go.RowKit
set_option linter.unusedVariables false

def enPo : En Po := ⟨4, fun x => [.int .i64 x.1, .int .i64 x.2.1, .int .i64 x.2.2.1, .int .i64 x.2.2.2], fun _ => rfl, fun a v hv => by
  simp at hv; rcases hv with rfl | rfl | rfl | rfl <;> rfl, by decide⟩
def enTr : En Tr := ⟨7, fun t => [.int .i64 t.1.1, .int .i64 t.1.2.1, .int .i64 t.1.2.2.1, .int .i64 t.1.2.2.2.1, .int .i64 t.1.2.2.2.2.1, .int .i64 t.1.2.2.2.2.2, .bool t.2], fun _ => rfl, fun a v hv => by
  simp at hv; rcases hv with rfl | rfl | rfl | rfl | rfl | rfl | rfl <;> rfl, by decide⟩
abbrev vPo (x : Po) : Value := .agg #[.int .i64 x.1, .int .i64 x.2.1, .int .i64 x.2.2.1, .int .i64 x.2.2.2]
abbrev vTr (t : Tr) : Value := .agg #[.int .i64 t.1.1, .int .i64 t.1.2.1, .int .i64 t.1.2.2.1, .int .i64 t.1.2.2.2.1, .int .i64 t.1.2.2.2.2.1, .int .i64 t.1.2.2.2.2.2, .bool t.2]
def CPo (w : World) (b p : Nat) (x : Po) : Prop :=
  w.cell? ⟨b, p, none⟩ = some (.int .i64 x.1) ∧ w.cell? ⟨b, p + 1, none⟩ = some (.int .i64 x.2.1) ∧ w.cell? ⟨b, p + 2, none⟩ = some (.int .i64 x.2.2.1) ∧ w.cell? ⟨b, p + 3, none⟩ = some (.int .i64 x.2.2.2)
theorem CPo.keep {w w' : World} {b p : Nat} {x : Po} (h : CPo w b p x) (g : Grew w w') (hb : b < w.heap.size) : CPo w' b p x :=
  ⟨(grew_cell g (p := ⟨b, _, none⟩) hb).trans h.1, (grew_cell g (p := ⟨b, _, none⟩) hb).trans h.2.1, (grew_cell g (p := ⟨b, _, none⟩) hb).trans h.2.2.1, (grew_cell g (p := ⟨b, _, none⟩) hb).trans h.2.2.2⟩
def CTr (w : World) (b p : Nat) (t : Tr) : Prop :=
  w.cell? ⟨b, p, none⟩ = some (.int .i64 t.1.1) ∧ w.cell? ⟨b, p + 1, none⟩ = some (.int .i64 t.1.2.1) ∧ w.cell? ⟨b, p + 2, none⟩ = some (.int .i64 t.1.2.2.1) ∧ w.cell? ⟨b, p + 3, none⟩ = some (.int .i64 t.1.2.2.2.1)
  ∧ w.cell? ⟨b, p + 4, none⟩ = some (.int .i64 t.1.2.2.2.2.1) ∧ w.cell? ⟨b, p + 5, none⟩ = some (.int .i64 t.1.2.2.2.2.2) ∧ w.cell? ⟨b, p + 6, none⟩ = some (.bool t.2)
theorem CTr.keep {w w' : World} {b p : Nat} {t : Tr} (h : CTr w b p t) (g : Grew w w') (hb : b < w.heap.size) : CTr w' b p t := by
  obtain ⟨h0, h1, h2, h3, h4, h5, h6⟩ := h
  exact ⟨(grew_cell g (p := ⟨b, _, none⟩) hb).trans h0, (grew_cell g (p := ⟨b, _, none⟩) hb).trans h1, (grew_cell g (p := ⟨b, _, none⟩) hb).trans h2, (grew_cell g (p := ⟨b, _, none⟩) hb).trans h3,
    (grew_cell g (p := ⟨b, _, none⟩) hb).trans h4, (grew_cell g (p := ⟨b, _, none⟩) hb).trans h5, (grew_cell g (p := ⟨b, _, none⟩) hb).trans h6⟩
end Go.Proofs.Ytaipgcckafbgeaa.NumK
namespace Go.Proofs.Ytaipgcckafbgeaa.NumK
open Go.RowKit
set_option linter.unusedVariables false

abbrev vKy (k : Ky) : Value := .agg #[.int .i64 k.1, .int .i64 k.2]

/-- Neither quantity nor cost. -/
def noneP (q c : Int) : Bool := decide (q = 0) && decide (c = 0)
end Go.Proofs.Ytaipgcckafbgeaa.NumK
namespace Go.Proofs.Ytaipgcckafbgeaa.NumK
open Go.RowKit

end Go.Proofs.Ytaipgcckafbgeaa.NumK
namespace Go.Proofs.Ytaipgcckafbgeaa.NumK
open Go.RowKit
set_option linter.unusedVariables false


end Go.Proofs.Ytaipgcckafbgeaa.NumK
namespace Go.Proofs.Ytaipgcckafbgeaa.NumK
open Go.RowKit
set_option linter.unusedVariables false

end Go.Proofs.Ytaipgcckafbgeaa.NumK
namespace Go.Proofs.Ytaipgcckafbgeaa.NumK
open Go.RowKit
set_option linter.unusedVariables false

end Go.Proofs.Ytaipgcckafbgeaa.NumK
namespace Go.Proofs.Ytaipgcckafbgeaa.NumK
open Go.RowKit
set_option linter.unusedVariables false

theorem gwithin_any (n lo hi : Int) (w : World) : Calls Try.prog 30 #[.int .i64 n, .int .i64 lo, .int .i64 hi] w fun e w' => e = .returned (.bool (wi n lo hi)) ∧ w = w' := by
  have HV : Hid (wi n lo hi = (decide (lo ≤ n) && decide (n ≤ hi))) := rfl
  generalize wi n lo hi = V at *
  by_cases h1 : lo ≤ n
  · by_cases h2 : n ≤ hi
    · have HF : Hid (V = true) := by show _ = _; rw [HV.out, decide_eq_true h1, decide_eq_true h2]; rfl
      clear HV
      go_enter Try.func30, Try.ntmps30
      go_wp2
      go_ret
      exact ⟨by rw [HF.out]; try rfl, rfl⟩
    · have HF : Hid (V = false) := by show _ = _; rw [HV.out, decide_eq_false h2]; exact Bool.and_false _
      clear HV
      go_enter Try.func30, Try.ntmps30
      go_wp2
      go_ret
      exact ⟨by rw [HF.out]; try rfl, rfl⟩
  · have HF : Hid (V = false) := by show _ = _; rw [HV.out, decide_eq_false h1]; rfl
    clear HV
    go_enter Try.func30, Try.ntmps30
    go_wp2
    go_ret
    exact ⟨by rw [HF.out]; try rfl, rfl⟩

def AtQ (l : List Po) (w : World) (e : Ending) (w' : World) : Prop := ∃ r : Int, (0 ≤ r ↔ qsOK l = false) ∧ -1 ≤ r ∧ e = .returned (.int .i64 r) ∧ Grew w w'

end Go.Proofs.Ytaipgcckafbgeaa.NumK
namespace Go.Proofs.Ytaipgcckafbgeaa.NumK
open Go.RowKit

def wqV (x n : Int) : Int := if 0 < n then capV (x / n) else 0
def wqR (x n : Int) : Int := if 0 < n ∧ isMoney (x / n) = true then x % n else 0
def wqE (x n : Int) : Int := if 0 < n then capE (x / n) else 2

end Go.Proofs.Ytaipgcckafbgeaa.NumK
namespace Go.Proofs.Ytaipgcckafbgeaa.NumK
open Go.RowKit

def wqB (x n : Int) : Bool := decide (0 < n) && isMoney (x / n)
end Go.Proofs.Ytaipgcckafbgeaa.NumK
namespace Go.Proofs.Ytaipgcckafbgeaa.NumK
open Go.RowKit

end Go.Proofs.Ytaipgcckafbgeaa.NumK
namespace Go.Proofs.Ytaipgcckafbgeaa.NumK
open Go.RowKit
set_option linter.unusedVariables false

def enPg : En Pg := ⟨3, fun x => [.int .i64 x.1, .int .i64 x.2.1, .int .i64 x.2.2], fun _ => rfl, fun a v hv => by
  simp at hv; rcases hv with rfl | rfl | rfl <;> rfl, by decide⟩
abbrev vPg (x : Pg) : Value := .agg #[.int .i64 x.1, .int .i64 x.2.1, .int .i64 x.2.2]
/-- The cells at a place are such a one's. -/
def CPg (w : World) (b p : Nat) (x : Pg) : Prop :=
  w.cell? ⟨b, p, none⟩ = some (.int .i64 x.1) ∧ w.cell? ⟨b, p + 1, none⟩ = some (.int .i64 x.2.1) ∧ w.cell? ⟨b, p + 2, none⟩ = some (.int .i64 x.2.2)
theorem CPg.keep {w w' : World} {b p : Nat} {x : Pg} (h : CPg w b p x) (g : Grew w w') (hb : b < w.heap.size) : CPg w' b p x :=
  ⟨(grew_cell g (p := ⟨b, _, none⟩) hb).trans h.1, (grew_cell g (p := ⟨b, _, none⟩) hb).trans h.2.1, (grew_cell g (p := ⟨b, _, none⟩) hb).trans h.2.2⟩
/-! ### numbers -/
/-! ### their order -/
def orI (x y : Int) : Int := if x ≠ 0 then x else y
theorem or_any (A : Option Addr) (c : Nat) (x y : Int) (w : World) (h : Ints w A 2 [x, y]) :
    Calls Try.prog 38 #[.slice A 2 c] w fun e w' => e = .returned (.int .i64 (orI x y)) ∧ w = w' := by
  have HV : Hid (orI x y = if x ≠ 0 then x else y) := rfl
  generalize orI x y = V at *
  obtain ⟨b, o, rfl, hb, hc⟩ := h.2 (by decide)
  have HA0 : Hid (w.cell? ⟨b, o, none⟩ = some (.int .i64 x)) := hc 0 (by decide)
  have HA1 : Hid (w.cell? ⟨b, o + 1, none⟩ = some (.int .i64 y)) := hc 1 (by decide)
  clear hc h
  go_enter Try.func38, Try.ntmps38
  go_wp2
  go_loop [5, 8] (fun v5 v8 => ∃ j : Nat, v8 = .int .i64 j ∧ Hid (j = 0 ∨ (j = 1 ∧ x = 0) ∨ (j = 2 ∧ x = 0 ∧ y = 0))) (fun _ v8 => 2 - (intOf v8).toNat)
  case atStart => exact ⟨0, rfl, .inl rfl⟩
  case round =>
    obtain ⟨j, rfl, HS⟩ := hrel
    rcases HS.out with rfl | ⟨rfl, rfl⟩ | ⟨rfl, rfl, rfl⟩
    · have a0 := HA0.out
      clear HS HA0 HA1
      by_cases h1 : x = 0
      · subst h1
        clear HV
        go_wp2
        go_round
        case rel => exact ⟨1, by go_num, .inr (.inl ⟨rfl, by trivial⟩)⟩
        case measure => simp only [intOf]; omega
      · have HF : Hid (V = x) := by show _ = _; rw [HV.out, if_pos h1]
        have d1 : (x == 0) = false := by simpa using h1
        clear HV h1
        go_wp2
        go_ret
        exact ⟨ret_i HF.out.symm, by first | rfl | trivial⟩
    · have a1 := HA1.out
      have HF : Hid (V = y) := by show _ = _; rw [HV.out, if_neg (by simp)]
      clear HS HA0 HA1 HV
      by_cases h1 : y = 0
      · subst h1
        clear HF
        go_wp2
        go_round
        case rel => exact ⟨2, by go_num, .inr (.inr ⟨rfl, by trivial⟩)⟩
        case measure => simp only [intOf]; omega
      · have d1 : (y == 0) = false := by simpa using h1
        clear h1
        go_wp2
        go_ret
        exact ⟨ret_i HF.out.symm, by first | rfl | trivial⟩
    · have HF : Hid (V = 0) := by show _ = _; rw [HV.out, if_neg (by simp)]
      clear HS HA0 HA1 HV
      go_wp2
      go_ret
      exact ⟨ret_i HF.out.symm, by first | rfl | trivial⟩

/-- As Who and Asset say. -/
def ordP (x y : Pg) : Int := orI (cmpI x.1 y.1) (cmpI x.2.1 y.2.1)
end Go.Proofs.Ytaipgcckafbgeaa.NumK
namespace Go.Proofs.Ytaipgcckafbgeaa.NumK
open Go.RowKit
set_option linter.unusedVariables false

def chkP (l : List Pg) : Int := if rightPg l = true then 0 else 14
theorem calls_pure {P : Program} {f : FuncId} {args : Array Value} {w : World} {v : Value}
    (h : ∀ w', Calls P f args w' fun e w'' => e = .returned v ∧ w' = w'') : ∀ w', Grew w w' → Calls P f args w' fun e w'' => e = .returned v ∧ Grew w' w'' := fun w' _ =>
  (h w').mono (by rintro e w1 ⟨rfl, rfl⟩; exact ⟨rfl, grew_refl _⟩)

end Go.Proofs.Ytaipgcckafbgeaa.NumK
namespace Go.Proofs.Ytaipgcckafbgeaa.NumK
open Go.RowKit
set_option linter.unusedVariables false

end Go.Proofs.Ytaipgcckafbgeaa.NumK
