/- Members, instruments, assets in memory; which are right. -/
import Derived.Test.YtahioajpmlochaaGreatRH2
import Derived.Test.YtahioajpmlochaaGreatRH3
import Derived.Deep.RegionHeld3
import Derived.Test.YtahioajpmlochaaGreatRH1
import Derived.Deep.Slices
import Derived.Test.YtahioajpmlochaaGreatRH14
import Derived.Test.YtahioajpmlochaaGreatRH24
namespace Go.Proofs.YtahioajpmlochaaGreat.NumK
open Go.RowKit

def enMb : En Mb := ⟨3, fun x => [.int .i64 x.1, .int .i64 x.2.1, .int .i64 x.2.2], fun _ => rfl, fun a v hv => by
  simp at hv; rcases hv with rfl | rfl | rfl <;> rfl, by decide⟩
def enAs : En As := ⟨4, fun x => [.int .i64 x.1, .int .i64 x.2.1, .int .i64 x.2.2.1, .int .i64 x.2.2.2], fun _ => rfl, fun a v hv => by
  simp at hv; rcases hv with rfl | rfl | rfl | rfl <;> rfl, by decide⟩
def enIn : En In := ⟨12, fun x => [.int .i64 x.1.1, .int .i64 x.1.2.1, .int .i64 x.1.2.2.1, .int .i64 x.1.2.2.2.1, .int .i64 x.1.2.2.2.2.1, .int .i64 x.1.2.2.2.2.2,
    .int .i64 x.2.1, .int .i64 x.2.2.1, .int .i64 x.2.2.2.1, .int .i64 x.2.2.2.2.1, .int .i64 x.2.2.2.2.2.1, .int .i64 x.2.2.2.2.2.2], fun _ => rfl, fun a v hv => by
  simp at hv; rcases hv with rfl | rfl | rfl | rfl | rfl | rfl | rfl | rfl | rfl | rfl | rfl | rfl <;> rfl, by decide⟩

abbrev vMb (x : Mb) : Value := .agg #[.int .i64 x.1, .int .i64 x.2.1, .int .i64 x.2.2]
abbrev vAs (x : As) : Value := .agg #[.int .i64 x.1, .int .i64 x.2.1, .int .i64 x.2.2.1, .int .i64 x.2.2.2]
abbrev vIn (x : In) : Value := .agg #[.int .i64 x.1.1, .int .i64 x.1.2.1, .int .i64 x.1.2.2.1, .int .i64 x.1.2.2.2.1, .int .i64 x.1.2.2.2.2.1, .int .i64 x.1.2.2.2.2.2,
    .int .i64 x.2.1, .int .i64 x.2.2.1, .int .i64 x.2.2.2.1, .int .i64 x.2.2.2.2.1, .int .i64 x.2.2.2.2.2.1, .int .i64 x.2.2.2.2.2.2]

/-- The cells at a place are such a one's. -/
def CMb (w : World) (b p : Nat) (x : Mb) : Prop :=
  w.cell? ⟨b, p, none⟩ = some (.int .i64 x.1) ∧ w.cell? ⟨b, p + 1, none⟩ = some (.int .i64 x.2.1) ∧ w.cell? ⟨b, p + 2, none⟩ = some (.int .i64 x.2.2)
def CAs (w : World) (b p : Nat) (x : As) : Prop :=
  w.cell? ⟨b, p, none⟩ = some (.int .i64 x.1) ∧ w.cell? ⟨b, p + 1, none⟩ = some (.int .i64 x.2.1) ∧ w.cell? ⟨b, p + 2, none⟩ = some (.int .i64 x.2.2.1) ∧ w.cell? ⟨b, p + 3, none⟩ = some (.int .i64 x.2.2.2)
def CIn (w : World) (b p : Nat) (x : In) : Prop :=
  w.cell? ⟨b, p, none⟩ = some (.int .i64 x.1.1) ∧ w.cell? ⟨b, p + 1, none⟩ = some (.int .i64 x.1.2.1) ∧ w.cell? ⟨b, p + 2, none⟩ = some (.int .i64 x.1.2.2.1) ∧ w.cell? ⟨b, p + 3, none⟩ = some (.int .i64 x.1.2.2.2.1)
  ∧ w.cell? ⟨b, p + 4, none⟩ = some (.int .i64 x.1.2.2.2.2.1) ∧ w.cell? ⟨b, p + 5, none⟩ = some (.int .i64 x.1.2.2.2.2.2) ∧ w.cell? ⟨b, p + 6, none⟩ = some (.int .i64 x.2.1) ∧ w.cell? ⟨b, p + 7, none⟩ = some (.int .i64 x.2.2.1)
  ∧ w.cell? ⟨b, p + 8, none⟩ = some (.int .i64 x.2.2.2.1) ∧ w.cell? ⟨b, p + 9, none⟩ = some (.int .i64 x.2.2.2.2.1) ∧ w.cell? ⟨b, p + 10, none⟩ = some (.int .i64 x.2.2.2.2.2.1) ∧ w.cell? ⟨b, p + 11, none⟩ = some (.int .i64 x.2.2.2.2.2.2)

theorem CMb.keep {w w' : World} {b p : Nat} {x : Mb} (h : CMb w b p x) (g : Grew w w') (hb : b < w.heap.size) : CMb w' b p x :=
  ⟨(grew_cell g (p := ⟨b, _, none⟩) hb).trans h.1, (grew_cell g (p := ⟨b, _, none⟩) hb).trans h.2.1, (grew_cell g (p := ⟨b, _, none⟩) hb).trans h.2.2⟩
theorem CAs.keep {w w' : World} {b p : Nat} {x : As} (h : CAs w b p x) (g : Grew w w') (hb : b < w.heap.size) : CAs w' b p x :=
  ⟨(grew_cell g (p := ⟨b, _, none⟩) hb).trans h.1, (grew_cell g (p := ⟨b, _, none⟩) hb).trans h.2.1, (grew_cell g (p := ⟨b, _, none⟩) hb).trans h.2.2.1, (grew_cell g (p := ⟨b, _, none⟩) hb).trans h.2.2.2⟩
theorem CIn.keep {w w' : World} {b p : Nat} {x : In} (h : CIn w b p x) (g : Grew w w') (hb : b < w.heap.size) : CIn w' b p x := by
  obtain ⟨h0, h1, h2, h3, h4, h5, h6, h7, h8, h9, h10, h11⟩ := h
  exact ⟨(grew_cell g (p := ⟨b, _, none⟩) hb).trans h0, (grew_cell g (p := ⟨b, _, none⟩) hb).trans h1, (grew_cell g (p := ⟨b, _, none⟩) hb).trans h2, (grew_cell g (p := ⟨b, _, none⟩) hb).trans h3,
    (grew_cell g (p := ⟨b, _, none⟩) hb).trans h4, (grew_cell g (p := ⟨b, _, none⟩) hb).trans h5, (grew_cell g (p := ⟨b, _, none⟩) hb).trans h6, (grew_cell g (p := ⟨b, _, none⟩) hb).trans h7,
    (grew_cell g (p := ⟨b, _, none⟩) hb).trans h8, (grew_cell g (p := ⟨b, _, none⟩) hb).trans h9, (grew_cell g (p := ⟨b, _, none⟩) hb).trans h10, (grew_cell g (p := ⟨b, _, none⟩) hb).trans h11⟩

theorem RowE.as {w : World} {n : Nat} {l : List As} {A : Option Addr} (h : RowE enAs w A n l) {j : Nat} (hj : j < n) : ∃ b o, A = some ⟨b, o, none⟩ ∧ b < w.heap.size ∧ ∀ j, j < n → CAs w b (o + j * 4) (l.getD j as0) := by
  have hl := h.len
  obtain ⟨b, o, e, hb, hc⟩ := h.at (by omega)
  refine ⟨b, o, e, hb, fun j hj => ?_⟩
  have hj' : j < l.length := by omega
  rw [getD_at l as0 j hj']
  exact ⟨hc j hj' 0 (by decide), hc j hj' 1 (by decide), hc j hj' 2 (by decide), hc j hj' 3 (by decide)⟩
theorem RowE.in {w : World} {n : Nat} {l : List In} {A : Option Addr} (h : RowE enIn w A n l) {j : Nat} (hj : j < n) : ∃ b o, A = some ⟨b, o, none⟩ ∧ b < w.heap.size ∧ ∀ j, j < n → CIn w b (o + j * 12) (l.getD j in0) := by
  have hl := h.len
  obtain ⟨b, o, e, hb, hc⟩ := h.at (by omega)
  refine ⟨b, o, e, hb, fun j hj => ?_⟩
  have hj' : j < l.length := by omega
  rw [getD_at l in0 j hj']
  exact ⟨hc j hj' 0 (by decide), hc j hj' 1 (by decide), hc j hj' 2 (by decide), hc j hj' 3 (by decide), hc j hj' 4 (by decide), hc j hj' 5 (by decide), hc j hj' 6 (by decide), hc j hj' 7 (by decide), hc j hj' 8 (by decide), hc j hj' 9 (by decide), hc j hj' 10 (by decide), hc j hj' 11 (by decide)⟩

/-! ### numbers -/
end Go.Proofs.YtahioajpmlochaaGreat.NumK
namespace Go.Proofs.YtahioajpmlochaaGreat.NumK
open Go.RowKit


end Go.Proofs.YtahioajpmlochaaGreat.NumK
namespace Go.Proofs.YtahioajpmlochaaGreat.NumK
open Go.RowKit
set_option linter.unusedVariables false

end Go.Proofs.YtahioajpmlochaaGreat.NumK
namespace Go.Proofs.YtahioajpmlochaaGreat.NumK
open Go.RowKit
set_option linter.unusedVariables false

end Go.Proofs.YtahioajpmlochaaGreat.NumK
namespace Go.Proofs.YtahioajpmlochaaGreat.NumK
open Go.RowKit
set_option linter.unusedVariables false

end Go.Proofs.YtahioajpmlochaaGreat.NumK
namespace Go.Proofs.YtahioajpmlochaaGreat.NumK
open Go.RowKit

/-! ### rolls -/
abbrev rlV (A1 A2 A3 : Option Addr) (n1 n2 n3 c1 c2 c3 : Nat) : Value := .agg #[.slice A1 n1 c1, .slice A2 n2 c2, .slice A3 n3 c3]
/-- A roll's rows, wherever they lie. -/
structure Rows3 (w : World) (r : Rl) (A1 A2 A3 : Option Addr) (n1 n2 n3 : Nat) : Prop where
  m : RowE enMb w A1 n1 r.1
  i : RowE enIn w A2 n2 r.2.1
  h : RowE enAs w A3 n3 r.2.2
theorem Rows3.keep {w w' : World} {r : Rl} {A1 A2 A3 : Option Addr} {n1 n2 n3 : Nat} (h : Rows3 w r A1 A2 A3 n1 n2 n3) (g : Grew w w') : Rows3 w' r A1 A2 A3 n1 n2 n3 := ⟨h.m.keep g, h.i.keep g, h.h.keep g⟩

end Go.Proofs.YtahioajpmlochaaGreat.NumK
namespace Go.Proofs.YtahioajpmlochaaGreat.NumK
open Go.RowKit
set_option linter.unusedVariables false

def rightR (r : Rl) : Bool := rightL okMb noMb mb0 r.1 && (rightL okIn noIn in0 r.2.1 && rightL okAs noAs as0 r.2.2)

def chkV (r : Rl) : Int := if rightR r = true then 0 else 14
section
variable {w w' : World} {base : Nat} {r : Rl} {A1 A2 A3 : Option Addr} {c1 c2 c3 : Nat}
end
/-- What of a roll's slices is known whoever owns them. -/
structure In3 (w : World) (r : Rl) (A1 A2 A3 : Option Addr) (n1 n2 n3 c1 c2 c3 : Nat) : Prop where
  rows : Rows3 w r A1 A2 A3 n1 n2 n3
  k1 : A1 = none → c1 = 0
  k2 : A2 = none → c2 = 0
  k3 : A3 = none → c3 = 0
  l1 : n1 ≤ c1 ∧ c1 ≤ 9223372036854775807
  l2 : n2 ≤ c2 ∧ c2 ≤ 9223372036854775807
  l3 : n3 ≤ c3 ∧ c3 ≤ 9223372036854775807
theorem In3.keep {w w' : World} {r : Rl} {A1 A2 A3 : Option Addr} {n1 n2 n3 c1 c2 c3 : Nat} (h : In3 w r A1 A2 A3 n1 n2 n3 c1 c2 c3) (g : Grew w w') : In3 w' r A1 A2 A3 n1 n2 n3 c1 c2 c3 := ⟨h.rows.keep g, h.k1, h.k2, h.k3, h.l1, h.l2, h.l3⟩
end Go.Proofs.YtahioajpmlochaaGreat.NumK
namespace Go.Proofs.YtahioajpmlochaaGreat.NumK
open Go.RowKit Go.ChangeShapes Go.WideShapes
set_option linter.unusedVariables false

/-! ### rolls among the arguments -/
abbrev spI : Sp Int := spInt .i64
abbrev spMb : Sp Mb := spPair spI (spPair spI spI)
abbrev spAs : Sp As := spPair spI (spPair spI (spPair spI spI))
abbrev spSh : Sp (List Int) := spArr 6 spI
abbrev spInA : Sp (Int × Int × Int × Int × Int × Int × List Int) := spPair spI (spPair spI (spPair spI (spPair spI (spPair spI (spPair spI spSh)))))
def toIn (x : Int × Int × Int × Int × Int × Int × List Int) : In :=
  ((x.1, x.2.1, x.2.2.1, x.2.2.2.1, x.2.2.2.2.1, x.2.2.2.2.2.1), (x.2.2.2.2.2.2.getD 0 0, x.2.2.2.2.2.2.getD 1 0, x.2.2.2.2.2.2.getD 2 0, x.2.2.2.2.2.2.getD 3 0, x.2.2.2.2.2.2.getD 4 0, x.2.2.2.2.2.2.getD 5 0))
theorem opens_i : Opens Tryz.prog 3 spI := opens_int Tryz.underlying3 (by kernel_rfl)
def spIn : Sp In := spMap toIn spInA
theorem rowE_of {α : Type} {A : Sp α} {E : En α} (hs : E.size = A.size) (hf : ∀ w cs a, A.rd w cs a → cs = E.cs a) {w : World} {ad : Option Addr} {n : Nat} {l : List α} (h : Row A w ad n l) : RowE E w ad n l := by
  have := Row.imp (A := A) (B := E.sp) (fun x => x) hs (fun cs a hr => hf w cs a hr) h
  rwa [List.map_id'] at this
abbrev spRl : Sp Rl := spPair (spSlice spMb) (spPair (spSlice spIn) (spSlice spAs))
/-! ### Heavy -/
def heavyR (n1 n2 n3 : Nat) : Bool := decide (n1 > 100) || (decide (n2 > 100) || decide (n3 > 100))
end Go.Proofs.YtahioajpmlochaaGreat.NumK
namespace Go.Proofs.YtahioajpmlochaaGreat.NumK
open Go.RowKit Go.ChangeShapes Go.WideShapes
set_option linter.unusedVariables false

abbrev spTrA : Sp (Int × Int × Int × Int × Int × Int × Bool) := spPair spI (spPair spI (spPair spI (spPair spI (spPair spI (spPair spI spBool)))))
def toTr (x : Int × Int × Int × Int × Int × Int × Bool) : Tr := ((x.1, x.2.1, x.2.2.1, x.2.2.2.1, x.2.2.2.2.1, x.2.2.2.2.2.1), x.2.2.2.2.2.2)
def spTr : Sp Tr := spMap toTr spTrA
theorem opens_bool1 : Opens Tryz.prog 4 spBool := opens_bool Tryz.underlying4 (by kernel_rfl)
theorem opens_trade : Opens Tryz.prog 50 spTr :=
  opens_map toTr (opens_struct Tryz.underlying50 (by kernel_rfl) (Fs.cons _ _ 0 rfl opens_i (Fs.cons _ _ 1 rfl opens_i (Fs.cons _ _ 2 rfl opens_i (Fs.cons _ _ 3 rfl opens_i (Fs.cons _ _ 4 rfl opens_i (Fs.cons _ _ 5 rfl opens_i (Fs.last _ 6 rfl opens_bool1))))))))
theorem tr_rd {w : World} {cs : List Value} {a : Tr} (h : spTr.rd w cs a) : cs = enTr.cs a := by
  obtain ⟨x, ⟨c1, d1, rfl, ⟨rfl, _⟩, c2, d2, rfl, ⟨rfl, _⟩, c3, d3, rfl, ⟨rfl, _⟩, c4, d4, rfl, ⟨rfl, _⟩, c5, d5, rfl, ⟨rfl, _⟩, c6, d6, rfl, ⟨rfl, _⟩, hb⟩, rfl⟩ := h
  have hb : d6 = [.bool x.2.2.2.2.2.2] := hb
  subst hb
  rfl
abbrev spKey : Sp (Int × Int) := spPair spI spI
abbrev spPoA : Sp ((Int × Int) × Int × Int) := spPair spKey (spPair spI spI)
def toPo (x : (Int × Int) × Int × Int) : Po := (x.1.1, x.1.2, x.2.1, x.2.2)
def spPo : Sp Po := spMap toPo spPoA
theorem opens_key : Opens Tryz.prog 24 spKey := opens_struct Tryz.underlying24 (by kernel_rfl) (Fs.cons _ _ 0 rfl opens_i (Fs.last _ 1 rfl opens_i))
theorem key_of {w : World} {cs : Array Value} {a : Int × Int} (h : spKey.rd w cs.toList a) : Value.agg cs = vKy a := by
  obtain ⟨c1, d1, e, ⟨rfl, _⟩, rfl, _⟩ := h
  congr 1
  exact Array.toList_inj.1 (by rw [e]; rfl)
abbrev spBk : Sp Bk := spPair spI (spPair (spSlice spTr) (spSlice spPo))
end Go.Proofs.YtahioajpmlochaaGreat.NumK
namespace Go.Proofs.YtahioajpmlochaaGreat.NumK
open Go.RowKit Go.ChangeShapes Go.WideShapes
set_option linter.unusedVariables false

abbrev spAcA : Sp (Int × Int × Int × Int × Tr) := spPair spI (spPair spI (spPair spI (spPair spI spTr)))
def toAc (x : Int × Int × Int × Int × Tr) : Ac13 := ((x.1, x.2.1, x.2.2.1, x.2.2.2.1), x.2.2.2.2)
def spAc : Sp Ac13 := spMap toAc spAcA
theorem opens_act : Opens Tryz.prog 52 spAc :=
  opens_map toAc (opens_struct Tryz.underlying52 (by kernel_rfl) (Fs.cons _ _ 0 rfl opens_i (Fs.cons _ _ 1 rfl opens_i (Fs.cons _ _ 2 rfl opens_i (Fs.cons _ _ 3 rfl opens_i (Fs.last _ 4 rfl opens_trade))))))
theorem ac_rd {w : World} {cs : List Value} {a : Ac13} (h : spAc.rd w cs a) : cs = enAc13.cs a := by
  obtain ⟨x, ⟨c1, d1, rfl, ⟨rfl, _⟩, c2, d2, rfl, ⟨rfl, _⟩, c3, d3, rfl, ⟨rfl, _⟩, c4, d4, rfl, ⟨rfl, _⟩, hb⟩, rfl⟩ := h
  rw [tr_rd hb]
  rfl
theorem acs13_of {w : World} {A : Option Addr} {n : Nat} {l : List Ac13} (h : Row spAc w A n l) : RowE enAc13 w A n l := rowE_of rfl (fun _ _ _ => ac_rd) h
theorem opens_acts : Opens Tryz.prog 22 (spSlice spAc) := opens_slice Tryz.underlying22 (by kernel_rfl) opens_act (by decide)

end Go.Proofs.YtahioajpmlochaaGreat.NumK
