/- Rows of trades, and of legs: which are right (the program's). -/
import Derived.Test.YtlmnbafklefmcaaRG11
import Derived.Lib.Walk
import Derived.Lib.SliceRun
import Derived.Test.YtlmnbafklefmcaaRG5
import Derived.Test.YtlmnbafklefmcaaRG7
import Derived.Deep.RegionHeld3
import Derived.Deep.CutBlock
import Derived.Deep.Slices
namespace Go.Proofs.Ytlmnbafklefmcaa.NumK
open Go.RowKit
set_option linter.unusedVariables false

end Go.Proofs.Ytlmnbafklefmcaa.NumK
namespace Go.Proofs.Ytlmnbafklefmcaa.NumK
open Go.RowKit
set_option linter.unusedVariables false

abbrev vBk (next : Int) (A1 A2 : Option Addr) (n1 n2 c1 c2 : Nat) : Value := .agg #[.int .i64 next, .slice A1 n1 c1, .slice A2 n2 c2]
/-- What of a book's slices is known whoever owns them. -/
structure InB (w : World) (b : Bk) (A1 A2 : Option Addr) (n1 n2 c1 c2 : Nat) : Prop where
  t : RowE enTr w A1 n1 b.2.1
  p : RowE enPo w A2 n2 b.2.2
  k1 : A1 = none → c1 = 0
  k2 : A2 = none → c2 = 0
  l1 : n1 ≤ c1 ∧ c1 ≤ 9223372036854775807
  l2 : n2 ≤ c2 ∧ c2 ≤ 9223372036854775807
section
variable {w w' : World} {base : Nat} {b : Bk} {A1 A2 : Option Addr} {n1 n2 c1 c2 : Nat}
theorem InB.keep (h : InB w b A1 A2 n1 n2 c1 c2) (g : Grew w w') : InB w' b A1 A2 n1 n2 c1 c2 := ⟨h.t.keep g, h.p.keep g, h.k1, h.k2, h.l1, h.l2⟩
end
def chkB (b : Bk) : Int := if rightB b then 0 else 14
/-! ### slices.Clone -/
end Go.Proofs.Ytlmnbafklefmcaa.NumK
namespace Go.Proofs.Ytlmnbafklefmcaa.NumK
open Go.RowKit
set_option linter.unusedVariables false

def runE (r : Rl) (b : Bk) : Int := if rightR r = true then (if rightB b = true then firstM r b.2.2 else 14) else 14
def runB (r : Rl) (b : Bk) : Bk := if runE r b = 0 then (b.1, b.2.1, markL r b.2.2) else bk0
def runD (r : Rl) (b : Bk) : List Du := if runE r b = 0 then duesM r b.2.2 else []
end Go.Proofs.Ytlmnbafklefmcaa.NumK
namespace Go.Proofs.Ytlmnbafklefmcaa.NumK
open Go.RowKit
set_option linter.unusedVariables false

end Go.Proofs.Ytlmnbafklefmcaa.NumK
namespace Go.Proofs.Ytlmnbafklefmcaa.NumK
open Go.RowKit
set_option linter.unusedVariables false

/-- A slice whose cells, if it has some, may be written. -/
def SpB (A : Option Addr) (n K base N : Nat) (w : World) : Prop := n = 0 ∨ ∃ g, A = some ⟨g, 0, none⟩ ∧ base ≤ g ∧ g < N ∧ Slab w g (n * K)
theorem SpB.set {A : Option Addr} {n K base N : Nat} {w : World} (h : SpB A n K base N w) (b k : Nat) (u : Value) : SpB A n K base N (w.setCell ⟨b, k, none⟩ u) := by
  rcases h with h | ⟨g, e, h1, h2, h3⟩
  · exact Or.inl h
  · exact Or.inr ⟨g, e, h1, h2, h3.set b k u⟩
theorem SpB.keep {A : Option Addr} {n K base N : Nat} {w w' : World} (h : SpB A n K base N w) (g : Grew w w') : SpB A n K base N w' := by
  rcases h with h | ⟨b, e, h1, h2, h3⟩
  · exact Or.inl h
  · exact Or.inr ⟨b, e, h1, h2, h3.keep g⟩
end Go.Proofs.Ytlmnbafklefmcaa.NumK
namespace Go.Proofs.Ytlmnbafklefmcaa.NumK
open Go.RowKit
set_option linter.unusedVariables false

/-- Of what was there nothing but two rows has turned. -/
def SameBut (A1 A2 : Option Addr) (w w' : World) : Prop := ∀ k, k < w.heap.size → A1.map (·.block) ≠ some k → A2.map (·.block) ≠ some k → w'.heap[k]? = w.heap[k]?

end Go.Proofs.Ytlmnbafklefmcaa.NumK
namespace Go.Proofs.Ytlmnbafklefmcaa.NumK
open Go.RowKit
set_option linter.unusedVariables false

def CDu (w : World) (b p : Nat) (x : Du) : Prop :=
  w.cell? ⟨b, p, none⟩ = some (.int .i64 x.1) ∧ w.cell? ⟨b, p + 1, none⟩ = some (.int .i64 x.2.1) ∧ w.cell? ⟨b, p + 2, none⟩ = some (.int .i64 x.2.2)
theorem CDu.keep {w w' : World} {b p : Nat} {x : Du} (h : CDu w b p x) (g : Grew w w') (hb : b < w.heap.size) : CDu w' b p x :=
  ⟨(grew_cell g (p := ⟨b, _, none⟩) hb).trans h.1, (grew_cell g (p := ⟨b, _, none⟩) hb).trans h.2.1, (grew_cell g (p := ⟨b, _, none⟩) hb).trans h.2.2⟩
/-- Positions written over: only their own block is turned. -/
theorem spoilDues_any (A : Option Addr) (n c base : Nat) (w : World) (hA : n = 0 ∨ ∃ g, A = some ⟨g, 0, none⟩ ∧ base ≤ g ∧ Slab w g (n * 3)) (hn : n ≤ 1000000) :
    Calls Try.prog 12 #[.slice A n c] w fun e w' => e = .returned (.tuple #[]) ∧ Below base w w' ∧ ∀ k, A.map (·.block) ≠ some k → w'.heap[k]? = w.heap[k]? := by
  have HA := Lib.hid hA
  clear hA
  go_enter Try.func12, Try.ntmps12
  go_wp2
  go_loopw [2] (fun vi wr => ∃ k : Nat, vi = .int .i64 k ∧ k ≤ n ∧ Hid (∀ g, A = some ⟨g, 0, none⟩ → 0 < n → Slab wr g (n * 3)) ∧ Hid (Below base w wr ∧ ∀ k, A.map (·.block) ≠ some k → wr.heap[k]? = w.heap[k]?)) (fun vi _ => n - (intOf vi).toNat)
  case atStart =>
    refine ⟨0, rfl, Nat.zero_le _, fun g hg h0 => ?_, Below.refl _ _, fun _ _ => rfl⟩
    rcases HA.out with h | ⟨g', e, _, hs⟩
    · omega
    · rw [hg] at e; cases e; exact hs
  case round =>
    obtain ⟨k, rfl, hk, HS, HB⟩ := hrel
    by_cases hlt : k < n
    · obtain ⟨g, rfl, hb, _⟩ : ∃ g, A = some ⟨g, 0, none⟩ ∧ base ≤ g ∧ Slab w g (n * 3) := by
        rcases HA.out with h | h
        · omega
        · exact h
      have HS2 := Lib.hid (HS.out g rfl (by omega))
      obtain ⟨⟨x, a1⟩, a2⟩ := HS2.out.2 (k * 3) (by omega)
      have a3 : (k : Int) < (n : Int) := by omega
      have HB2 : Hid (Below base w (wr.setCell ⟨g, k * 3, none⟩ (.int .i64 (-77))) ∧ ∀ i, (some (⟨g, 0, none⟩ : Addr)).map (·.block) ≠ some i → (wr.setCell ⟨g, k * 3, none⟩ (.int .i64 (-77))).heap[i]? = w.heap[i]?) :=
        ⟨Below.setCell HB.out.1 hb _, fun i hi => (Below.heap_setCell _ _ _ _ (by intro e; apply hi; rw [e]; rfl)).trans (HB.out.2 i hi)⟩
      have HS3 := Lib.hid (HS2.out.set g (k * 3) (.int .i64 (-77)))
      go_wp2
      go_roundw
      case rel => exact ⟨k + 1, by go_num, by omega, fun g' hg' _ => by cases hg'; exact HS3.out, HB2⟩
      case measure => simp only [intOf]; omega
    · go_wp2
      go_end0
      exact ⟨rfl, HB.out⟩

end Go.Proofs.Ytlmnbafklefmcaa.NumK
namespace Go.Proofs.Ytlmnbafklefmcaa.NumK
open Go.RowKit Go.ChangeShapes Go.WideShapes
set_option linter.unusedVariables false

/-! ### rolls among the arguments -/
abbrev spI : Sp Int := spInt .i64
abbrev spMb : Sp Mb := spPair spI (spPair spI spI)
abbrev spAs : Sp As := spPair spI (spPair spI (spPair spI spI))
abbrev spSh : Sp (List Int) := spArr 6 spI
abbrev spInA : Sp (Int × Int × Int × Int × Int × Int × List Int) := spPair spI (spPair spI (spPair spI (spPair spI (spPair spI (spPair spI spSh)))))
def toIn (x : Int × Int × Int × Int × Int × Int × List Int) : In :=
  ((x.1, x.2.1, x.2.2.1, x.2.2.2.1, x.2.2.2.2.1, x.2.2.2.2.2.1), (x.2.2.2.2.2.2.getD 0 0, x.2.2.2.2.2.2.getD 1 0, x.2.2.2.2.2.2.getD 2 0, x.2.2.2.2.2.2.getD 3 0, x.2.2.2.2.2.2.getD 4 0, x.2.2.2.2.2.2.getD 5 0))
theorem opens_i : Opens Try.prog 3 spI := opens_int Try.underlying3 (by kernel_rfl)
def spIn : Sp In := spMap toIn spInA
theorem rowE_of {α : Type} {A : Sp α} {E : En α} (hs : E.size = A.size) (hf : ∀ w cs a, A.rd w cs a → cs = E.cs a) {w : World} {ad : Option Addr} {n : Nat} {l : List α} (h : Row A w ad n l) : RowE E w ad n l := by
  have := Row.imp (A := A) (B := E.sp) (fun x => x) hs (fun cs a hr => hf w cs a hr) h
  rwa [List.map_id'] at this
abbrev spRl : Sp Rl := spPair (spSlice spMb) (spPair (spSlice spIn) (spSlice spAs))
/-! ### Heavy -/
def heavyR (n1 n2 n3 : Nat) : Bool := decide (n1 > 100) || (decide (n2 > 100) || decide (n3 > 100))
end Go.Proofs.Ytlmnbafklefmcaa.NumK
namespace Go.Proofs.Ytlmnbafklefmcaa.NumK
open Go.RowKit
set_option linter.unusedVariables false

end Go.Proofs.Ytlmnbafklefmcaa.NumK
namespace Go.Proofs.Ytlmnbafklefmcaa.NumK
open Go.RowKit
set_option linter.unusedVariables false

/-- A state as a value: its clock, roll, book, ledger, and four rows. -/
abbrev stV (t1 t2 t3 nx last : Int) (A1 A2 A3 E1 E2 L P Q1 Q2 Q3 : Option Addr) (n1 n2 n3 c1 c2 c3 m1 m2 k1 k2 nl cl np cp u1 v1 u2 v2 u3 v3 : Nat) : Value :=
  .agg #[.int .i64 t1, .int .i64 t2, .int .i64 t3, .slice A1 n1 c1, .slice A2 n2 c2, .slice A3 n3 c3, .int .i64 nx, .slice E1 m1 k1, .slice E2 m2 k2, .int .i64 last, .slice L nl cl, .slice P np cp, .slice Q1 u1 v1, .slice Q2 u2 v2, .slice Q3 u3 v3]
def heavyS (n1 n2 n3 m1 m2 nl np u1 u2 u3 : Nat) : Bool :=
  heavyR n1 n2 n3 || ((decide (300 < m1) || decide (300 < m2)) || (decide (300 < nl) || (decide (300 < np) || (decide (300 < u1) || (decide (300 < u2) || decide (300 < u3))))))
end Go.Proofs.Ytlmnbafklefmcaa.NumK
namespace Go.Proofs.Ytlmnbafklefmcaa.NumK
open Go.RowKit Go.ChangeShapes Go.WideShapes
set_option linter.unusedVariables false

abbrev spTrA : Sp (Int × Int × Int × Int × Int × Int × Bool) := spPair spI (spPair spI (spPair spI (spPair spI (spPair spI (spPair spI spBool)))))
def toTr (x : Int × Int × Int × Int × Int × Int × Bool) : Tr := ((x.1, x.2.1, x.2.2.1, x.2.2.2.1, x.2.2.2.2.1, x.2.2.2.2.2.1), x.2.2.2.2.2.2)
def spTr : Sp Tr := spMap toTr spTrA
abbrev spKey : Sp (Int × Int) := spPair spI spI
abbrev spPoA : Sp ((Int × Int) × Int × Int) := spPair spKey (spPair spI spI)
def toPo (x : (Int × Int) × Int × Int) : Po := (x.1.1, x.1.2, x.2.1, x.2.2)
def spPo : Sp Po := spMap toPo spPoA
abbrev spBk : Sp Bk := spPair spI (spPair (spSlice spTr) (spSlice spPo))
end Go.Proofs.Ytlmnbafklefmcaa.NumK
namespace Go.Proofs.Ytlmnbafklefmcaa.NumK
open Go.RowKit Go.ChangeShapes Go.WideShapes
set_option linter.unusedVariables false

abbrev spPg : Sp Pg := spPair spI (spPair spI spI)
/-! ### states -/
abbrev spBal : Sp Lg := spPair spAcct spI
abbrev spLgr : Sp (Int × List Lg) := spPair spI (spSlice spBal)
abbrev spClock : Sp (Int × Int × Int) := spPair spI (spPair spI spI)
abbrev spDu3 : Sp (Int × Int × Int) := spPair spI (spPair spI spI)
theorem opens_due : Opens Try.prog 42 spDu3 :=
  opens_struct Try.underlying42 (by kernel_rfl) (Fs.cons _ _ 0 rfl opens_i (Fs.cons _ _ 1 rfl opens_i (Fs.last _ 2 rfl opens_i)))
theorem opens_dues : Opens Try.prog 22 (spSlice spDu3) := opens_slice Try.underlying22 (by kernel_rfl) opens_due (by decide)
abbrev spCa : Sp ((Int × Int × Int) × Int) := spPair spDu3 spI
abbrev spBd : Sp ((Int × Int) × Int × Int × Int) := spPair spKey (spPair spI (spPair spI spI))
abbrev spFa : Sp (Int × Int × List Int × Int) := spPair spI (spPair spI (spPair (spArr 5 spI) spI))
abbrev spRe : Sp (Int × Int × Int × List (Int × Int × Int) × List (Int × Int × List Int × Int)) := spPair spI (spPair spI (spPair spI (spPair (spSlice spDu3) (spSlice spFa))))
abbrev spSe : Sp (Int × Int × Int × Int × Int × List (Int × Int × Int) × List (Int × Int × List Int × Int)) := spPair spI (spPair spI spRe)
abbrev spSt := spPair spClock (spPair spRl (spPair spBk (spPair spLgr (spPair (spSlice spPg) (spPair (spSlice spCa) (spPair (spSlice spBd) (spSlice spSe)))))))
/-- What of a state's rows is known. -/
structure InS (w : World) (s : (Int × Int × Int) × Rl × Bk × (Int × List Lg) × List Pg × List ((Int × Int × Int) × Int) × List ((Int × Int) × Int × Int × Int) × List (Int × Int × Int × Int × Int × List (Int × Int × Int) × List (Int × Int × List Int × Int)))
    (A1 A2 A3 E1 E2 L P Q1 Q2 Q3 : Option Addr) (n1 n2 n3 c1 c2 c3 m1 m2 k1 k2 nl cl np cp u1 v1 u2 v2 u3 v3 : Nat) : Prop where
  r : In3 w s.2.1 A1 A2 A3 n1 n2 n3 c1 c2 c3
  b : InB w s.2.2.1 E1 E2 m1 m2 k1 k2
  l : RowE enLg w L nl s.2.2.2.1.2
  lk : L = none → cl = 0
  p : RowE enPg w P np s.2.2.2.2.1
  pk : P = none → cp = 0
  pl : np ≤ cp ∧ cp ≤ 9223372036854775807
  q1 : Row spCa w Q1 u1 s.2.2.2.2.2.1
  q1k : Q1 = none → v1 = 0
  q2 : Row spBd w Q2 u2 s.2.2.2.2.2.2.1
  q2k : Q2 = none → v2 = 0
  q3 : Row spSe w Q3 u3 s.2.2.2.2.2.2.2
  q3k : Q3 = none → v3 = 0
end Go.Proofs.Ytlmnbafklefmcaa.NumK
