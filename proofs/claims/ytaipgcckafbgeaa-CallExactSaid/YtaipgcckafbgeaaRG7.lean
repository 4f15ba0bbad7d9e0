/- Pledges, ledgers and states among a statement's arguments. -/
import Derived.Test.YtaipgcckafbgeaaRG6
import Derived.Test.YtaipgcckafbgeaaRG4
import Derived.Test.YtaipgcckafbgeaaRG3
import Derived.Test.YtaipgcckafbgeaaRG5
namespace Go.Proofs.Ytaipgcckafbgeaa.NumK
open Go.RowKit Go.ChangeShapes Go.WideShapes
set_option linter.unusedVariables false

abbrev spPg : Sp Pg := spPair spI (spPair spI spI)
/-! ### states -/
abbrev spBal : Sp Lg := spPair spAcct spI
abbrev spLgr : Sp (Int × List Lg) := spPair spI (spSlice spBal)
abbrev spClock : Sp (Int × Int × Int) := spPair spI (spPair spI spI)
abbrev spDu3 : Sp (Int × Int × Int) := spPair spI (spPair spI spI)
theorem opens_due : Opens Try.prog 24 spDu3 :=
  opens_struct Try.underlying24 (by kernel_rfl) (Fs.cons _ _ 0 rfl opens_i (Fs.cons _ _ 1 rfl opens_i (Fs.last _ 2 rfl opens_i)))
abbrev spCa : Sp ((Int × Int × Int) × Int) := spPair spDu3 spI
theorem opens_call : Opens Try.prog 32 spCa := opens_struct Try.underlying32 (by kernel_rfl) (Fs.cons _ _ 0 rfl opens_due (Fs.last _ 3 rfl opens_i))
theorem opens_calls : Opens Try.prog 22 (spSlice spCa) := opens_slice Try.underlying22 (by kernel_rfl) opens_call (by decide)
abbrev spBd : Sp ((Int × Int) × Int × Int × Int) := spPair spKey (spPair spI (spPair spI spI))
abbrev spFa : Sp (Int × Int × List Int × Int) := spPair spI (spPair spI (spPair (spArr 5 spI) spI))
abbrev spRe : Sp (Int × Int × Int × List (Int × Int × Int) × List (Int × Int × List Int × Int)) := spPair spI (spPair spI (spPair spI (spPair (spSlice spDu3) (spSlice spFa))))
abbrev spSe : Sp (Int × Int × Int × Int × Int × List (Int × Int × Int) × List (Int × Int × List Int × Int)) := spPair spI (spPair spI spRe)
abbrev spSt := spPair spClock (spPair spRl (spPair spBk (spPair spLgr (spPair (spSlice spPg) (spPair (spSlice spCa) (spPair (spSlice spBd) (spSlice spSe)))))))
/-- What of a state's rows is known. -/
structure InS (w : World) (s : (Int × Int × Int) × Rl × Bk × (Int × List Lg) × List Pg × List ((Int × Int × Int) × Int) × List ((Int × Int) × Int × Int × Int) × List (Int × Int × Int × Int × Int × List (Int × Int × Int) × List (Int × Int × List Int × Int)))
    (A1 A2 A3 E1 E2 L P Q1 Q2 Q3 : Option Addr) (n1 n2 n3 c1 c2 c3 m1 m2 k1 k2 nl cl np cp u1 v1 u2 v2 u3 v3 : Nat) : Prop where
  r : In3 w s.2.1 A1 A2 A3 n1 n2 n3 c1 c2 c3
  b : InB w s.2.2.1 E1 E2 m1 m2 k1 k2
  l : RowE enLg w L nl s.2.2.2.1.2
  lk : L = none → cl = 0
  p : RowE enPg w P np s.2.2.2.2.1
  pk : P = none → cp = 0
  pl : np ≤ cp ∧ cp ≤ 9223372036854775807
  q1 : Row spCa w Q1 u1 s.2.2.2.2.2.1
  q1k : Q1 = none → v1 = 0
  q2 : Row spBd w Q2 u2 s.2.2.2.2.2.2.1
  q2k : Q2 = none → v2 = 0
  q3 : Row spSe w Q3 u3 s.2.2.2.2.2.2.2
  q3k : Q3 = none → v3 = 0
end Go.Proofs.Ytaipgcckafbgeaa.NumK
namespace Go.Proofs.Ytaipgcckafbgeaa.NumK
open Go.RowKit Go.ChangeShapes Go.WideShapes
set_option linter.unusedVariables false

theorem opens_ints : Opens Try.prog 25 (spSlice spI) := opens_slice Try.underlying25 (by kernel_rfl) opens_i (by decide)
theorem ints_of_spec {w : World} {A : Option Addr} {n : Nat} {l : List Int} (h : Row spI w A n l) : Ints w A n l :=
  ints_of_E (rowE_of (A := spI) (E := enInt) rfl (fun _ _ _ hr => hr.1) h)
end Go.Proofs.Ytaipgcckafbgeaa.NumK
namespace Go.Proofs.Ytaipgcckafbgeaa.NumK
open Go.RowKit Go.ChangeShapes Go.WideShapes
set_option linter.unusedVariables false

def toCa (x : (Int × Int × Int) × Int) : Ca := (x.1.1, x.1.2.1, x.1.2.2, x.2)
theorem call_cells {w : World} {cs : List Value} {a} (h : spCa.rd w cs a) : cs = enC4.cs (toCa a) := by
  obtain ⟨c1, d1, rfl, ⟨c2, d2, rfl, ⟨rfl, _⟩, c3, d3, rfl, ⟨rfl, _⟩, rfl, _⟩, rfl, _⟩ := h
  rfl
theorem calls_row {w : World} {A : Option Addr} {n : Nat} {l} (h : Row spCa w A n l) : RowE enC4 w A n (l.map toCa) := Row.imp (A := spCa) (B := enC4.sp) toCa rfl (fun cs a hr => call_cells hr) h
theorem due_of {w : World} {cs : Array Value} {a : Du} (h : spDu3.rd w cs.toList a) : Value.agg cs = vDe a := by
  have : cs.toList = [.int .i64 a.1, .int .i64 a.2.1, .int .i64 a.2.2] := by
    obtain ⟨c1, d1, e1, ⟨rfl, _⟩, c2, d2, rfl, ⟨rfl, _⟩, rfl, _⟩ := h
    rw [e1]; rfl
  congr 1
  exact Array.toList_inj.1 this
abbrev spAc18 : Sp (Int × Int × Int × Int × Int) := spPair spI (spPair spI spDu3)
theorem opens_act18 : Opens Try.prog 48 spAc18 := opens_struct Try.underlying48 (by kernel_rfl) (Fs.cons _ _ 0 rfl opens_i (Fs.cons _ _ 1 rfl opens_i (Fs.last _ 2 rfl opens_due)))
theorem opens_acts18 : Opens Try.prog 46 (spSlice spAc18) := opens_slice Try.underlying46 (by kernel_rfl) opens_act18 (by decide)
theorem act18_rd {w : World} {cs : List Value} {a : B5} (h : spAc18.rd w cs a) : cs = enB5.cs a := by obtain ⟨c1, d1, rfl, ⟨rfl, _⟩, c2, d2, rfl, ⟨rfl, _⟩, c3, d3, rfl, ⟨rfl, _⟩, c4, d4, rfl, ⟨rfl, _⟩, rfl, _⟩ := h; rfl
theorem acts18_row {w : World} {A : Option Addr} {n : Nat} {l : List B5} (h : Row spAc18 w A n l) : RowE enB5 w A n l := rowE_of rfl (fun _ _ _ => act18_rd) h
end Go.Proofs.Ytaipgcckafbgeaa.NumK
