/- Trades, positions, keys and books among a statement's arguments, beside rolls (XArg13 over XRlS0). -/
import Derived.Test.YtodnllopokoicaaGreatRG22
import Derived.Test.YtodnllopokoicaaGreatRG25
import Derived.Deep.Slices
import Derived.Test.YtodnllopokoicaaGreatRG18
import Derived.Test.YtodnllopokoicaaGreatRG7
namespace Go.Proofs.YtodnllopokoicaaGreat.NumK
open Go.RowKit Go.ChangeShapes Go.WideShapes
set_option linter.unusedVariables false

abbrev spTrA : Sp (Int × Int × Int × Int × Int × Int × Bool) := spPair spI (spPair spI (spPair spI (spPair spI (spPair spI (spPair spI spBool)))))
def toTr (x : Int × Int × Int × Int × Int × Int × Bool) : Tr := ((x.1, x.2.1, x.2.2.1, x.2.2.2.1, x.2.2.2.2.1, x.2.2.2.2.2.1), x.2.2.2.2.2.2)
def spTr : Sp Tr := spMap toTr spTrA
theorem opens_bool1 : Opens Tryz.prog 4 spBool := opens_bool Tryz.underlying4 (by kernel_rfl)
theorem opens_trade : Opens Tryz.prog 158 spTr :=
  opens_map toTr (opens_struct Tryz.underlying158 (by kernel_rfl) (Fs.cons _ _ 0 rfl opens_i (Fs.cons _ _ 1 rfl opens_i (Fs.cons _ _ 2 rfl opens_i (Fs.cons _ _ 3 rfl opens_i (Fs.cons _ _ 4 rfl opens_i (Fs.cons _ _ 5 rfl opens_i (Fs.last _ 6 rfl opens_bool1))))))))
theorem tr_rd {w : World} {cs : List Value} {a : Tr} (h : spTr.rd w cs a) : cs = enTr.cs a := by
  obtain ⟨x, ⟨c1, d1, rfl, ⟨rfl, _⟩, c2, d2, rfl, ⟨rfl, _⟩, c3, d3, rfl, ⟨rfl, _⟩, c4, d4, rfl, ⟨rfl, _⟩, c5, d5, rfl, ⟨rfl, _⟩, c6, d6, rfl, ⟨rfl, _⟩, hb⟩, rfl⟩ := h
  have hb : d6 = [.bool x.2.2.2.2.2.2] := hb
  subst hb
  rfl
theorem trs_of {w : World} {A : Option Addr} {n : Nat} {l : List Tr} (h : Row spTr w A n l) : RowE enTr w A n l := rowE_of rfl (fun _ _ _ => tr_rd) h

abbrev spKey : Sp (Int × Int) := spPair spI spI
abbrev spPoA : Sp ((Int × Int) × Int × Int) := spPair spKey (spPair spI spI)
def toPo (x : (Int × Int) × Int × Int) : Po := (x.1.1, x.1.2, x.2.1, x.2.2)
def spPo : Sp Po := spMap toPo spPoA
theorem opens_key : Opens Tryz.prog 109 spKey := opens_struct Tryz.underlying109 (by kernel_rfl) (Fs.cons _ _ 0 rfl opens_i (Fs.last _ 1 rfl opens_i))
theorem opens_pos : Opens Tryz.prog 111 spPo :=
  opens_map toPo (opens_struct Tryz.underlying111 (by kernel_rfl) (Fs.cons _ _ 0 rfl opens_key (Fs.cons _ _ 2 rfl opens_i (Fs.last _ 3 rfl opens_i))))
theorem po_rd {w : World} {cs : List Value} {a : Po} (h : spPo.rd w cs a) : cs = enPo.cs a := by
  obtain ⟨x, ⟨c0, d0, rfl, ⟨c1, d1, rfl, ⟨rfl, _⟩, rfl, _⟩, c3, d3, rfl, ⟨rfl, _⟩, rfl, _⟩, rfl⟩ := h
  rfl
theorem poss_of {w : World} {A : Option Addr} {n : Nat} {l : List Po} (h : Row spPo w A n l) : RowE enPo w A n l := rowE_of rfl (fun _ _ _ => po_rd) h
theorem opens_poss : Opens Tryz.prog 30 (spSlice spPo) := opens_slice Tryz.underlying30 (by kernel_rfl) opens_pos (by decide)
theorem opens_trades : Opens Tryz.prog 29 (spSlice spTr) := opens_slice Tryz.underlying29 (by kernel_rfl) opens_trade (by decide)

abbrev spBk : Sp Bk := spPair spI (spPair (spSlice spTr) (spSlice spPo))
theorem opens_book : Opens Tryz.prog 32 spBk :=
  opens_struct Tryz.underlying32 (by kernel_rfl) (Fs.cons _ _ 0 rfl opens_i (Fs.cons _ _ 1 rfl opens_trades (Fs.last _ 2 rfl opens_poss)))
end Go.Proofs.YtodnllopokoicaaGreat.NumK
namespace Go.Proofs.YtodnllopokoicaaGreat.NumK
open Go.RowKit Go.ChangeShapes Go.WideShapes
set_option linter.unusedVariables false

abbrev spPg : Sp Pg := spPair spI (spPair spI spI)
theorem opens_pledge : Opens Tryz.prog 74 spPg :=
  opens_struct Tryz.underlying74 (by kernel_rfl) (Fs.cons _ _ 0 rfl opens_i (Fs.cons _ _ 1 rfl opens_i (Fs.last _ 2 rfl opens_i)))
theorem opens_pledges : Opens Tryz.prog 36 (spSlice spPg) := opens_slice Tryz.underlying36 (by kernel_rfl) opens_pledge (by decide)
theorem pg_rd {w : World} {cs : List Value} {a : Pg} (h : spPg.rd w cs a) : cs = enPg.cs a := by
  obtain ⟨c1, d1, rfl, ⟨rfl, _⟩, c2, d2, rfl, ⟨rfl, _⟩, rfl, _⟩ := h
  rfl
theorem pgs_of {w : World} {A : Option Addr} {n : Nat} {l : List Pg} (h : Row spPg w A n l) : RowE enPg w A n l := rowE_of rfl (fun _ _ _ => pg_rd) h

/-! ### states -/
abbrev spBal : Sp Lg := spPair spAcct spI
theorem opens_bal : Opens Tryz.prog 119 spBal :=
  opens_struct Tryz.underlying119 (by kernel_rfl) (Fs.cons _ _ 0 rfl opens_acct (Fs.last _ 3 rfl opens_i))
theorem opens_bals : Opens Tryz.prog 33 (spSlice spBal) := opens_slice Tryz.underlying33 (by kernel_rfl) opens_bal (by decide)
theorem bal_rd {w : World} {cs : List Value} {a : Lg} (h : spBal.rd w cs a) : cs = enLg.cs a := by
  obtain ⟨c1, c2, rfl, ⟨c3, c4, rfl, ⟨rfl, _⟩, c5, c6, rfl, ⟨rfl, _⟩, rfl, _⟩, rfl, _⟩ := h
  rfl
theorem bals_of {w : World} {A : Option Addr} {n : Nat} {l : List Lg} (h : Row spBal w A n l) : RowE enLg w A n l := rowE_of rfl (fun _ _ _ => bal_rd) h
abbrev spLgr : Sp (Int × List Lg) := spPair spI (spSlice spBal)
theorem opens_ledger : Opens Tryz.prog 35 spLgr := opens_struct Tryz.underlying35 (by kernel_rfl) (Fs.cons _ _ 0 rfl opens_i (Fs.last _ 1 rfl opens_bals))
abbrev spClock : Sp (Int × Int × Int) := spPair spI (spPair spI spI)
theorem opens_clock : Opens Tryz.prog 23 spClock :=
  opens_struct Tryz.underlying23 (by kernel_rfl) (Fs.cons _ _ 0 rfl opens_i (Fs.cons _ _ 1 rfl opens_i (Fs.last _ 2 rfl opens_i)))
abbrev spDu3 : Sp (Int × Int × Int) := spPair spI (spPair spI spI)
theorem opens_due : Opens Tryz.prog 167 spDu3 :=
  opens_struct Tryz.underlying167 (by kernel_rfl) (Fs.cons _ _ 0 rfl opens_i (Fs.cons _ _ 1 rfl opens_i (Fs.last _ 2 rfl opens_i)))
abbrev spCa : Sp ((Int × Int × Int) × Int) := spPair spDu3 spI
theorem opens_call : Opens Tryz.prog 169 spCa := opens_struct Tryz.underlying169 (by kernel_rfl) (Fs.cons _ _ 0 rfl opens_due (Fs.last _ 3 rfl opens_i))
theorem opens_calls : Opens Tryz.prog 37 (spSlice spCa) := opens_slice Tryz.underlying37 (by kernel_rfl) opens_call (by decide)
abbrev spBd : Sp ((Int × Int) × Int × Int × Int) := spPair spKey (spPair spI (spPair spI spI))
theorem opens_bid : Opens Tryz.prog 171 spBd :=
  opens_struct Tryz.underlying171 (by kernel_rfl) (Fs.cons _ _ 0 rfl opens_key (Fs.cons _ _ 2 rfl opens_i (Fs.cons _ _ 3 rfl opens_i (Fs.last _ 4 rfl opens_i))))
theorem opens_bids : Opens Tryz.prog 38 (spSlice spBd) := opens_slice Tryz.underlying38 (by kernel_rfl) opens_bid (by decide)
abbrev spFa : Sp (Int × Int × List Int × Int) := spPair spI (spPair spI (spPair (spArr 5 spI) spI))
theorem opens_five : Opens Tryz.prog 201 (spArr 5 spI) := opens_arr Tryz.underlying201 (by kernel_rfl) opens_i
theorem opens_fall : Opens Tryz.prog 203 spFa :=
  opens_struct Tryz.underlying203 (by kernel_rfl) (Fs.cons _ _ 0 rfl opens_i (Fs.cons _ _ 1 rfl opens_i (Fs.cons _ _ 2 rfl opens_five (Fs.last _ 7 rfl opens_i))))
theorem opens_errno : Opens Tryz.prog 44 spI := opens_int Tryz.underlying44 (by kernel_rfl)
abbrev spRe : Sp (Int × Int × Int × List (Int × Int × Int) × List (Int × Int × List Int × Int)) := spPair spI (spPair spI (spPair spI (spPair (spSlice spDu3) (spSlice spFa))))
abbrev spSe : Sp (Int × Int × Int × Int × Int × List (Int × Int × Int) × List (Int × Int × List Int × Int)) := spPair spI (spPair spI spRe)
abbrev spSt := spPair spClock (spPair spRl (spPair spBk (spPair spLgr (spPair (spSlice spPg) (spPair (spSlice spCa) (spPair (spSlice spBd) (spSlice spSe)))))))
/-- What of a state's rows is known. -/
structure InS (w : World) (s : (Int × Int × Int) × Rl × Bk × (Int × List Lg) × List Pg × List ((Int × Int × Int) × Int) × List ((Int × Int) × Int × Int × Int) × List (Int × Int × Int × Int × Int × List (Int × Int × Int) × List (Int × Int × List Int × Int)))
    (A1 A2 A3 E1 E2 L P Q1 Q2 Q3 : Option Addr) (n1 n2 n3 c1 c2 c3 m1 m2 k1 k2 nl cl np cp u1 v1 u2 v2 u3 v3 : Nat) : Prop where
  r : In3 w s.2.1 A1 A2 A3 n1 n2 n3 c1 c2 c3
  b : InB w s.2.2.1 E1 E2 m1 m2 k1 k2
  l : RowE enLg w L nl s.2.2.2.1.2
  lk : L = none → cl = 0
  p : RowE enPg w P np s.2.2.2.2.1
  pk : P = none → cp = 0
  pl : np ≤ cp ∧ cp ≤ 9223372036854775807
  q1 : Row spCa w Q1 u1 s.2.2.2.2.2.1
  q1k : Q1 = none → v1 = 0
  q2 : Row spBd w Q2 u2 s.2.2.2.2.2.2.1
  q2k : Q2 = none → v2 = 0
  q3 : Row spSe w Q3 u3 s.2.2.2.2.2.2.2
  q3k : Q3 = none → v3 = 0
end Go.Proofs.YtodnllopokoicaaGreat.NumK
