/- Books, keys, acts, trades and positions among the arguments. -/
import Derived.Test.YtkbmiajgmnfpfaaRW3
import Derived.Deep.Slices
namespace Go.Proofs.Ytkbmiajgmnfpfaa.NumK
open Go.RowKit Go.ChangeShapes Go.WideShapes
set_option linter.unusedVariables false

abbrev spI : Sp Int := spInt .i64
theorem opens_i : Opens Try.prog 3 spI := opens_int Try.underlying3 (by kernel_rfl)
theorem rowE_of {α : Type} {A : Sp α} {E : En α} (hs : E.size = A.size) (hf : ∀ w cs a, A.rd w cs a → cs = E.cs a) {w : World} {ad : Option Addr} {n : Nat} {l : List α} (h : Row A w ad n l) : RowE E w ad n l := by
  have := Row.imp (A := A) (B := E.sp) (fun x => x) hs (fun cs a hr => hf w cs a hr) h
  rwa [List.map_id'] at this
abbrev spTrA : Sp (Int × Int × Int × Int × Int × Int × Bool) := spPair spI (spPair spI (spPair spI (spPair spI (spPair spI (spPair spI spBool)))))
def toTr (x : Int × Int × Int × Int × Int × Int × Bool) : Tr := ((x.1, x.2.1, x.2.2.1, x.2.2.2.1, x.2.2.2.2.1, x.2.2.2.2.2.1), x.2.2.2.2.2.2)
def spTr : Sp Tr := spMap toTr spTrA
theorem opens_bool1 : Opens Try.prog 4 spBool := opens_bool Try.underlying4 (by kernel_rfl)
theorem opens_trade : Opens Try.prog 49 spTr :=
  opens_map toTr (opens_struct Try.underlying49 (by kernel_rfl) (Fs.cons _ _ 0 rfl opens_i (Fs.cons _ _ 1 rfl opens_i (Fs.cons _ _ 2 rfl opens_i (Fs.cons _ _ 3 rfl opens_i (Fs.cons _ _ 4 rfl opens_i (Fs.cons _ _ 5 rfl opens_i (Fs.last _ 6 rfl opens_bool1))))))))
theorem tr_rd {w : World} {cs : List Value} {a : Tr} (h : spTr.rd w cs a) : cs = enTr.cs a := by
  obtain ⟨x, ⟨c1, d1, rfl, ⟨rfl, _⟩, c2, d2, rfl, ⟨rfl, _⟩, c3, d3, rfl, ⟨rfl, _⟩, c4, d4, rfl, ⟨rfl, _⟩, c5, d5, rfl, ⟨rfl, _⟩, c6, d6, rfl, ⟨rfl, _⟩, hb⟩, rfl⟩ := h
  have hb : d6 = [.bool x.2.2.2.2.2.2] := hb
  subst hb
  rfl
theorem tr_of {w : World} {cs : Array Value} {a : Tr} (h : spTr.rd w cs.toList a) : Value.agg cs = vTr a := by
  have := tr_rd h
  congr 1
  exact Array.toList_inj.1 (by rw [this]; rfl)
theorem trs_of {w : World} {A : Option Addr} {n : Nat} {l : List Tr} (h : Row spTr w A n l) : RowE enTr w A n l := rowE_of rfl (fun _ _ _ => tr_rd) h

abbrev spKey : Sp (Int × Int) := spPair spI spI
abbrev spPoA : Sp ((Int × Int) × Int × Int) := spPair spKey (spPair spI spI)
def toPo (x : (Int × Int) × Int × Int) : Po := (x.1.1, x.1.2, x.2.1, x.2.2)
def spPo : Sp Po := spMap toPo spPoA
theorem opens_key : Opens Try.prog 27 spKey := opens_struct Try.underlying27 (by kernel_rfl) (Fs.cons _ _ 0 rfl opens_i (Fs.last _ 1 rfl opens_i))
theorem opens_pos : Opens Try.prog 36 spPo :=
  opens_map toPo (opens_struct Try.underlying36 (by kernel_rfl) (Fs.cons _ _ 0 rfl opens_key (Fs.cons _ _ 2 rfl opens_i (Fs.last _ 3 rfl opens_i))))
theorem po_rd {w : World} {cs : List Value} {a : Po} (h : spPo.rd w cs a) : cs = enPo.cs a := by
  obtain ⟨x, ⟨c0, d0, rfl, ⟨c1, d1, rfl, ⟨rfl, _⟩, rfl, _⟩, c3, d3, rfl, ⟨rfl, _⟩, rfl, _⟩, rfl⟩ := h
  rfl
theorem key_of {w : World} {cs : Array Value} {a : Int × Int} (h : spKey.rd w cs.toList a) : Value.agg cs = vKy a := by
  obtain ⟨c1, d1, e, ⟨rfl, _⟩, rfl, _⟩ := h
  congr 1
  exact Array.toList_inj.1 (by rw [e]; rfl)
theorem poss_of {w : World} {A : Option Addr} {n : Nat} {l : List Po} (h : Row spPo w A n l) : RowE enPo w A n l := rowE_of rfl (fun _ _ _ => po_rd) h
theorem opens_poss : Opens Try.prog 23 (spSlice spPo) := opens_slice Try.underlying23 (by kernel_rfl) opens_pos (by decide)
theorem opens_trades : Opens Try.prog 22 (spSlice spTr) := opens_slice Try.underlying22 (by kernel_rfl) opens_trade (by decide)

abbrev spAcA : Sp (Int × Int × Int × Int × Tr) := spPair spI (spPair spI (spPair spI (spPair spI spTr)))
def toAc (x : Int × Int × Int × Int × Tr) : Ac13 := ((x.1, x.2.1, x.2.2.1, x.2.2.2.1), x.2.2.2.2)
def spAc : Sp Ac13 := spMap toAc spAcA
theorem opens_act : Opens Try.prog 82 spAc :=
  opens_map toAc (opens_struct Try.underlying82 (by kernel_rfl) (Fs.cons _ _ 0 rfl opens_i (Fs.cons _ _ 1 rfl opens_i (Fs.cons _ _ 2 rfl opens_i (Fs.cons _ _ 3 rfl opens_i (Fs.last _ 4 rfl opens_trade))))))
theorem ac_rd {w : World} {cs : List Value} {a : Ac13} (h : spAc.rd w cs a) : cs = enAc13.cs a := by
  obtain ⟨x, ⟨c1, d1, rfl, ⟨rfl, _⟩, c2, d2, rfl, ⟨rfl, _⟩, c3, d3, rfl, ⟨rfl, _⟩, c4, d4, rfl, ⟨rfl, _⟩, hb⟩, rfl⟩ := h
  rw [tr_rd hb]
  rfl
theorem acs13_of {w : World} {A : Option Addr} {n : Nat} {l : List Ac13} (h : Row spAc w A n l) : RowE enAc13 w A n l := rowE_of rfl (fun _ _ _ => ac_rd) h
theorem opens_acts : Opens Try.prog 45 (spSlice spAc) := opens_slice Try.underlying45 (by kernel_rfl) opens_act (by decide)

abbrev spBk : Sp Bk := spPair spI (spPair (spSlice spTr) (spSlice spPo))
theorem opens_book : Opens Try.prog 25 spBk :=
  opens_struct Try.underlying25 (by kernel_rfl) (Fs.cons _ _ 0 rfl opens_i (Fs.cons _ _ 1 rfl opens_trades (Fs.last _ 2 rfl opens_poss)))
theorem book_of {w : World} {cs : Array Value} {b : Bk} (h : spBk.rd w cs.toList b) : ∃ A1 A2 n1 n2 c1 c2, Value.agg cs = vBk b.1 A1 A2 n1 n2 c1 c2 ∧ InB w b A1 A2 n1 n2 c1 c2 := by
  obtain ⟨x1, y1, e, ⟨rfl, _⟩, x2, y2, rfl, ⟨A1, n1, c1, rfl, hr1, hk1, hl1, hm1⟩, A2, n2, c2, rfl, hr2, hk2, hl2, hm2⟩ := h
  unfold maxLen at hm1 hm2
  refine ⟨A1, A2, n1, n2, c1, c2, ?_, ⟨trs_of hr1, poss_of hr2, hk1, hk2, ⟨hl1, by omega⟩, ⟨hl2, by omega⟩⟩⟩
  congr 1
  exact Array.toList_inj.1 (by rw [e]; rfl)
end Go.Proofs.Ytkbmiajgmnfpfaa.NumK
