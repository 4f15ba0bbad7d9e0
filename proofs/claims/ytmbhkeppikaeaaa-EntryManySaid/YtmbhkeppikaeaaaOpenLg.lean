/- Accounts and legs among a law's arguments. -/
import Derived.Test.YtmbhkeppikaeaaaLegA
import Derived.Deep.Slices
namespace Go.Proofs.Ytmbhkeppikaeaaa.NumK
open Go.RowKit Go.ChangeShapes Go.WideShapes

abbrev spAc : Sp Ac := spPair (spInt .i64) (spPair (spInt .i64) (spInt .i64))
theorem opens_acct : Opens Try.prog 35 spAc :=
  opens_struct Try.underlying35 (by kernel_rfl)
    (Fs.cons _ _ 0 rfl (opens_int Try.underlying3 (by kernel_rfl)) (Fs.cons _ _ 1 rfl (opens_int Try.underlying3 (by kernel_rfl)) (Fs.last _ 2 rfl (opens_int Try.underlying3 (by kernel_rfl)))))
theorem acct_of {w : World} {cs : Array Value} {a : Int × Int × Int} (h : spAc.rd w cs.toList a) : Value.agg cs = acV a.1 a.2.1 a.2.2 := by
  obtain ⟨c1, c2, e, ⟨rfl, _⟩, c3, c4, rfl, ⟨rfl, _⟩, rfl, _⟩ := h
  unfold acV
  congr 1
  exact Array.toList_inj.1 (by rw [e]; rfl)
theorem opens_leg : Opens Try.prog 40 (spPair spAc (spInt .i64)) :=
  opens_struct Try.underlying40 (by kernel_rfl) (Fs.cons _ _ 0 rfl opens_acct (Fs.last _ 3 rfl (opens_int Try.underlying3 (by kernel_rfl))))
theorem opens_legs : Opens Try.prog 22 (spSlice (spPair spAc (spInt .i64))) := opens_slice Try.underlying22 (by kernel_rfl) opens_leg (by decide)
theorem legs_of_row {w : World} {A : Option Addr} {n : Nat} {l : List Lg} (h : Row (spPair spAc (spInt .i64)) w A n l) : RowE enLg w A n l := by
  have hf : ∀ (cs : List Value) (a : Lg), (spPair spAc (spInt .i64)).rd w cs a → enLg.sp.rd w cs a := by
    intro cs a hr
    obtain ⟨c1, c2, rfl, ⟨c3, c4, rfl, ⟨rfl, _⟩, c5, c6, rfl, ⟨rfl, _⟩, rfl, _⟩, rfl, _⟩ := hr
    rfl
  have := Row.imp (A := spPair spAc (spInt .i64)) (B := enLg.sp) (fun x : Lg => x) rfl hf h
  rwa [List.map_id'] at this
end Go.Proofs.Ytmbhkeppikaeaaa.NumK
