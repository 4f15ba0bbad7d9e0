/- Names of accounts lead back: the mathematics. -/
import Derived.Test.YtefjdgggafkmoaaDoorAcctC
import Derived.Lib.AtoiAll
import Derived.Lib.CutLaws
import Derived.Lib.IndexBytes
namespace Go.Proofs.YtefjdgggafkmoaaDoor.NumK
open Go.RowKit

def digs (i : Nat) : List UInt8 := if i < 10 then [UInt8.ofNat (48 + i)] else [UInt8.ofNat (48 + i / 10), UInt8.ofNat (48 + i % 10)]
theorem dec_digs (i : Nat) (h : i < 100) : Lib.decDigits i = digs i := by
  unfold digs
  rw [Lib.decDigits]
  by_cases h0 : i < 10
  · rw [dif_pos h0, if_pos h0]
  · rw [dif_neg h0, if_neg h0, Lib.decDigits, dif_pos (by omega)]; rfl
def nameD (a : Ac) : List UInt8 := wordL a.1 ++ (if ownedK a.1 then 46 :: digs a.2.1.toNat else []) ++ 46 :: digs a.2.2.toNat
theorem nameL_eq (a : Ac) (h : rightA a.1 a.2.1 a.2.2 = true) : nameL a.1 a.2.1 a.2.2 = nameD a := by
  obtain ⟨_, hm, hc⟩ := right_in h
  unfold nameL nameD whoL
  rw [dec_digs _ (by omega), dec_digs _ (by omega)]

def atoiV (l : List UInt8) : Int := match Lib.atoiAll l with
  | .ok v => v
  | .syntax => 0
  | .range => Lib.atoiSat l
def kindN (l : List UInt8) : Int := if wordL 1 = l then 1 else if wordL 2 = l then 2 else if wordL 3 = l then 3 else if wordL 4 = l then 4 else if wordL 5 = l then 5 else if wordL 6 = l then 6 else 0
/-- What the program reads of a text. -/
def candA (s : List UInt8) : Ac :=
  let k := kindN (Lib.cut s [46]).1
  if ownedK k then (k, atoiV (Lib.cut (Lib.cut s [46]).2.1 [46]).1, atoiV (Lib.cut (Lib.cut s [46]).2.1 [46]).2.1) else (k, 0, atoiV (Lib.cut s [46]).2.1)
def allK : List Ac := allL [1, 2, 3, 4, 5, 6]
def findA (s : List UInt8) : Option Ac := allK.find? fun a => decide (nameL a.1 a.2.1 a.2.2 = s)

theorem allK_right : ∀ a ∈ allK, rightA a.1 a.2.1 a.2.2 = true := by decide +kernel
theorem cand_name : ∀ a ∈ allK, candA (nameD a) = a := by decide +kernel
theorem mem_fin : ∀ k : Fin 7, ∀ m : Fin 17, ∀ c : Fin 3, rightA (k.val : Int) (m.val : Int) (c.val : Int) = true → ((k.val : Int), (m.val : Int), (c.val : Int)) ∈ allK := by decide +kernel
theorem mem_allK (a : Ac) (h : rightA a.1 a.2.1 a.2.2 = true) : a ∈ allK := by
  obtain ⟨k, m, c⟩ := a
  have hb : (0 ≤ k ∧ k < 7) ∧ (0 ≤ m ∧ m < 17) ∧ (0 ≤ c ∧ c < 3) := by
    simp only [rightA, Bool.and_eq_true, decide_eq_true_eq] at h
    obtain ⟨⟨h1, h2⟩, h3⟩ := h
    split at h3 <;> simp at h3 <;> omega
  obtain ⟨⟨k0, k1⟩, ⟨m0, m1⟩, c0, c1⟩ := hb
  obtain ⟨k, rfl⟩ := Int.eq_ofNat_of_zero_le k0
  obtain ⟨m, rfl⟩ := Int.eq_ofNat_of_zero_le m0
  obtain ⟨c, rfl⟩ := Int.eq_ofNat_of_zero_le c0
  exact mem_fin ⟨k, by omega⟩ ⟨m, by omega⟩ ⟨c, by omega⟩ h

theorem cand_of (a : Ac) (h : rightA a.1 a.2.1 a.2.2 = true) : candA (nameL a.1 a.2.1 a.2.2) = a := by
  rw [nameL_eq a h]; exact cand_name a (mem_allK a h)

theorem name_inj (a b : Ac) (ha : rightA a.1 a.2.1 a.2.2 = true) (hb : rightA b.1 b.2.1 b.2.2 = true) (h : nameL a.1 a.2.1 a.2.2 = nameL b.1 b.2.1 b.2.2) : a = b := by
  rw [← cand_of a ha, ← cand_of b hb, h]

theorem findA_some {s : List UInt8} {a : Ac} (h : findA s = some a) : rightA a.1 a.2.1 a.2.2 = true ∧ nameL a.1 a.2.1 a.2.2 = s :=
  ⟨allK_right a (List.mem_of_find?_eq_some h), by have := List.find?_some h; simpa using this⟩
theorem findA_name {a : Ac} (ha : rightA a.1 a.2.1 a.2.2 = true) : findA (nameL a.1 a.2.1 a.2.2) = some a := by
  cases h : findA (nameL a.1 a.2.1 a.2.2) with
  | none =>
    have := List.find?_eq_none.1 h a (mem_allK a ha)
    simp at this
  | some b =>
    obtain ⟨h1, h2⟩ := findA_some h
    rw [name_inj b a h1 ha h2]
/-- What is read is right and has that name: or nothing has. -/
theorem findA_cand (s : List UInt8) : findA s = if rightA (candA s).1 (candA s).2.1 (candA s).2.2 = true ∧ nameL (candA s).1 (candA s).2.1 (candA s).2.2 = s then some (candA s) else none := by
  split
  · rename_i h
    have := findA_name h.1
    rwa [h.2] at this
  · rename_i h
    cases hf : findA s with
    | none => rfl
    | some b =>
      obtain ⟨h1, h2⟩ := findA_some hf
      have := cand_of b h1
      rw [h2] at this
      rw [this] at h
      exact absurd ⟨h1, h2⟩ h
end Go.Proofs.YtefjdgggafkmoaaDoor.NumK
