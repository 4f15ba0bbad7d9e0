/- Package auction: Legs. -/
import Derived.Test.YtahioajpmlochaaGreatRH2
import Derived.Test.YtahioajpmlochaaGreatRH3
import Derived.Test.YtahioajpmlochaaGreatRH8
import Derived.Test.YtahioajpmlochaaGreatRH12
import Derived.Maps.Own
import Derived.Maps.Views
import Derived.DeepKeys4
import Derived.WideKeyEntry
import Derived.Test.YtahioajpmlochaaGreatRH15
import Derived.Test.YtahioajpmlochaaGreatRH18
import Derived.Test.YtahioajpmlochaaGreatRH14
import Derived.Lib.AppendZerosOnto
import Derived.Deep.CutBlock
namespace Go.Proofs.YtahioajpmlochaaGreat.NumK
open Go.RowKit
set_option linter.unusedVariables false

def okFi (f : Fi) : Bool := wi f.2.1 0 1099511627776 && wi f.2.2 0 1073741824
theorem okFi_iff (f : Fi) : okFi f = true ↔ (0 ≤ f.2.1 ∧ f.2.1 ≤ 1099511627776) ∧ 0 ≤ f.2.2 ∧ f.2.2 ≤ 1073741824 := by unfold okFi; rw [Bool.and_eq_true, wi_iff, wi_iff]
def okMu (f : Fi) : Bool := isMoney (f.2.1 * f.2.2)
def sg (long : Bool) : Int := if long then 1 else -1
def legsE (fs : List Fi) : Int := if fs.all okFi then (if fs.all okMu then 0 else 1) else 3
def legsL (k : Ky) (long : Bool) (fs : List Fi) : List Po := if legsE fs = 0 then legsF k (sg long) fs else []
theorem legsE_3 {fs : List Fi} {j : Nat} (hj : j < fs.length) (h : okFi (fs.getD j fi0) = false) : legsE fs = 3 := by
  unfold legsE
  rw [if_neg]
  intro hc
  have := List.all_eq_true.1 hc _ (getD_mem fs fi0 j hj)
  rw [h] at this; cases this
theorem legsE_1 {fs : List Fi} {j : Nat} (hj : j < fs.length) (ha : ∀ i, i < fs.length → okFi (fs.getD i fi0) = true) (h : okMu (fs.getD j fi0) = false) : legsE fs = 1 := by
  unfold legsE
  have h1 : fs.all okFi = true := by
    rw [List.all_eq_true]; intro x hx
    obtain ⟨i, hi, rfl⟩ := List.getElem_of_mem hx
    have := ha i hi
    rwa [getD_at fs fi0 i hi] at this
  rw [if_pos h1, if_neg]
  intro hc
  have := List.all_eq_true.1 hc _ (getD_mem fs fi0 j hj)
  rw [h] at this; cases this
theorem legsE_0 {fs : List Fi} (ha : ∀ i, i < fs.length → okFi (fs.getD i fi0) = true) (hm : ∀ i, i < fs.length → okMu (fs.getD i fi0) = true) : legsE fs = 0 := by
  unfold legsE
  rw [if_pos, if_pos]
  · rw [List.all_eq_true]; intro x hx
    obtain ⟨i, hi, rfl⟩ := List.getElem_of_mem hx
    have := hm i hi
    rwa [getD_at fs fi0 i hi] at this
  · rw [List.all_eq_true]; intro x hx
    obtain ⟨i, hi, rfl⟩ := List.getElem_of_mem hx
    have := ha i hi
    rwa [getD_at fs fi0 i hi] at this
theorem legsL_no {k : Ky} {long : Bool} {fs : List Fi} (h : legsE fs ≠ 0) : legsL k long fs = [] := by unfold legsL; rw [if_neg h]
theorem legsF_take (k : Ky) (s : Int) (fs : List Fi) (j : Nat) (hj : j < fs.length) : legsF k s (fs.take (j + 1)) = legsF k s (fs.take j) ++ [((fs.getD j fi0).1, k.2, s * (fs.getD j fi0).2.1, s * ((fs.getD j fi0).2.1 * (fs.getD j fi0).2.2)), (k.1, k.2, -(s * (fs.getD j fi0).2.1), -(s * ((fs.getD j fi0).2.1 * (fs.getD j fi0).2.2)))] := by
  unfold legsF
  rw [List.take_succ_eq_append_getElem hj, List.flatMap_append, getD_at fs fi0 j hj]
  simp
theorem legsF_len (k : Ky) (s : Int) (fs : List Fi) : (legsF k s fs).length = 2 * fs.length := by
  induction fs with
  | nil => rfl
  | cons f fs ih => rw [legsF_cons]; simp only [List.length_cons, ih]; omega
theorem mul_of {f : Fi} (h : okFi f = true) : (okMu f = true → mulV f.2.1 f.2.2 = f.2.1 * f.2.2 ∧ mulE f.2.1 f.2.2 = 0) ∧ (okMu f = false → mulE f.2.1 f.2.2 = 1) := by
  have h1 := (okFi_iff f).1 h
  have h2 : [f.2.1, f.2.2].all isMoney = true := by
    simp only [List.all_cons, List.all_nil, Bool.and_true, Bool.and_eq_true]
    exact ⟨(isMoney_iff _).2 (by omega), (isMoney_iff _).2 (by omega)⟩
  rw [mulV_in h2, mulE_in h2]
  unfold okMu capV capE
  constructor
  · intro h3; rw [h3]; exact ⟨rfl, rfl⟩
  · intro h3; rw [h3]; rfl
theorem rowE_lits {α : Type} (E : En α) (l : List α) (w : World) (t : TypeId) (cs : Array Value) (hc : cs = (l.flatMap E.cs).toArray) (N n : Nat) (hN : w.heap.size = N) (hn : l.length = n) : RowE E (w.alloc (.cells cs t)) (some ⟨N, 0, none⟩) n l := by
  subst hN hn hc
  refine ⟨rfl, fun h => ⟨w.heap.size, 0, rfl, by simp, fun j hj => ⟨E.cs l[j], rfl, fun i hi => ?_⟩⟩⟩
  have hi : i < E.size := hi
  rw [World.cell?_alloc_at _ _ _ _ (by simp), Nat.zero_add]
  have := E.flat_at l j hj i hi
  show (l.flatMap E.cs).toArray[j * E.size + i]? = (E.cs l[j])[i]?
  rw [List.getElem?_toArray]; exact this
def FlPost (k : Ky) (long : Bool) (fs : List Fi) (w : World) (e : Ending) (w' : World) : Prop :=
  ∃ v, e = .returned (.tuple #[v, .int .i64 (legsE fs)]) ∧ OwnE enPo w' w.heap.size 31 v (legsL k long fs) ∧ Grew w w'
theorem FlPost.no {k : Ky} {long : Bool} {fs : List Fi} {r : Int} {w w' : World} (h : legsE fs = r) (hr : r ≠ 0) (g : Grew w w') : FlPost k long fs w (.returned (.tuple #[.slice none 0 0, .int .i64 r])) w' :=
  ⟨_, by rw [h], by rw [legsL_no (by rw [h]; exact hr)]; exact OwnE.nil _ _ _ _, g⟩
theorem FlPost.yes {k : Ky} {long : Bool} {fs : List Fi} {v : Value} {w w' : World} (h : legsE fs = 0) (ho : OwnE enPo w' w.heap.size 31 v (legsF k (sg long) fs)) (g : Grew w w') : FlPost k long fs w (.returned (.tuple #[v, .int .i64 0])) w' :=
  ⟨v, by rw [h], by unfold legsL; rw [if_pos h]; exact ho, g⟩

set_option maxRecDepth 100000 in
set_option maxHeartbeats 8000000 in
theorem flegs_any (k : Ky) (long : Bool) (A : Option Addr) (n c : Nat) (fs : List Fi) (w : World) (h : RowE enD3 w A n fs) (hn : n ≤ 100000) :
    Calls Tryz.prog 8 #[.agg #[.int .i64 k.1, .int .i64 k.2], .bool long, .slice A n c] w (FlPost k long fs w) := by
  have HI := Lib.hid h
  have HL := Lib.hid h.len
  have HE3 := Lib.hid (fun j hj h => @legsE_3 fs j hj h)
  have HE1 := Lib.hid (fun j hj ha h => @legsE_1 fs j hj ha h)
  have HE0 := Lib.hid (@legsE_0 fs)
  have HNO := Lib.hid (fun r w' h hr g => @FlPost.no k long fs r w w' h hr g)
  have HYES := Lib.hid (fun v w' h ho g => @FlPost.yes k long fs v w w' h ho g)
  generalize FlPost k long fs w = Q at *
  clear h
  obtain ⟨k1, k2⟩ := k
  dsimp only
  have HX0 : Hid (OwnC (w.alloc (.cells #[.int .i64 k1, .int .i64 k2] 24)) w.heap.size [.int .i64 k1, .int .i64 k2]) := OwnC.new w [.int .i64 k1, .int .i64 k2] _ _ rfl
  have HG0 : Hid (Grew w (w.alloc (.cells #[.int .i64 k1, .int .i64 k2] 24))) := grew_alloc _ _ _
  go_enter Tryz.func8, Tryz.ntmps8
  go_upto_region 1 with (fail)
  generalize w.alloc (.cells #[.int .i64 k1, .int .i64 k2] 24) = w0 at *
  generalize hN0 : w.heap.size = N0 at *
  have HN0 := Lib.hid hN0
  clear hN0
  go_wp2
  go_loopw [9, 19] (fun v9 v19 wr => ∃ j : Nat, v19 = .int .i64 j ∧ j ≤ n ∧ Hid (∀ i, i < j → okFi (fs.getD i fi0) = true) ∧ Hid (Grew w0 wr)) (fun _ v19 _ => n - (intOf v19).toNat)
  case atStart => exact ⟨0, rfl, by omega, (by intro i hi; omega), grew_refl _⟩
  case round =>
    obtain ⟨j, rfl, hj, HA, HG⟩ := hrel
    by_cases hlt : j < n
    · obtain ⟨b, o, rfl, hb, hc⟩ := (HI.out.keep (grew_trans HG0.out HG.out)).rD3 hlt
      obtain ⟨a0, a1, a2⟩ := hc j hlt
      have HV : Hid (okFi (fs.getD j fi0) = (wi (fs.getD j fi0).2.1 0 1099511627776 && wi (fs.getD j fi0).2.2 0 1073741824)) := rfl
      have HB3 : Hid (okFi (fs.getD j fi0) = false → legsE fs = 3) := fun h => HE3.out j (by rw [HL.out]; exact hlt) h
      have HA1 : Hid (okFi (fs.getD j fi0) = true → ∀ i, i < j + 1 → okFi (fs.getD i fi0) = true) := fun h i hi => by
        rcases Nat.lt_or_ge i j with h1 | h1
        · exact HA.out i h1
        · obtain rfl : i = j := by omega
          exact h
      have i0 : (0 : Int) ≤ (j : Int) := by omega
      have i1 : (j : Int) < (n : Int) := by omega
      clear hc hb
      generalize okFi (fs.getD j fi0) = V at *
      generalize fs.getD j fi0 = x at *
      obtain ⟨q1, q2, q3⟩ := x
      dsimp only at a0 a1 a2 HV
      have C1 := fun w => auwithin_any q2 0 1099511627776 w
      have C2 := fun w => auwithin_any q3 0 1073741824 w
      generalize wi q2 0 1099511627776 = R1 at *
      generalize wi q3 0 1073741824 = R2 at *
      have HX : Hid (OwnC (wr.alloc (.cells #[.int .i64 q1, .int .i64 q2, .int .i64 q3] 40)) wr.heap.size [.int .i64 q1, .int .i64 q2, .int .i64 q3]) := OwnC.new wr [.int .i64 q1, .int .i64 q2, .int .i64 q3] _ _ rfl
      have HG1 := Lib.hid (grew_trans HG.out (grew_alloc wr #[.int .i64 q1, .int .i64 q2, .int .i64 q3] 40))
      go_upto_region 4 with (fail)
      generalize (wr.alloc (.cells #[.int .i64 q1, .int .i64 q2, .int .i64 q3] 40)) = w1 at *
      generalize wr.heap.size = N at *
      have x1 := HX.out.at 1 _ rfl
      have x2 := HX.out.at 2 _ rfl
      clear HG HX a0 a1 a2
      have H : (R1 = false) ∨ (R1 = true ∧ R2 = false) ∨ (R1 = true ∧ R2 = true) := by cases R1 <;> cases R2 <;> simp
      rcases H with rfl | ⟨rfl, rfl⟩ | ⟨rfl, rfl⟩
      · have HF := Lib.hid (HB3.out (by rw [HV.out]; rfl))
        clear HB3 HA1 HV HA
        go_wp2_with (go_at_call 13; ((with_reducible refine (C1 _).mono ?_); rintro e w9 ⟨rfl, rfl⟩))
        exact HNO.out 3 _ HF.out (by decide) (grew_trans HG0.out HG1.out)
      · have HF := Lib.hid (HB3.out (by rw [HV.out]; rfl))
        clear HB3 HA1 HV HA
        go_wp2_with (first
          | (go_at_call 13; ((with_reducible refine (C1 _).mono ?_); rintro e w9 ⟨rfl, rfl⟩))
          | (go_at_call 13; ((with_reducible refine (C2 _).mono ?_); rintro e w9 ⟨rfl, rfl⟩)))
        exact HNO.out 3 _ HF.out (by decide) (grew_trans HG0.out HG1.out)
      · have HF := Lib.hid (HA1.out (by rw [HV.out]; rfl))
        clear HB3 HA1 HV HA
        go_wp2_with (first
          | (go_at_call 13; ((with_reducible refine (C1 _).mono ?_); rintro e w9 ⟨rfl, rfl⟩))
          | (go_at_call 13; ((with_reducible refine (C2 _).mono ?_); rintro e w9 ⟨rfl, rfl⟩)))
        go_roundw
        case rel => exact ⟨j + 1, by go_num, by omega, HF.out, HG1.out⟩
        case measure => simp only [intOf]; omega
    · obtain rfl : j = n := by omega
      have HALL := Lib.hid HA.out
      have HGR := Lib.hid HG.out
      clear HA HG hlt
      go_wp2
      rename World => wq
      go_loopw [10, 12, 13, 14, 15, 16, 36] (fun v10 v12 v13 v14 v15 v16 v36 wr => ∃ i : Nat, v36 = .int .i64 i ∧ i ≤ j ∧ Hid (∀ p, p < i → okMu (fs.getD p fi0) = true) ∧ Hid (OwnE enPo wr w0.heap.size 31 v10 (legsF (k1, k2) (sg long) (fs.take i))) ∧ Hid (Grew w0 wr)) (fun _ _ _ _ _ _ v36 _ => j - (intOf v36).toNat)
      case atStart => exact ⟨0, rfl, by omega, (by intro i hi; omega), OwnE.nil _ _ _ _, HGR.out⟩
      case round =>
        clear HGR
        obtain ⟨i, rfl, hi, HM, HT, HG⟩ := hrel
        by_cases hlt : i < j
        · obtain ⟨b, o, rfl, hb, hc⟩ := (HI.out.keep (grew_trans HG0.out HG.out)).rD3 hlt
          obtain ⟨a0, a1, a2⟩ := hc i hlt
          have HO1 := HALL.out i hlt
          have HV := Lib.hid (mul_of HO1)
          have HB1 : Hid (okMu (fs.getD i fi0) = false → legsE fs = 1) := fun h => HE1.out i (by rw [HL.out]; exact hlt) (by rw [HL.out]; exact HALL.out) h
          have HM1 : Hid (okMu (fs.getD i fi0) = true → ∀ p, p < i + 1 → okMu (fs.getD p fi0) = true) := fun h p hp => by
            rcases Nat.lt_or_ge p i with h1 | h1
            · exact HM.out p h1
            · obtain rfl : p = i := by omega
              exact h
          have HLE : Hid (legsF (k1, k2) (sg long) (fs.take (i + 1)) = legsF (k1, k2) (sg long) (fs.take i) ++ [((fs.getD i fi0).1, k2, sg long * (fs.getD i fi0).2.1, sg long * ((fs.getD i fi0).2.1 * (fs.getD i fi0).2.2)), (k1, k2, -(sg long * (fs.getD i fi0).2.1), -(sg long * ((fs.getD i fi0).2.1 * (fs.getD i fi0).2.2)))]) := legsF_take (k1, k2) (sg long) fs i (by rw [HL.out]; exact hlt)
          have HLL : Hid ((legsF (k1, k2) (sg long) (fs.take i)).length ≤ 200000) := by show _ ≤ _; rw [legsF_len, List.length_take]; omega
          have HBD : Hid (okMu (fs.getD i fi0) = true → -4611686018427387904 ≤ (fs.getD i fi0).2.1 * (fs.getD i fi0).2.2 ∧ (fs.getD i fi0).2.1 * (fs.getD i fi0).2.2 ≤ 4611686018427387904) := fun h => (isMoney_iff _).1 h
          have hqq := ((okFi_iff _).1 HO1).1
          have i0 : (0 : Int) ≤ (i : Int) := by omega
          have i1 : (i : Int) < (j : Int) := by omega
          clear hc hb HO1
          generalize okMu (fs.getD i fi0) = V at *
          generalize fs.getD i fi0 = x at *
          obtain ⟨q1, q2, q3⟩ := x
          dsimp only at a0 a1 a2 HV HLE HBD hqq
          obtain ⟨hq0, hq9⟩ := hqq
          have CT := fun w => times_any q2 q3 w
          generalize hp : q2 * q3 = p at *
          clear hp
          generalize mulV q2 q3 = mv at *
          generalize mulE q2 q3 = me at *
          have HX : Hid (OwnC (wr.alloc (.cells #[.int .i64 q1, .int .i64 q2, .int .i64 q3] 40)) wr.heap.size [.int .i64 q1, .int .i64 q2, .int .i64 q3]) := OwnC.new wr [.int .i64 q1, .int .i64 q2, .int .i64 q3] _ _ rfl
          have HT1 := Lib.hid (HT.out.keep (grew_alloc wr #[.int .i64 q1, .int .i64 q2, .int .i64 q3] 40))
          have HG1 := Lib.hid (grew_trans HG.out (grew_alloc wr #[.int .i64 q1, .int .i64 q2, .int .i64 q3] 40))
          go_upto_region 11 with (fail)
          generalize (wr.alloc (.cells #[.int .i64 q1, .int .i64 q2, .int .i64 q3] 40)) = w1 at *
          generalize wr.heap.size = N at *
          have x0 := HX.out.at 0 _ rfl
          have x1 := HX.out.at 1 _ rfl
          have x2 := HX.out.at 2 _ rfl
          clear HG HT a0 a1 a2 HM
          go_upto_region 13 with (go_at_call 20; ((with_reducible refine (CT _).mono ?_); rintro e w5 ⟨rfl, hg⟩; have HG5 : Hid (Grew w0 w5) := grew_trans HG1.out hg; have HT5 := Lib.hid (HT1.out.keep hg); have HX5 := Lib.hid (HX.out.keep hg); clear hg x0 x1 x2))
          have x0 := HX5.out.at 0 _ rfl
          have z0 := (HX0.out.keep HG5.out).at 0 _ rfl
          have z1 := (HX0.out.keep HG5.out).at 1 _ rfl
          clear HX HX5 HT1 HG1
          cases V
          · have HF := Lib.hid (HB1.out rfl)
            have me1 := HV.out.2 rfl
            subst me1
            clear HB1 HM1 HLE HBD HV
            go_wp2
            exact HNO.out 1 _ HF.out (by decide) (grew_trans HG0.out HG5.out)
          · have HM2 := Lib.hid (HM1.out rfl)
            obtain ⟨mv1, me1⟩ := HV.out.1 rfl
            subst me1 mv1
            obtain ⟨hp1, hp2⟩ := HBD.out rfl
            clear HB1 HM1 HBD HV
            have HXT : Hid (OwnC (w5.alloc (.cells #[.int .i64 q1, .int .i64 k2] 24)) w5.heap.size [.int .i64 q1, .int .i64 k2]) := OwnC.new w5 [.int .i64 q1, .int .i64 k2] _ _ rfl
            have HT0 := Lib.hid (HT5.out.keep (grew_alloc w5 #[.int .i64 q1, .int .i64 k2] 24))
            have HG6 := Lib.hid (grew_trans HG5.out (grew_alloc w5 #[.int .i64 q1, .int .i64 k2] 24))
            have e1 : IntKind.i64.wrap (-q2) = -q2 := by rw [IntKind.wrap_i64]; omega
            have e2 : IntKind.i64.wrap (-mv) = -mv := by rw [IntKind.wrap_i64]; omega
            have e3 : IntKind.i64.wrap q2 = q2 := by rw [IntKind.wrap_i64]; omega
            have e4 : IntKind.i64.wrap mv = mv := by rw [IntKind.wrap_i64]; omega
            have e5 : IntKind.i64.wrap (- -q2) = q2 := by rw [IntKind.wrap_i64]; omega
            have e6 : IntKind.i64.wrap (- -mv) = mv := by rw [IntKind.wrap_i64]; omega
            cases long
            · have HLF : Hid (legsF (k1, k2) (sg false) (fs.take (i + 1)) = legsF (k1, k2) (sg false) (fs.take i) ++ [(q1, k2, -q2, -mv), (k1, k2, q2, mv)]) := by
                have e : sg false = -1 := rfl
                show _ = _
                rw [HLE.out, e, show (-1 : Int) * q2 = -q2 by omega, show (-1 : Int) * mv = -mv by omega, Int.neg_neg, Int.neg_neg]
              clear HLE
              go_upto_region 18 with (fail)
              generalize (w5.alloc (.cells #[.int .i64 q1, .int .i64 k2] 24)) = w6 at *
              generalize w5.heap.size = N5 at *
              have y0 := HXT.out.at 0 _ rfl
              have y1 := HXT.out.at 1 _ rfl
              have z0 := (HX0.out.keep HG6.out).at 0 _ rfl
              have z1 := (HX0.out.keep HG6.out).at 1 _ rfl
              go_wp2_with (at_builtin; refine (wpList_append_E rfl _ _ 26 31 (vPo po0) 32 rfl Tryz.underlying26 info_po rfl w0.heap.size _ _ rfl (HT0.out.keep (grew_alloc _ _ _)) (some ⟨w6.heap.size, 0, none⟩) 2 2 [(q1, k2, -q2, -mv), (k1, k2, q2, mv)] rfl (by intro h; cases h) (rowE_lits enPo [(q1, k2, -q2, -mv), (k1, k2, q2, mv)] w6 31 _ rfl _ 2 rfl rfl) (by have := HLL.out; unfold maxLen; omega) (by have := HLL.out; omega) (Nat.le_trans (grew_size HG6.out) (by simp)) ?_); intro v' w7 ho hb; have HO7 := Lib.hid ho; have HG7 : Hid (Grew w0 w7) := Below.trans (grew_trans HG6.out (grew_alloc _ _ _)) hb; clear ho hb)
              go_roundw
              case rel => exact ⟨i + 1, by go_num, by omega, HM2.out, by rw [HLF.out]; exact HO7.out, HG7.out⟩
              case measure => simp only [intOf]; omega
            · have HLF : Hid (legsF (k1, k2) (sg true) (fs.take (i + 1)) = legsF (k1, k2) (sg true) (fs.take i) ++ [(q1, k2, q2, mv), (k1, k2, -q2, -mv)]) := by
                have e : sg true = 1 := rfl
                show _ = _
                rw [HLE.out, e, Int.one_mul, Int.one_mul]
              clear HLE
              go_upto_region 18 with (fail)
              generalize (w5.alloc (.cells #[.int .i64 q1, .int .i64 k2] 24)) = w6 at *
              generalize w5.heap.size = N5 at *
              have y0 := HXT.out.at 0 _ rfl
              have y1 := HXT.out.at 1 _ rfl
              have z0 := (HX0.out.keep HG6.out).at 0 _ rfl
              have z1 := (HX0.out.keep HG6.out).at 1 _ rfl
              go_wp2_with (at_builtin; refine (wpList_append_E rfl _ _ 26 31 (vPo po0) 32 rfl Tryz.underlying26 info_po rfl w0.heap.size _ _ rfl (HT0.out.keep (grew_alloc _ _ _)) (some ⟨w6.heap.size, 0, none⟩) 2 2 [(q1, k2, q2, mv), (k1, k2, -q2, -mv)] rfl (by intro h; cases h) (rowE_lits enPo [(q1, k2, q2, mv), (k1, k2, -q2, -mv)] w6 31 _ rfl _ 2 rfl rfl) (by have := HLL.out; unfold maxLen; omega) (by have := HLL.out; omega) (Nat.le_trans (grew_size HG6.out) (by simp)) ?_); intro v' w7 ho hb; have HO7 := Lib.hid ho; have HG7 : Hid (Grew w0 w7) := Below.trans (grew_trans HG6.out (grew_alloc _ _ _)) hb; clear ho hb)
              go_roundw
              case rel => exact ⟨i + 1, by go_num, by omega, HM2.out, by rw [HLF.out]; exact HO7.out, HG7.out⟩
              case measure => simp only [intOf]; omega
        · obtain rfl : i = j := by omega
          have HF := Lib.hid (HE0.out (by rw [HL.out]; exact HALL.out) (by rw [HL.out]; exact HM.out))
          have HTE : Hid (fs.take i = fs) := List.take_of_length_le (by rw [HL.out]; exact Nat.le_refl _)
          rw [HTE.out] at HT
          go_wp2
          exact HYES.out _ _ HF.out (HT.out.mono (by have := grew_size HG0.out; have := HN0.out; omega)) (grew_trans HG0.out HG.out)
end Go.Proofs.YtahioajpmlochaaGreat.NumK
namespace Go.Proofs.YtahioajpmlochaaGreat.NumK
open Go.RowKit Go.Maps
set_option linter.unusedVariables false

/-! ### keys -/
theorem laidKy : laidOutB Tryz.prog = true := by kernel_rfl
theorem keyedKy : Keyed Tryz.prog 24 := Keyed.of_law (deep_law_laid laidKy (m := 4) (by decide) (by decide +kernel) (by kernel_rfl) (by kernel_rfl))
theorem cellsKy : Tryz.prog.cellsOf 24 = 2 := by kernel_rfl
theorem cellsIntK : Tryz.prog.cellsOf 3 = 1 := by kernel_rfl
theorem keyTypeKy : Tryz.prog.keyType 24 = true := by decide +kernel
theorem someTypes : 1 ≤ Tryz.prog.types.size := by decide +kernel
theorem lits_ky (d : Nat) (k : Ky) (h : okK k = true) : Tryz.prog.keyLits (d + 2) 24 [.int .i64 k.1, .int .i64 k.2] = some [.int .i64 k.1, .int .i64 k.2] := by
  have h := (okK_iff k).1 h
  have w1 : (Lit.int .i64 k.1).wf = true := WalkArith.wf_i64 ⟨by omega, by omega⟩
  have w2 : (Lit.int .i64 k.2).wf = true := WalkArith.wf_i64 ⟨by omega, by omega⟩
  simp [Program.keyLits, Tryz.underlying24, Tryz.underlying3, cellsKy, cellsIntK, w1, w2]
theorem key_ky (k : Ky) (h : okK k = true) : ∃ kl, keyOf Tryz.prog 24 (vKy k) = some kl := by
  have h9 := someTypes
  obtain ⟨d, hd⟩ : ∃ d, Tryz.prog.types.size + 1 = d + 2 := ⟨Tryz.prog.types.size - 1, by omega⟩
  have hf : (vKy k).formed Tryz.prog 24 = true := by simp [Value.formed, Tryz.underlying24, cellsKy]
  have hc : (vKy k).cells.toList = [.int .i64 k.1, .int .i64 k.2] := rfl
  unfold keyOf
  simp only [Tryz.underlying24, keyTypeKy, hf, Bool.and_self, if_true]
  rw [hc, hd, lits_ky d k h]
  exact ⟨_, rfl⟩

/-! ### the map -/
/-- A block is a map of at most n entries that holds at each key what g says. -/
def MapG (w : World) (b n : Nat) (g : Ky → Sv) : Prop :=
  ∃ D : DataW Unit, w.ownsMap Tryz.prog 24 readSv b n D ∧ IsMap D ∧ ∀ k, okK k = true → ∀ kl, keyOf Tryz.prog 24 (vKy k) = some kl → D.atKey kl (dSv none) = dSv (g k)
theorem zeroSv (w : World) : (zeroValue 26).run Tryz.prog w = .ok (.slice none 0 0) w := by kernel_rfl
/-- What a map is hangs on its block alone. -/
theorem MapG.same {w w' : World} {b n : Nat} {g : Ky → Sv} (h : MapG w b n g) (hb : w'.heap[b]? = w.heap[b]?) : MapG w' b n g := by
  obtain ⟨D, ⟨es, clock, he, F, hs, hD⟩, h2, h3⟩ := h
  exact ⟨D, ⟨es, clock, hb.trans he, F, hs, hD⟩, h2, h3⟩
theorem MapG.lt {w : World} {b n : Nat} {g : Ky → Sv} (h : MapG w b n g) : b < w.heap.size := by
  obtain ⟨D, h1, _⟩ := h
  exact h1.lt
theorem MapG.keep {w w' : World} {b n : Nat} {g : Ky → Sv} (h : MapG w b n g) (hg : Grew w w') : MapG w' b n g := h.same (hg.block b h.lt)
theorem MapG.kept {w w' : World} {b n : Nat} {g : Ky → Sv} {row : Option Nat} (h : MapG w b n g) (hg : w.grownBy w' row) (hne : some b ≠ row) : MapG w' b n g := h.same (hg.block b h.lt hne)
theorem MapG.new (w : World) : MapG (w.alloc (.map #[] 0)) w.heap.size 0 (fun _ => none) := by
  refine ⟨.map [], World.ownsMap_made _ _ _ _, isMap_empty, fun k _ kl _ => ?_⟩
  simp [DataW.atKey]
/-- 'm[k]'. -/
theorem MapG.look {w : World} {b n : Nat} {g : Ky → Sv} (h : MapG w b n g) (k : Ky) (hk : okK k = true) :
    (Instr.lookup 137 (.map (some b)) (vKy k) false).run Tryz.prog w = .ok (vSv (g k)) w := by
  obtain ⟨D, h1, h2, h3⟩ := h
  obtain ⟨kl, hkl⟩ := key_ky k hk
  obtain ⟨v, ps, hrun, hv⟩ := h1.lookup keyedKy Tryz.underlying137 (zeroSv w) (readSv_mk none) hkl
  rw [h3 k hk kl hkl] at hv
  rw [hrun, readSv_inv hv]

/-- What finding the entry of a key leaves: a stamp by which it is written. -/
structure Found (w1 : World) (b n : Nat) (g : Ky → Sv) (k : Ky) (st : Nat) : Prop where
  store : ∀ (w2 : World) (s : Sv), w2.heap[b]? = w1.heap[b]? → ∃ w3, (Instr.entryStore 137 (.map (some b)) (.int .i64 st) (vSv s)).run Tryz.prog w2 = .ok () w3 ∧ MapG w3 b (n + 1) (upd g k s) ∧ w2.grownBy w3 (some b)

/-- 'm[k] = f(m[k])', up to what f is told: the entry is found, or made. -/
theorem MapG.entry {w : World} {b n : Nat} {g : Ky → Sv} (h : MapG w b n g) (k : Ky) (hk : okK k = true) (hn : n < maxLen) :
    ∃ (st : Nat) (w1 : World), (Instr.mapEntry 137 (.map (some b)) (vKy k)).run Tryz.prog w = .ok (.tuple #[vSv (g k), .int .i64 st]) w1 ∧ w.grownBy w1 (some b) ∧ Found w1 b n g k st := by
  have HLOOK := h.look k hk
  obtain ⟨D, k1, k2, k3⟩ := h
  obtain ⟨kl, hkl⟩ := key_ky k hk
  have hput : ∀ (s : Sv), ∃ w', (Instr.mapUpdate 137 (.map (some b)) (vKy k) (vSv s)).run Tryz.prog w = .ok () w' ∧ MapG w' b (n + 1) (upd g k s) := fun s => by
    obtain ⟨w', hrun, ho, hg⟩ := k1.update keyedKy Tryz.underlying137 hn hkl (readSv_mk s)
    refine ⟨w', hrun, _, ho, k2.put _ _, fun k' hk' kl' hkl' => ?_⟩
    by_cases e : k' = k
    · subst e
      rw [hkl] at hkl'
      cases hkl'
      rw [atKey_put_same k2 (keyedKy.key hkl), upd_at]
    · have hne : kl' ≠ kl := fun e2 => by
        subst e2
        have := keyedKy.inj hkl' hkl
        simp only [Value.agg.injEq] at this
        have t := congrArg Array.toList this
        simp at t
        exact e (Prod.ext t.1 t.2)
      rw [atKey_put_other hne, k3 k' hk' kl' hkl', upd_ne _ _ e]
  obtain ⟨es, clock, hb, F, hs, hD⟩ := k1
  obtain ⟨s1, s2, -⟩ := F.stamped
  have ht : Tryz.prog.underlying 137 = some (.map 24 26) := Tryz.underlying137
  rcases keyedKy.find w hkl es.toList F.keys with ⟨f1, f2⟩ | ⟨j, e0, f1, f2, f3⟩
  · have hz : vSv (g k) = .slice none 0 0 := by
      have : (Instr.lookup 137 (.map (some b)) (vKy k) false).run Tryz.prog w = .ok (.slice none 0 0) w := by
        simp [Instr.lookup, run_underlying ht, MapKept.run_getObj_map hb, keyedKy.check w _ hkl, f1, Result.andThen]
      rw [this] at HLOOK
      simpa using HLOOK.symm
    refine ⟨clock, ChangeMaps.setBlock w b (.map (es.push ⟨vKy k, .slice none 0 0, clock⟩) (clock + 1)), ?_, grownBy_set hb _, ⟨fun w2 s h2 => ?_⟩⟩
    · rw [hz]
      simp [Instr.mapEntry, run_underlying ht, MapKept.run_getObj_map hb, keyedKy.check w false hkl, f1, MapKept.run_setObj_map _ hb, Result.andThen, ChangeMaps.setBlock, goInt]
    · rw [ChangeMaps.heap_setBlock_same hb] at h2
      obtain ⟨w', hrun, hm⟩ := hput s
      have hrun2 : (Instr.mapUpdate 137 (.map (some b)) (vKy k) (vSv s)).run Tryz.prog w = .ok () (ChangeMaps.setBlock w b (.map (es.push ⟨vKy k, vSv s, clock⟩) (clock + 1))) := by
        simp [Instr.mapUpdate, run_underlying ht, MapKept.run_getObj_map hb, keyedKy.check w false hkl, f1, MapKept.run_setObj_map _ hb, Result.andThen, ChangeMaps.setBlock]
      rw [hrun2] at hrun
      obtain rfl : ChangeMaps.setBlock w b (.map (es.push ⟨vKy k, vSv s, clock⟩) (clock + 1)) = w' := by simpa using hrun
      have hix : (es.push ⟨vKy k, .slice none 0 0, clock⟩).findIdx? (fun e => ((e.born : Nat) : Int) == ((clock : Nat) : Int)) = some es.size := by
        refine stamp_at (e0 := ⟨vKy k, .slice none 0 0, clock⟩) ?_ (by simp)
        rw [Array.toList_push, List.map_append]
        refine List.nodup_append.2 ⟨s2, by simp, fun a ha c hc e1 => ?_⟩
        obtain ⟨x, hx, rfl⟩ := List.mem_map.1 ha
        have hlt := s1 x hx
        simp only [List.map_cons, List.map_nil, List.mem_singleton] at hc
        omega
      have hmod : (es.push ⟨vKy k, .slice none 0 0, clock⟩).modify es.size (fun e => { e with val := vSv s }) = es.push ⟨vKy k, vSv s, clock⟩ := by
        apply Array.ext'
        rw [Array.toList_modify, Array.toList_push, Array.toList_push, ← Array.length_toList, WideElems.modify_last]
      refine ⟨ChangeMaps.setBlock w2 b (.map (es.push ⟨vKy k, vSv s, clock⟩) (clock + 1)), ?_, hm.same ?_, grownBy_set h2 _⟩
      · simp [Instr.entryStore, MapKept.run_getObj_map h2, asInt, asIntOf, hix, hmod, MapKept.run_setObj_map _ h2, Result.andThen, ChangeMaps.setBlock]
      · rw [ChangeMaps.heap_setBlock_same h2, ChangeMaps.heap_setBlock_same hb]
  · have hj : es[j]? = some e0 := by simpa using f2
    have hz : vSv (g k) = e0.val := by
      have : (Instr.lookup 137 (.map (some b)) (vKy k) false).run Tryz.prog w = .ok e0.val w := by
        simp [Instr.lookup, run_underlying ht, MapKept.run_getObj_map hb, keyedKy.check w _ hkl, f1, Result.andThen]
      rw [this] at HLOOK
      simpa using HLOOK.symm
    have hsame : es.modify j (fun e => { e with key := vKy k }) = es := by
      apply Array.ext'
      rw [Array.toList_modify, ChangeMaps.modify_eq_set _ _ _ _ f2]
      have : ({ e0 with key := vKy k } : MapEntry) = e0 := by rw [← f3]
      rw [this]
      exact WideElems.set_self _ _ _ f2
    refine ⟨e0.born, ChangeMaps.setBlock w b (.map es clock), ?_, grownBy_set hb _, ⟨fun w2 s h2 => ?_⟩⟩
    · rw [hz]
      simp [Instr.mapEntry, run_underlying ht, MapKept.run_getObj_map hb, keyedKy.check w false hkl, f1, hj, f3, keyedKy.stays w hkl, hsame, MapKept.run_setObj_map _ hb, Result.andThen, ChangeMaps.setBlock, goInt]
    · rw [ChangeMaps.heap_setBlock_same hb] at h2
      obtain ⟨w', hrun, hm⟩ := hput s
      have hrun2 : (Instr.mapUpdate 137 (.map (some b)) (vKy k) (vSv s)).run Tryz.prog w = .ok () (ChangeMaps.setBlock w b (.map (es.modify j (fun e => { e with key := vKy k, val := vSv s })) clock)) := by
        simp [Instr.mapUpdate, run_underlying ht, MapKept.run_getObj_map hb, keyedKy.check w false hkl, f1, hj, f3, keyedKy.stays w hkl, MapKept.run_setObj_map _ hb, Result.andThen, ChangeMaps.setBlock]
      rw [hrun2] at hrun
      obtain rfl : ChangeMaps.setBlock w b (.map (es.modify j (fun e => { e with key := vKy k, val := vSv s })) clock) = w' := by simpa using hrun
      have hix := stamp_at s2 f2
      have hmod : es.modify j (fun e => { e with val := vSv s }) = es.modify j (fun e => { e with key := vKy k, val := vSv s }) := by
        apply Array.ext'
        rw [Array.toList_modify, Array.toList_modify, ChangeMaps.modify_eq_set _ _ _ _ f2, ChangeMaps.modify_eq_set _ _ _ _ f2, ← f3]
      refine ⟨ChangeMaps.setBlock w2 b (.map (es.modify j (fun e => { e with key := vKy k, val := vSv s })) clock), ?_, hm.same ?_, grownBy_set h2 _⟩
      · simp [Instr.entryStore, MapKept.run_getObj_map h2, asInt, asIntOf, hix, hmod, MapKept.run_setObj_map _ h2, Result.andThen, ChangeMaps.setBlock]
      · rw [ChangeMaps.heap_setBlock_same h2, ChangeMaps.heap_setBlock_same hb]
end Go.Proofs.YtahioajpmlochaaGreat.NumK
namespace Go.Proofs.YtahioajpmlochaaGreat.NumK
open Go.RowKit Go.Maps
set_option linter.unusedVariables false

def joinPE (l : List Po) : Int := if fits (sumK2 l) then 0 else 1
def joinPL (l : List Po) : List Po := if fits (sumK2 l) then plA (sumK2 l) else []
/-- What of the parts has a key, so far. -/
def rowK (l : List Po) (k : Ky) : List Po := l.filter (isK k)
theorem rowK_succ (l : List Po) (j : Nat) (h : j < l.length) : ∀ k, upd (rowK (l.take j)) (keyP (l.getD j po0)) (rowK (l.take j) (keyP (l.getD j po0)) ++ [l.getD j po0]) k = rowK (l.take (j + 1)) k := by
  intro k
  unfold rowK
  rw [filter_take_succ _ l po0 j h]
  by_cases e : k = keyP (l.getD j po0)
  · subst e
    rw [upd_at, if_pos ((isK_iff _ _).2 rfl)]
  · rw [upd_ne _ _ e]
    have : isK k (l.getD j po0) = false := by
      rw [← Bool.not_eq_true, isK_iff]
      exact fun h => e h.symm
    rw [this]; simp
theorem rowK_len (l : List Po) (j : Nat) (k : Ky) : (rowK (l.take j) k).length ≤ j := filt_len l (isK k) j
theorem fits_no {f : Ky → Int × Int} {k : Ky} (hk : okK k = true) (h : (okQ (f k).1 && isMoney (f k).2) = false) : fits f = false := by
  rw [← Bool.not_eq_true, fits_iff]
  intro h2
  obtain ⟨h3, h4⟩ := h2 k hk
  rw [h3, h4] at h
  cases h
theorem fits_grid {f : Ky → Int × Int} (h : ∀ i (hi : i < 128), (okQ (f (gridK[i]'(by rw [grid_len]; exact hi))).1 && isMoney (f (gridK[i]'(by rw [grid_len]; exact hi))).2) = true) : fits f = true := by
  unfold fits
  rw [List.all_eq_true]
  intro k hk
  obtain ⟨i, hi, rfl⟩ := List.getElem_of_mem hk
  exact h i (by rw [grid_len] at hi; exact hi)
/-- The keys up to a place fit. -/
def fitTo (f : Ky → Int × Int) (m : Nat) : Prop := ∀ i, i < m → ∀ hi : i < 128, (okQ (f (gridK[i]'(by rw [grid_len]; exact hi))).1 && isMoney (f (gridK[i]'(by rw [grid_len]; exact hi))).2) = true
theorem fitTo_succ {f : Ky → Int × Int} {m : Nat} (h : fitTo f m) (k : Ky) (hk : k = (((m / 8 : Nat) : Int) + 1, ((m % 8 : Nat) : Int) + 1)) (h2 : (okQ (f k).1 && isMoney (f k).2) = true) : fitTo f (m + 1) := fun i hi h128 => by
  rcases Nat.lt_or_ge i m with h1 | h1
  · exact h i h1 h128
  · obtain rfl : i = m := by omega
    rw [grid_at i h128, ← hk]; exact h2

theorem okQ_money {q : Int} (h : okQ q = true) : isMoney q = true := (isMoney_iff q).2 (by have := (okQ_iff q).1 h; omega)

def JoinPost (l : List Po) (w : World) (e : Ending) (w' : World) : Prop := ∃ v, e = .returned (.tuple #[v, .int .i64 (joinPE l)]) ∧ OwnE enPo w' w.heap.size 31 v (joinPL l) ∧ Grew w w'
theorem joinP_no {l : List Po} (h : fits (sumK2 l) = false) {w w' : World} (g : Grew w w') : JoinPost l w (.returned (.tuple #[.slice none 0 0, .int .i64 1])) w' := by
  refine ⟨_, by unfold joinPE; rw [h]; rfl, ?_, g⟩
  unfold joinPL; rw [h]; exact OwnE.nil _ _ _ _
theorem joinP_yes {l : List Po} (h : fitTo (sumK2 l) 128) {w w' : World} {v : Value} (ho : OwnE enPo w' w.heap.size 31 v (plF (sumK2 l) 128)) (g : Grew w w') : JoinPost l w (.returned (.tuple #[v, .int .i64 0])) w' := by
  have hf : fits (sumK2 l) = true := fits_grid fun i hi => h i hi hi
  refine ⟨v, by unfold joinPE; rw [hf]; rfl, ?_, g⟩
  unfold joinPL; rw [hf, if_pos rfl, ← pl_all]; exact ho

set_option maxRecDepth 100000 in
set_option maxHeartbeats 8000000 in
theorem join_any (A : Option Addr) (n c : Nat) (l : List Po) (w : World) (h : RowE enPo w A n l) (hk : ∀ x ∈ l, okK (keyP x) = true) (hm : l.all okAm = true) (hn : n ≤ 100000) :
    Calls Tryz.prog 83 #[.slice A n c] w (JoinPost l w) := by
  have HI := Lib.hid h
  have HL := Lib.hid h.len
  have HK : Hid (∀ j, j < n → okK (keyP (l.getD j po0)) = true) := fun j hj => hk _ (getD_mem l po0 j (by rw [h.len]; exact hj))
  have HNO : Hid (fits (sumK2 l) = false → ∀ w', Grew w w' → JoinPost l w (.returned (.tuple #[.slice none 0 0, .int .i64 1])) w') := fun h w' g => joinP_no h g
  have HYES : Hid (fitTo (sumK2 l) 128 → ∀ w' v, OwnE enPo w' w.heap.size 31 v (plF (sumK2 l) 128) → Grew w w' → JoinPost l w (.returned (.tuple #[v, .int .i64 0])) w') := fun h w' v ho g => joinP_yes h ho g
  have HMM : Hid (∀ k, (rowK l k).all okAm = true) := fun k => by
    rw [List.all_eq_true] at hm
    show _ = _
    rw [List.all_eq_true]
    exact fun x hx => hm x (List.mem_filter.1 hx).1
  have hmm := @run_makeMap Tryz.prog
  clear h hk hm
  generalize JoinPost l w = PP at *
  go_enter Tryz.func83, Tryz.ntmps83
  go_wp2
  have HM0 := Lib.hid (MapG.new w)
  have HG0 : Hid (Grew w (w.alloc (.map #[] 0))) := (Below.refl _ _).alloc (Nat.le_refl _) _
  have HZ0 : Hid (w.heap.size + 1 ≤ (w.alloc (.map #[] 0)).heap.size) := by show _ ≤ _; simp
  clear hmm
  obtain ⟨M, hM⟩ : ∃ M, M = w.heap.size := ⟨_, rfl⟩
  have HMW : Hid (w.heap.size = M) := hM.symm
  rw [← hM] at HM0 HZ0 ⊢
  clear hM
  generalize w.alloc (.map #[] 0) = w1 at *
  go_loopw [18] (fun v18 wr => ∃ (j : Nat) (g : Ky → Sv), v18 = .int .i64 j ∧ j ≤ n ∧ Hid (MapG wr M j g) ∧ Hid (Fam enPo wr (M + 1) 31 (fun k => vSv (g k)) (rowK (l.take j))) ∧ Hid (Grew w wr) ∧ Hid (M + 1 ≤ wr.heap.size)) (fun v18 _ => n - (intOf v18).toNat)
  case atStart => exact ⟨0, fun _ => none, rfl, by omega, HM0.out, (Fam.nil enPo w1 (M + 1) 31).congr fun k => rfl, HG0.out, HZ0.out⟩
  case round =>
    clear HM0 HG0 HZ0
    obtain ⟨j, g, rfl, hj, HS, HF, HG, HZ⟩ := hrel
    by_cases hlt : j < n
    · have hjl : j < l.length := by rw [HL.out]; exact hlt
      obtain ⟨b, o, rfl, hb, hc⟩ := (HI.out.keep HG.out).po hlt
      obtain ⟨a0, a1, a2, a3⟩ := hc j hlt
      have hok := HK.out j hlt
      have HRS := Lib.hid (rowK_succ l j hjl)
      have HRL := Lib.hid (rowK_len l j (keyP (l.getD j po0)))
      have i0 : (0 : Int) ≤ (j : Int) := by omega
      have i1 : (j : Int) < (n : Int) := by omega
      clear hc hb HNO HYES HMM
      generalize l.getD j po0 = x at *
      obtain ⟨q1, q2, q3, q4⟩ := x
      dsimp only at a0 a1 a2 a3
      have hkey : keyP (q1, q2, q3, q4) = (q1, q2) := rfl
      rw [hkey] at hok HRS HRL
      have HGA : Hid (Grew wr ((wr.alloc (.cells #[.int .i64 q1, .int .i64 q2, .int .i64 q3, .int .i64 q4] 31)).alloc (.cells #[.int .i64 q1, .int .i64 q2, .int .i64 q3, .int .i64 q4] 31))) := grew_trans (grew_alloc _ _ _) (grew_alloc _ _ _)
      have HRE : Hid (RowE enPo ((wr.alloc (.cells #[.int .i64 q1, .int .i64 q2, .int .i64 q3, .int .i64 q4] 31)).alloc (.cells #[.int .i64 q1, .int .i64 q2, .int .i64 q3, .int .i64 q4] 31)) (some ⟨wr.heap.size + 1, 0, none⟩) 1 [(q1, q2, q3, q4)]) := RowE.one1 enPo _ _ _ _ _ (by simp) rfl
      have HSZ : Hid (wr.heap.size + 2 ≤ ((wr.alloc (.cells #[.int .i64 q1, .int .i64 q2, .int .i64 q3, .int .i64 q4] 31)).alloc (.cells #[.int .i64 q1, .int .i64 q2, .int .i64 q3, .int .i64 q4] 31)).heap.size) := by show _ ≤ _; simp
      obtain ⟨st, w2, hme, hg2, hfd⟩ := (HS.out.keep HGA.out).entry (q1, q2) hok (by unfold maxLen; omega)
      have HFD := Lib.hid hfd
      have HF2 : Hid (Fam enPo w2 (M + 1) 31 (fun k => vSv (g k)) (rowK (l.take j))) := (HF.out.keep HGA.out).kept hg2 fun k e => by have := (HF.out.lt k e).1; omega
      have HR2 : Hid (RowE enPo w2 (some ⟨wr.heap.size + 1, 0, none⟩) 1 [(q1, q2, q3, q4)]) := HRE.out.grown hg2 (by intro e; have := HZ.out; simp at e; omega)
      have HZ2 : Hid (M + 1 ≤ w2.heap.size) := by have := HZ.out; have := HSZ.out; have := hg2.size; show _ ≤ _; omega
      have HG2 : Hid (Grew w w2) := Below.grown (grew_trans HG.out HGA.out) hg2 (Nat.le_trans HG.out.size HGA.out.size) fun k hk => by cases hk; exact Nat.le_of_eq HMW.out
      have HM2 := Lib.hid (hg2.size)
      dsimp only [vKy] at hme
      clear hg2 hfd HF HRE HS
      go_wp2_with (at_builtin; refine (wpList_fam (E := enPo) (base := M + 1) (q1, q2) rfl _ _ 26 (vPo po0) 32 rfl Tryz.underlying26 info_po rfl HF2.out rfl _ (q1, q2, q3, q4) rfl HR2.out (by have := HRL.out; unfold maxLen; omega) (by have := HRL.out; omega) HZ2.out ?_); intro v3 w3 hf3 hb3 hg3; obtain ⟨s, rfl⟩ : ∃ s, v3 = vSv s := (by have h9 := hf3.own (q1, q2); rw [upd_at, upd_at] at h9; exact h9.sv); obtain ⟨w4, hes, hm4, hg4⟩ := HFD.out.store w3 s (hg3.block M (by have := HZ2.out; omega) (by intro e; have := (HF2.out.lt (q1, q2) e.symm).1; omega)); have HS4 := Lib.hid hm4; have HF4 : Hid (Fam enPo w4 (M + 1) 31 (fun k => vSv (upd g (q1, q2) s k)) (rowK (l.take (j + 1)))) := (hf3.kept hg4 fun k e => (by have := (hf3.lt k e).1; omega)).cong2 (upd_vSv g (q1, q2) s) HRS.out; have HG4 : Hid (Grew w w4) := Below.grown (Below.trans HG2.out (Below.mono hb3 (by rw [HMW.out]; exact Nat.le_succ _))) hg4 (Nat.le_trans HG2.out.size hb3.size) (fun k hk => by cases hk; exact Nat.le_of_eq HMW.out); have HZ4 : Hid (M + 1 ≤ w4.heap.size) := Nat.le_trans HZ2.out (Nat.le_trans hb3.size hg4.size); clear hf3 hb3 hg3 hm4 hg4)
      clear hme hes HF2 HR2 HG2 HM2 HZ2 HFD a0 a1 a2 a3
      go_roundw
      case rel => exact ⟨j + 1, _, by go_num, by omega, HS4.out, HF4.out, HG4.out, HZ4.out⟩
      case measure => simp only [intOf]; omega
    · obtain rfl : j = n := by omega
      have ht : l.take j = l := List.take_of_length_le (by rw [HL.out]; exact Nat.le_refl _)
      rw [ht] at HF
      clear ht HK hlt hj
      generalize wr = wB at *
      go_wp2
      go_loopw [7, 8] (fun v7 v8 wr => ∃ a : Nat, v8 = .int .i64 ((a : Int) + 1) ∧ a ≤ 16 ∧ Hid (OwnE enPo wr wB.heap.size 31 v7 (plF (sumK2 l) (a * 8))) ∧ Hid (fitTo (sumK2 l) (a * 8)) ∧ Hid (Grew wB wr)) (fun _ v8 _ => 17 - (intOf v8).toNat)
      case atStart => exact ⟨0, by go_num, by omega, OwnE.nil _ _ _ _, fun i hi => by omega, grew_refl _⟩
      case round =>
        obtain ⟨a, rfl, ha, HO, HT, HGB⟩ := hrel
        by_cases ha16 : a < 16
        · have i1 : (a : Int) + 1 ≤ 16 := by omega
          go_wp2
          generalize wr = wC at *
          go_loopw [7, 9] (fun v7 v9 wr => ∃ c : Nat, v9 = .int .i64 ((c : Int) + 1) ∧ c ≤ 8 ∧ Hid (OwnE enPo wr wB.heap.size 31 v7 (plF (sumK2 l) (a * 8 + c))) ∧ Hid (fitTo (sumK2 l) (a * 8 + c)) ∧ Hid (Grew wB wr)) (fun _ v9 _ => 9 - (intOf v9).toNat)
          case atStart => exact ⟨0, by go_num, by omega, HO.out, HT.out, HGB.out⟩
          case round =>
            clear HO HT HGB
            obtain ⟨c, rfl, hc, HO, HT, HGB⟩ := hrel
            by_cases hc8 : c < 8
            · have i2 : (c : Int) + 1 ≤ 8 := by omega
              have hkk : okK ((a : Int) + 1, (c : Int) + 1) = true := (okK_iff _).2 ⟨⟨by show (1 : Int) ≤ (a : Int) + 1; omega, by show (a : Int) + 1 ≤ 16; omega⟩, by show (1 : Int) ≤ (c : Int) + 1; omega, by show (c : Int) + 1 ≤ 8; omega⟩
              have hkm : (((a : Int) + 1, (c : Int) + 1) : Ky) = ((((a * 8 + c) / 8 : Nat) : Int) + 1, (((a * 8 + c) % 8 : Nat) : Int) + 1) := by
                rw [show (a * 8 + c) / 8 = a by omega, show (a * 8 + c) % 8 = c by omega]
              have hlk := ((HS.out.keep HGB.out).keep (grew_alloc wr #[.int .i64 ((a : Int) + 1), .int .i64 ((c : Int) + 1)] 24)).look _ hkk
              obtain ⟨A3, c3, hv3, hr3, -, -, -⟩ := ((HF.out.own ((a : Int) + 1, (c : Int) + 1)).keep HGB.out).form
              rw [hv3] at hlk
              dsimp only [vKy] at hlk
              have hlen : (rowK l ((a : Int) + 1, (c : Int) + 1)).length ≤ 100000 := Nat.le_trans (List.length_filter_le _ _) (by rw [HL.out]; exact hn)
              have CS := fun w' (g : Grew wr w') => psumP_any A3 _ c3 (rowK l ((a : Int) + 1, (c : Int) + 1)) w' (hr3.keep g) hlen
              unfold SumPost at CS
              have HPS := Lib.hid (pl_succ (sumK2 l) (a * 8 + c) (by omega) _ hkm)
              have HFS := Lib.hid (fitTo_succ HT.out _ hkm)
              have HFN := Lib.hid (fits_no (f := sumK2 l) hkk)
              have HBG := Lib.hid (@sumP_big (rowK l ((a : Int) + 1, (c : Int) + 1)) (HMM.out _))
              have HOKS := Lib.hid (@sumP_ok (rowK l ((a : Int) + 1, (c : Int) + 1)) (HMM.out _))
              have HQ : Hid ((sumK2 l ((a : Int) + 1, (c : Int) + 1)).1 = (qtys (rowK l ((a : Int) + 1, (c : Int) + 1))).sum ∧ (sumK2 l ((a : Int) + 1, (c : Int) + 1)).2 = (csts (rowK l ((a : Int) + 1, (c : Int) + 1))).sum) := ⟨rfl, rfl⟩
              have HPL := Lib.hid (plF_len (sumK2 l) (a * 8 + c))
              have HWB : Hid (wB.heap.size ≤ wr.heap.size) := HGB.out.size
              dsimp only at HPS
              rw [HQ.out.1, HQ.out.2] at HPS HFS HFN
              clear hv3 hr3 HQ hlen hkk hkm HT HMM
              generalize (rowK l ((a : Int) + 1, (c : Int) + 1)).length = n3 at *
              generalize (qtys (rowK l ((a : Int) + 1, (c : Int) + 1))).sum = q at *
              generalize (csts (rowK l ((a : Int) + 1, (c : Int) + 1))).sum = cc at *
              generalize sumPQ (rowK l ((a : Int) + 1, (c : Int) + 1)) = SQ at *
              generalize sumPC (rowK l ((a : Int) + 1, (c : Int) + 1)) = SC at *
              generalize sumPE (rowK l ((a : Int) + 1, (c : Int) + 1)) = SE at *
              have CW := fun w => bwithin_any q (-1099511627776) 1099511627776 w
              have CE := fun w => empty_any ((a : Int) + 1, (c : Int) + 1, q, cc) w
              dsimp only [vPo] at CE
              have HOQ : Hid (okQ q = wi q (-1099511627776) 1099511627776) := rfl
              have HGA : Hid (Grew wr (wr.alloc (.cells #[.int .i64 ((a : Int) + 1), .int .i64 ((c : Int) + 1)] 24))) := grew_alloc _ _ _
              have HKX : Hid (OwnC (wr.alloc (.cells #[.int .i64 ((a : Int) + 1), .int .i64 ((c : Int) + 1)] 24)) wr.heap.size [.int .i64 ((a : Int) + 1), .int .i64 ((c : Int) + 1)]) := OwnC.new wr [.int .i64 ((a : Int) + 1), .int .i64 ((c : Int) + 1)] _ _ rfl
              have HGX := Lib.hid (grew_trans (grew_trans HG.out HGB.out) HGA.out)
              by_cases hmm : (isMoney q && isMoney cc) = true
              · obtain ⟨m1, m2⟩ := (Bool.and_eq_true _ _).mp hmm
                obtain ⟨e1, e2, e3⟩ := HOKS.out m1 m2
                rw [e1, e2, e3] at CS
                clear e1 e2 e3
                by_cases hq : okQ q = true
                · have hq2 := hq
                  rw [HOQ.out] at hq2
                  rw [hq2] at CW
                  have HFS2 := Lib.hid (HFS.out (by rw [hq, m2]; rfl))
                  have HNP : Hid (noneP q cc = (decide (q = 0) && decide (cc = 0))) := rfl
                  clear HBG HOKS HFS HFN HOQ m1 m2 hmm hq hq2 HNO HYES
                  by_cases h0 : q = 0 ∧ cc = 0
                  · have HP2 : Hid (plF (sumK2 l) (a * 8 + c + 1) = plF (sumK2 l) (a * 8 + c)) := by show _ = _; rw [HPS.out, if_pos h0, List.append_nil]
                    have hnp : noneP q cc = true := by rw [HNP.out, decide_eq_true h0.1, decide_eq_true h0.2]; rfl
                    rw [hnp] at CE
                    clear HPS HNP hnp h0
                    go_wp2_with (first
                      | (go_at_call 97; ((with_reducible refine (CS _ HGA.out).mono ?_); rintro e w5 ⟨rfl, hg⟩; have HG5 := Lib.hid hg; have HKY := Lib.hid (HKX.out.keep hg); have k0 : w5.cell? ⟨wr.heap.size, 0, none⟩ = some (.int .i64 ((a : Int) + 1)) := HKY.out.at 0 _ rfl; have k1 : w5.cell? ⟨wr.heap.size, 1, none⟩ = some (.int .i64 ((c : Int) + 1)) := HKY.out.at 1 _ rfl; clear hg))
                      | (go_at_call 31; ((with_reducible refine (CW _).mono ?_); rintro e w6 ⟨rfl, rfl⟩))
                      | (go_at_call 58; ((with_reducible refine (CE _).mono ?_); rintro e w7 ⟨rfl, hg⟩; have HG7b := Lib.hid (own_back hg); have HG7 := Lib.hid (grew_trans HGB.out (grew_trans HGA.out (grew_trans HG5.out (own_back hg)))); clear hg)))
                    go_roundw
                    case rel => exact ⟨c + 1, by go_num, by omega, by rw [show a * 8 + (c + 1) = a * 8 + c + 1 by omega, HP2.out]; exact HO.out.keep (grew_trans HGA.out (grew_trans HG5.out HG7b.out)), by rw [show a * 8 + (c + 1) = a * 8 + c + 1 by omega]; exact HFS2.out, HG7.out⟩
                    case measure => simp only [intOf]; omega
                  · have HP2 : Hid (plF (sumK2 l) (a * 8 + c + 1) = plF (sumK2 l) (a * 8 + c) ++ [((a : Int) + 1, (c : Int) + 1, q, cc)]) := by show _ = _; rw [HPS.out, if_neg h0]
                    have hnp : noneP q cc = false := by
                      rw [HNP.out, ← Bool.not_eq_true, Bool.and_eq_true, decide_eq_true_eq, decide_eq_true_eq]; exact h0
                    rw [hnp] at CE
                    clear HPS HNP hnp h0
                    go_wp2_with (first
                      | (go_at_call 97; ((with_reducible refine (CS _ HGA.out).mono ?_); rintro e w5 ⟨rfl, hg⟩; have HG5 := Lib.hid hg; have HKY := Lib.hid (HKX.out.keep hg); have k0 : w5.cell? ⟨wr.heap.size, 0, none⟩ = some (.int .i64 ((a : Int) + 1)) := HKY.out.at 0 _ rfl; have k1 : w5.cell? ⟨wr.heap.size, 1, none⟩ = some (.int .i64 ((c : Int) + 1)) := HKY.out.at 1 _ rfl; clear hg))
                      | (go_at_call 31; ((with_reducible refine (CW _).mono ?_); rintro e w6 ⟨rfl, rfl⟩))
                      | (go_at_call 58; ((with_reducible refine (CE _).mono ?_); rintro e w7 ⟨rfl, hg⟩; have HG7 := Lib.hid (grew_trans HGA.out (grew_trans HG5.out (own_back hg))); have HPX := Lib.hid ((OwnC.new w5 [.int .i64 ((a : Int) + 1), .int .i64 ((c : Int) + 1), .int .i64 q, .int .i64 cc] 31 _ rfl).keep hg); have p0 : w7.cell? ⟨w5.heap.size, 0, none⟩ = some (.int .i64 ((a : Int) + 1)) := HPX.out.at 0 _ rfl; have p1 : w7.cell? ⟨w5.heap.size, 1, none⟩ = some (.int .i64 ((c : Int) + 1)) := HPX.out.at 1 _ rfl; have p2 : w7.cell? ⟨w5.heap.size, 2, none⟩ = some (.int .i64 q) := HPX.out.at 2 _ rfl; have p3 : w7.cell? ⟨w5.heap.size, 3, none⟩ = some (.int .i64 cc) := HPX.out.at 3 _ rfl; clear hg))
                      | (at_builtin; refine (wpList_append_E rfl _ _ 26 31 (vPo po0) 32 rfl Tryz.underlying26 info_po rfl wB.heap.size _ (plF (sumK2 l) (a * 8 + c)) rfl ((HO.out.keep HG7.out).keep (grew_alloc _ _ _)) _ 1 1 [((a : Int) + 1, (c : Int) + 1, q, cc)] rfl (by intro h; cases h) (RowE.one1 enPo _ _ _ _ _ rfl rfl) (by have := HPL.out; simp; unfold maxLen; omega) (by have := HPL.out; simp; omega) (Nat.le_trans HWB.out (Nat.le_trans HG7.out.size (by simp))) ?_); intro v' w' ho hb; have HP := Lib.hid ho; have HB : Hid (Grew wB w') := Below.trans (grew_trans HGB.out (grew_trans HG7.out (grew_alloc _ _ _))) hb; clear ho hb))
                    go_roundw
                    case rel => exact ⟨c + 1, by go_num, by omega, by rw [show a * 8 + (c + 1) = a * 8 + c + 1 by omega, HP2.out]; exact HP.out, by rw [show a * 8 + (c + 1) = a * 8 + c + 1 by omega]; exact HFS2.out, HB.out⟩
                    case measure => simp only [intOf]; omega
                · rw [Bool.not_eq_true] at hq
                  have HF2 := Lib.hid (HNO.out (HFN.out (by rw [hq]; rfl)))
                  rw [HOQ.out] at hq
                  rw [hq] at CW
                  clear HBG HOKS HFS HFN HOQ m1 m2 hmm hq HNO HYES CE HPS
                  go_wp2_with (first
                    | (go_at_call 97; ((with_reducible refine (CS _ HGA.out).mono ?_); rintro e w5 ⟨rfl, hg⟩; have HG5 := Lib.hid hg; clear hg))
                    | (go_at_call 31; ((with_reducible refine (CW _).mono ?_); rintro e w6 ⟨rfl, rfl⟩)))
                  exact HF2.out _ (grew_trans HGX.out HG5.out)
              · rw [Bool.not_eq_true] at hmm
                obtain ⟨e1, e2, e3⟩ := HBG.out hmm
                rw [e1, e2, e3] at CS
                clear e1 e2 e3
                have HF2 := Lib.hid (HNO.out (HFN.out (by
                  rcases Bool.and_eq_false_iff.1 hmm with h | h
                  · rw [show okQ q = false by rw [← Bool.not_eq_true]; intro h2; rw [okQ_money h2] at h; cases h]; rfl
                  · rw [h, Bool.and_false])))
                clear HBG HOKS HFS HFN HOQ hmm HNO HYES CE HPS CW
                go_wp2_with (go_at_call 97; ((with_reducible refine (CS _ HGA.out).mono ?_); rintro e w5 ⟨rfl, hg⟩; have HG5 := Lib.hid hg; clear hg))
                exact HF2.out _ (grew_trans HGX.out HG5.out)
            · obtain rfl : c = 8 := by omega
              clear HS HF HNO HYES
              go_wp2
              go_roundw
              case rel => exact ⟨a + 1, by go_num, by omega, by rw [show (a + 1) * 8 = a * 8 + 8 by omega]; exact HO.out, by rw [show (a + 1) * 8 = a * 8 + 8 by omega]; exact HT.out, HGB.out⟩
              case measure => simp only [intOf]; omega
        · obtain rfl : a = 16 := by omega
          have HF2 := Lib.hid (HYES.out HT.out)
          clear HS HF HNO HYES
          go_wp2
          exact HF2.out _ _ (HO.out.mono HG.out.size) (grew_trans HG.out HGB.out)
end Go.Proofs.YtahioajpmlochaaGreat.NumK
namespace Go.Proofs.YtahioajpmlochaaGreat.NumK
open Go.RowKit
set_option linter.unusedVariables false

theorem growPo0_any (w : World) : Calls Tryz.prog 98 #[.slice none 0 0, .int .i64 ((0 : Nat) : Int)] w fun e w' => ∃ v, e = .returned v ∧ OwnE enPo w' w.heap.size 31 v [] ∧ Grew w w' := by
  go_enter Tryz.func98, Tryz.ntmps98
  go_wp2
  go_ret
  exact ⟨_, rfl, OwnE.nil _ _ _ _, grew_refl _⟩
theorem growPo1_any (n : Nat) (w : World) (h0 : 0 < n) (hn : n ≤ 1000000) :
    Calls Tryz.prog 98 #[.slice none 0 0, .int .i64 n] w fun e w' => ∃ v, e = .returned v ∧ OwnE enPo w' w.heap.size 31 v [] ∧ Grew w w' := by
  obtain ⟨i0, hi0, hz0, hs0, hb0⟩ := info_parts info_po
  have h2 : wrap64 ((0 : Int) - (0 : Int)) = 0 := by unfold wrap64; omega
  have h3 : wrap64 ((n : Int) - 0) = (n : Int) := by unfold wrap64; omega
  have h4 : (n : Int) > 0 := by omega
  have h1 : ¬ ((n : Int) < 0) := by omega
  have hrz : ∀ ty, (Builtin.append_ #[26, 3] ty #[.slice none 0 0, .int .i64 (n : Int)]).run Tryz.prog w =
      .ok (.slice (some ⟨w.heap.size, 0, none⟩) (0 + n) (grownCap w (0 + n) 0 31)) (w.drew.alloc (.cells (([] : List Value).toArray ++ Builtin.zeroCells (vPo po0).cells n ++ Builtin.zeroCells (vPo po0).cells (grownCap w (0 + n) 0 31 - (0 + n))) 31)) := fun ty =>
    Lib.run_append_grow_zeros w 26 3 ty 31 i0 (vPo po0) .i64 .i64 Tryz.underlying26 Tryz.underlying3 hi0 hz0 none 0 0 [] (run_firstCells_none w.drew i0.size 0 0 0) n h0 (by rw [hs0]; decide) (by omega) (by omega) (by rw [hb0]; omega)
      (growslice_fits (by omega) (by rw [hb0]; omega))
  have hGn : n ≤ grownCap w (0 + n) 0 31 := by have := grownCap_ge w (0 + n) 0 31; omega
  have hGm : grownCap w (0 + n) 0 31 ≤ maxLen := grownCap_le_maxLen w (0 + n) 0 31 (by unfold maxLen; omega)
  have hzl : (Builtin.zeroCells (vPo po0).cells n).size = n * 4 := by simp [Builtin.zeroCells, Value.cells]
  rw [Nat.zero_add] at *
  generalize hG : grownCap w n 0 31 = G at *
  clear hG
  have hzm : (Builtin.zeroCells (vPo po0).cells (G - n)).size = (G - n) * 4 := by simp [Builtin.zeroCells, Value.cells]
  have HP : Hid (OwnE enPo (w.drew.alloc (.cells (([] : List Value).toArray ++ Builtin.zeroCells (vPo po0).cells n ++ Builtin.zeroCells (vPo po0).cells (G - n)) 31)) w.heap.size 31 (.slice (some ⟨w.heap.size, 0, none⟩) 0 G) []) :=
    ⟨by simp, .inr ⟨w.heap.size, G, _, rfl, Nat.le_refl _, heap_alloc_new w.drew _, by simp, hGm, by simp only [List.size_toArray, Array.size_append, List.length_nil, hzl, hzm]; show _ = G * 4; omega, by simp⟩⟩
  have HB : Hid (Grew w (w.drew.alloc (.cells (([] : List Value).toArray ++ Builtin.zeroCells (vPo po0).cells n ++ Builtin.zeroCells (vPo po0).cells (G - n)) 31))) := grew_trans (grew_drew (grew_refl w)) (grew_alloc _ _ _)
  clear hzl hzm hi0 hz0 hs0 hb0
  generalize w.drew.alloc (.cells (([] : List Value).toArray ++ Builtin.zeroCells (vPo po0).cells n ++ Builtin.zeroCells (vPo po0).cells (G - n)) 31) = w9 at *
  unfold maxLen at hGm
  go_enter Tryz.func98, Tryz.ntmps98
  go_wp2_with (at_builtin; refine Lib.wpList_append_run _ rfl _ _ _ _ rfl _ _ rfl rfl _ _ (hrz _) ?_)
  go_ret
  exact ⟨_, rfl, HP.out, HB.out⟩
theorem growPo_any (n : Nat) (w : World) (hn : n ≤ 1000000) :
    Calls Tryz.prog 98 #[.slice none 0 0, .int .i64 n] w fun e w' => ∃ v, e = .returned v ∧ OwnE enPo w' w.heap.size 31 v [] ∧ Grew w w' := by
  rcases Nat.eq_zero_or_pos n with h | h
  · subst h; exact growPo0_any w
  · exact growPo1_any n w h hn

set_option maxRecDepth 100000 in
set_option maxHeartbeats 2000000 in
theorem concatPo_any (B : Nat) (A1 A2 : Option Addr) (n1 n2 c1 c2 : Nat) (l1 l2 : List Po) (w : World) (hB : OwnC w B [.slice A1 n1 c1, .slice A2 n2 c2])
    (h1 : RowE enPo w A1 n1 l1) (h2 : RowE enPo w A2 n2 l2) (k1 : A1 = none → c1 = 0) (k2 : A2 = none → c2 = 0) (hn : n1 ≤ 100000 ∧ n2 ≤ 100000) :
    Calls Tryz.prog 84 #[.slice (some ⟨B, 0, none⟩) 2 2] w fun e w' => ∃ v, e = .returned v ∧ OwnE enPo w' w.heap.size 31 v (l1 ++ l2) ∧ Grew w w' := by
  have HB := Lib.hid hB
  have H1 := Lib.hid h1
  have H2 := Lib.hid h2
  have K1 := Lib.hid k1
  have K2 := Lib.hid k2
  have L1 := Lib.hid h1.len
  have L2 := Lib.hid h2.len
  clear hB h1 h2 k1 k2
  go_enter Tryz.func84, Tryz.ntmps84
  go_wp2
  go_loop [3, 5, 11] (fun v3 v5 v11 => ∃ j s : Nat, v11 = .int .i64 j ∧ v3 = .int .i64 s ∧ j ≤ 2 ∧ Hid ((j = 0 ∧ s = 0) ∨ (j = 1 ∧ s = n1) ∨ (j = 2 ∧ s = n1 + n2))) (fun _ _ v11 => 2 - (intOf v11).toNat)
  case atStart => exact ⟨0, 0, rfl, rfl, by omega, Or.inl ⟨rfl, rfl⟩⟩
  case round =>
    obtain ⟨j, s, rfl, rfl, hj, HS⟩ := hrel
    rcases HS.out with ⟨rfl, rfl⟩ | ⟨rfl, rfl⟩ | ⟨rfl, rfl⟩
    · have b0 : w.cell? ⟨B, 0, none⟩ = some (.slice A1 n1 c1) := HB.out.at 0 _ rfl
      have e1 : IntKind.i64.wrap (n1 : Int) = n1 := by rw [IntKind.wrap_i64]; omega
      have e2 : ¬ ((n1 : Int) < 0) := by omega
      clear HS hj
      go_wp2
      go_round
      case rel => exact ⟨1, n1, by go_num, by go_num, by omega, Or.inr (Or.inl ⟨rfl, rfl⟩)⟩
      case measure => simp only [intOf]; omega
    · have b0 : w.cell? ⟨B, 1, none⟩ = some (.slice A2 n2 c2) := HB.out.at 1 _ rfl
      have e1 : IntKind.i64.wrap ((s : Int) + (n2 : Int)) = ((s + n2 : Nat) : Int) := by rw [IntKind.wrap_i64]; omega
      have e2 : ¬ (((s + n2 : Nat) : Int) < 0) := by omega
      clear HS hj
      go_wp2
      go_round
      case rel => exact ⟨2, s + n2, by go_num, by go_num, by omega, Or.inr (Or.inr ⟨rfl, rfl⟩)⟩
      case measure => simp only [intOf]; omega
    · have CG := fun w => growPo_any (n1 + n2) w (by omega)
      have e3 : ((n1 + n2 : Nat) : Int) = ((n1 + n2 : Nat) : Int) := rfl
      clear HS hj
      generalize n1 + n2 = N at *
      go_wp2_with (go_at_call 98; ((with_reducible refine (CG _).mono ?_); rintro e w5 ⟨v, rfl, ho, hg⟩; have HO := Lib.hid ho; have HG5 := Lib.hid hg; clear ho hg CG))
      go_loopw [6, 8, 27] (fun v6 v8 v27 wr => ∃ j : Nat, v27 = .int .i64 j ∧ j ≤ 2 ∧ Hid ((j = 0 ∧ OwnE enPo wr w.heap.size 31 v6 []) ∨ (j = 1 ∧ OwnE enPo wr w.heap.size 31 v6 l1) ∨ (j = 2 ∧ OwnE enPo wr w.heap.size 31 v6 (l1 ++ l2))) ∧ Hid (Grew w wr)) (fun _ _ v27 _ => 2 - (intOf v27).toNat)
      case atStart => exact ⟨0, rfl, by omega, Or.inl ⟨rfl, HO.out⟩, HG5.out⟩
      case round =>
        obtain ⟨j, rfl, hj, HS, HG⟩ := hrel
        rcases HS.out with ⟨rfl, ho⟩ | ⟨rfl, ho⟩ | ⟨rfl, ho⟩
        · have b0 : wr.cell? ⟨B, 0, none⟩ = some (.slice A1 n1 c1) := (HB.out.keep HG.out).at 0 _ rfl
          have HV := Lib.hid ho
          have HZ : Hid (w.heap.size ≤ wr.heap.size) := HG.out.size
          clear HS hj HO ho
          go_wp2_with (at_builtin; refine (wpList_append_E rfl _ _ 26 31 (vPo po0) 32 rfl Tryz.underlying26 info_po rfl w.heap.size _ [] rfl HV.out A1 n1 c1 l1 rfl K1.out (H1.out.keep HG.out) (by simp; unfold maxLen; omega) (by simp; omega) HZ.out ?_); intro v' w' ho hb; rw [List.nil_append] at ho; have HP := Lib.hid ho; have HB2 : Hid (Grew w w') := Below.trans HG.out hb; clear ho hb)
          go_roundw
          case rel => exact ⟨1, by go_num, by omega, Or.inr (Or.inl ⟨rfl, HP.out⟩), HB2.out⟩
          case measure => simp only [intOf]; omega
        · have b0 : wr.cell? ⟨B, 1, none⟩ = some (.slice A2 n2 c2) := (HB.out.keep HG.out).at 1 _ rfl
          have HV := Lib.hid ho
          have HZ : Hid (w.heap.size ≤ wr.heap.size) := HG.out.size
          clear HS hj HO ho
          go_wp2_with (at_builtin; refine (wpList_append_E rfl _ _ 26 31 (vPo po0) 32 rfl Tryz.underlying26 info_po rfl w.heap.size _ l1 rfl HV.out A2 n2 c2 l2 rfl K2.out (H2.out.keep HG.out) (by rw [L1.out]; unfold maxLen; omega) (by rw [L1.out]; omega) HZ.out ?_); intro v' w' ho hb; have HP := Lib.hid ho; have HB2 : Hid (Grew w w') := Below.trans HG.out hb; clear ho hb)
          go_roundw
          case rel => exact ⟨2, by go_num, by omega, Or.inr (Or.inr ⟨rfl, HP.out⟩), HB2.out⟩
          case measure => simp only [intOf]; omega
        · have HP : Hid (OwnE enPo wr w.heap.size 31 u6 (l1 ++ l2)) := ho
          clear HS hj HO ho
          go_wp2
          go_ret
          exact ⟨_, rfl, HP.out, HG.out⟩
end Go.Proofs.YtahioajpmlochaaGreat.NumK
namespace Go.Proofs.YtahioajpmlochaaGreat.NumK
open Go.RowKit
set_option linter.unusedVariables false

theorem all_app {α : Type} {p : α → Bool} {l m : List α} (h : l.all p = true) (h2 : m.all p = true) : (l ++ m).all p = true := by rw [List.all_append, h, h2]; rfl
theorem leg_ok {x : Po} (h : okLeg x = true) : okAm x = true := by unfold okLeg at h; rw [Bool.and_eq_true] at h; exact h.2
theorem legs_am {l : List Po} (h : l.all okLeg = true) : l.all okAm = true := List.all_eq_true.2 fun x hx => leg_ok (List.all_eq_true.1 h x hx)
theorem parts_keys {l m : List Po} (h : rightPs l = true) (h2 : m.all okLeg = true) : ∀ x ∈ l ++ m, okK (keyP x) = true := fun x hx => by
  rcases List.mem_append.1 hx with h3 | h3
  · exact right_keys h x h3
  · exact leg_keys h2 x h3
theorem parts_am {l m : List Po} (h : rightPs l = true) (h2 : m.all okLeg = true) : (l ++ m).all okAm = true := all_app (legs_am (right_legs h)) (legs_am h2)
theorem parts_sum (l m : List Po) : sumK2 (l ++ m) = addF l m := by
  funext k
  unfold sumK2 addF
  rw [qK_app, cK_app]
theorem bookE_no {b : Bk} {n : Int} (hb : b = bk0) {w w' : World} (g : Grew w w') : BookE b n w (.returned (.tuple #[.agg #[.int .i64 0, .slice none 0 0, .slice none 0 0], .int .i64 n])) w' := by
  subst hb
  exact ⟨none, none, 0, 0, rfl, OwnB.nil _ _, g⟩
theorem addE_1 {b : Bk} {m : List Po} (h : rightB b = false) : addE b m = 14 ∧ addB b m = bk0 := by
  have : addE b m = 14 := by unfold addE; rw [h]; rfl
  refine ⟨this, ?_⟩
  unfold addB; rw [this]; rfl
theorem addE_2 {b : Bk} {m : List Po} (h : rightB b = true) (h2 : m.all okLeg = false) : addE b m = 3 ∧ addB b m = bk0 := by
  have : addE b m = 3 := by unfold addE; rw [if_pos h, h2]; rfl
  refine ⟨this, ?_⟩
  unfold addB; rw [this]; rfl
theorem addE_3 {b : Bk} {m : List Po} (h : rightB b = true) (h2 : m.all okLeg = true) (h3 : flatI m = false) : addE b m = 12 ∧ addB b m = bk0 := by
  have : addE b m = 12 := by unfold addE; rw [if_pos h, if_pos h2, h3]; rfl
  refine ⟨this, ?_⟩
  unfold addB; rw [this]; rfl
theorem addE_4 {b : Bk} {m : List Po} (h : rightB b = true) (h2 : m.all okLeg = true) (h3 : flatI m = true) (h4 : fits (addF b.2.2 m) = false) : addE b m = 1 ∧ addB b m = bk0 := by
  have : addE b m = 1 := by unfold addE; rw [if_pos h, if_pos h2, if_pos h3, h4]; rfl
  refine ⟨this, ?_⟩
  unfold addB; rw [this]; rfl
theorem addE_5 {b : Bk} {m : List Po} (h : rightB b = true) (h2 : m.all okLeg = true) (h3 : flatI m = true) (h4 : fits (addF b.2.2 m) = true) : addE b m = 0 ∧ addB b m = (b.1, b.2.1, plA (addF b.2.2 m)) := by
  have : addE b m = 0 := addE_ok.2 ⟨h, h2, h3, h4⟩
  exact ⟨this, addB_ok this⟩

set_option maxRecDepth 100000 in
set_option maxHeartbeats 8000000 in
theorem badd_any (b : Bk) (A1 A2 A3 : Option Addr) (n1 n2 n3 c1 c2 c3 : Nat) (m : List Po) (w : World) (h : InB w b A1 A2 n1 n2 c1 c2) (h3 : RowE enPo w A3 n3 m) (k3 : A3 = none → c3 = 0) (hn : n1 ≤ 10000 ∧ n2 ≤ 10000 ∧ n3 ≤ 10000) :
    Calls Tryz.prog 52 #[vBk b.1 A1 A2 n1 n2 c1 c2, .slice A3 n3 c3] w (BookE (addB b m) (addE b m) w) := by
  have CC := fun w' (g : Grew w w') => bcheck_any b A1 A2 n1 n2 c1 c2 w' (h.keep g) ⟨by omega, by omega⟩
  have CL := fun w' (g : Grew w w') => rightLegs_any A3 n3 c3 m w' (h3.keep g) (by omega)
  have HX0 : Hid (OwnC ((w.alloc (.cells #[.int .i64 b.1, .slice A1 n1 c1, .slice A2 n2 c2] 28)).alloc (.cells #[.int .i64 0, .slice none 0 0, .slice none 0 0] 28)) w.heap.size [.int .i64 b.1, .slice A1 n1 c1, .slice A2 n2 c2]) := (OwnC.new w [.int .i64 b.1, .slice A1 n1 c1, .slice A2 n2 c2] _ _ rfl).keep (grew_alloc _ _ _)
  have HY0 : Hid (OwnC ((w.alloc (.cells #[.int .i64 b.1, .slice A1 n1 c1, .slice A2 n2 c2] 28)).alloc (.cells #[.int .i64 0, .slice none 0 0, .slice none 0 0] 28)) (w.heap.size + 1) [.int .i64 0, .slice none 0 0, .slice none 0 0]) := OwnC.new _ [.int .i64 0, .slice none 0 0, .slice none 0 0] _ _ (by simp)
  have HG0 : Hid (Grew w ((w.alloc (.cells #[.int .i64 b.1, .slice A1 n1 c1, .slice A2 n2 c2] 28)).alloc (.cells #[.int .i64 0, .slice none 0 0, .slice none 0 0] 28))) := grew_trans (grew_alloc _ _ _) (grew_alloc _ _ _)
  by_cases hr : rightB b = true
  · rw [chkB_yes hr] at CC
    have hps := ((rightB_iff b).1 hr).2.2
    by_cases hl : m.all okLeg = true
    · rw [hl] at CL
      have CV := fun w' (g : Grew w w') => beven_any A3 n3 c3 m w' (h3.keep g) (leg_keys hl) (fun x hx => by have := leg_ok (List.all_eq_true.1 hl x hx); unfold okAm at this; rw [Bool.and_eq_true] at this; exact this.1) (by omega)
      have CO := fun w' (g : Grew w w') => concatPo_any w'.heap.size A2 A3 n2 n3 c2 c3 b.2.2 m (w'.alloc (.cells #[.slice A2 n2 c2, .slice A3 n3 c3] 26)) (OwnC.new w' [.slice A2 n2 c2, .slice A3 n3 c3] _ _ rfl) ((h.p.keep g).keep (grew_alloc _ _ _)) ((h3.keep g).keep (grew_alloc _ _ _)) h.k2 k3 ⟨by omega, by omega⟩
      have CJ := fun (A : Option Addr) (c : Nat) (w' : World) (hr : RowE enPo w' A (b.2.2 ++ m).length (b.2.2 ++ m)) => join_any A _ c (b.2.2 ++ m) w' hr (parts_keys hps hl) (parts_am hps hl) (by rw [List.length_append, h.p.len, h3.len]; omega)
      unfold JoinPost joinPE joinPL at CJ
      rw [parts_sum] at CJ
      simp only [List.length_append] at CJ
      by_cases hf : flatI m = true
      · rw [hf] at CV
        by_cases hx : fits (addF b.2.2 m) = true
        · obtain ⟨e1, e2⟩ := addE_5 hr hl hf hx
          rw [hx] at CJ
          simp only [if_true] at CJ
          rw [e1, e2]
          have CT := fun w' (g : Grew w w') => cloneTr_any A1 n1 c1 b.2.1 w' (h.t.keep g) h.k1 (by omega)
          have HF : Hid (∀ w' A' c' A'' c'', OwnB w' w.heap.size (b.1, b.2.1, plA (addF b.2.2 m)) A' A'' c' c'' → Grew w w' → BookE (b.1, b.2.1, plA (addF b.2.2 m)) 0 w (.returned (.tuple #[.agg #[.int .i64 b.1, .slice A' n1 c', .slice A'' (plA (addF b.2.2 m)).length c''], .int .i64 0])) w') := fun w' A' c' A'' c'' ho g => ⟨A', A'', c', c'', by rw [← h.t.len], ho, g⟩
          have HLT := Lib.hid h.t.len
          clear h h3 k3 e1 e2 hr hl hf hx hps
          generalize BookE (b.1, b.2.1, plA (addF b.2.2 m)) 0 w = PP at *
          generalize b.1 = nx at *
          generalize b.2.1 = lt at *
          generalize plA (addF b.2.2 m) = pl at *
          dsimp only [vBk]
          go_enter Tryz.func52, Tryz.ntmps52
          go_upto_region 1 with fail
          generalize (w.alloc (.cells #[.int .i64 nx, .slice A1 n1 c1, .slice A2 n2 c2] 28)).alloc (.cells #[.int .i64 0, .slice none 0 0, .slice none 0 0] 28) = w0 at *
          have x0 : w0.cell? ⟨w.heap.size, 0, none⟩ = some (.int .i64 nx) := HX0.out.at 0 _ rfl
          have x1 : w0.cell? ⟨w.heap.size, 1, none⟩ = some (.slice A1 n1 c1) := HX0.out.at 1 _ rfl
          have x2 : w0.cell? ⟨w.heap.size, 2, none⟩ = some (.slice A2 n2 c2) := HX0.out.at 2 _ rfl
          go_upto_region 11 with (first
            | (go_at_call 12; ((with_reducible refine (CC _ HG0.out).mono ?_); rintro e w1 ⟨rfl, hg⟩; have HG1 := Lib.hid (grew_trans HG0.out hg); have HX1 := Lib.hid (HX0.out.keep hg); have HY1 := Lib.hid (HY0.out.keep hg); clear hg CC x0 x1 x2))
            | (go_at_call 82; ((with_reducible refine (CL _ HG1.out).mono ?_); rintro e w2 ⟨rfl, hg⟩; have HG2 := Lib.hid (grew_trans HG1.out hg); have HX2 := Lib.hid (HX1.out.keep hg); have HY2 := Lib.hid (HY1.out.keep hg); clear hg CL))
            | (go_at_call 60; ((with_reducible refine (CV _ HG2.out).mono ?_); rintro e w3 ⟨rfl, hg⟩; have HG3 := Lib.hid (grew_trans HG2.out hg); have HX3 := Lib.hid (HX2.out.keep hg); have HY3 := Lib.hid (HY2.out.keep hg); have x2 : w3.cell? ⟨w.heap.size, 2, none⟩ = some (.slice A2 n2 c2) := HX3.out.at 2 _ rfl; clear hg CV))
            | (go_at_call 84; ((with_reducible refine (CO _ HG3.out).mono ?_); rintro e w4 ⟨v4, rfl, ho, hg⟩; obtain ⟨A4, c4, rfl, hr4, -⟩ := ho.form; rw [List.length_append] at hr4; have HR4 := Lib.hid hr4; have HG34 := Lib.hid (own_back hg); have HG4 := Lib.hid (grew_trans HG3.out HG34.out); have HX4 := Lib.hid (HX3.out.keep HG34.out); have HY4 := Lib.hid (HY3.out.keep HG34.out); clear hg ho hr4 CO))
            | (go_at_call 83; ((with_reducible refine (CJ _ _ _ HR4.out).mono ?_); rintro e w5 ⟨v5, rfl, ho, hg⟩; have HO5 := Lib.hid ho; have HW45 : Hid (w4.heap.size ≤ w5.heap.size) := hg.size; have HG5 := Lib.hid (grew_trans HG4.out hg); have HX5 := Lib.hid (HX4.out.keep hg); have HY5 := Lib.hid (HY4.out.keep hg); clear hg ho CJ)))
          obtain ⟨A5, c5, rfl, -⟩ := HO5.out.form
          have HS : Hid (∀ w', Grew w5 w' → w'.cell? ⟨w.heap.size, 0, none⟩ = some (.int .i64 nx) ∧ w'.cell? ⟨w.heap.size, 1, none⟩ = some (.slice A1 n1 c1)) := fun w' g => ⟨(HX5.out.keep g).at 0 _ rfl, (HX5.out.keep g).at 1 _ rfl⟩
          have HSZ : Hid (w.heap.size + 2 ≤ w4.heap.size) := by have := HY4.out.lt; show _ ≤ _; omega
          go_region_held3 (fun w' => w'.cell? ⟨w.heap.size, 0, none⟩ = some (.int .i64 nx) ∧ w'.cell? ⟨w.heap.size, 1, none⟩ = some (.slice A1 n1 c1))
            (first
              | exact ⟨HXP.out.at 0 _ rfl, HXP.out.at 1 _ rfl⟩
              | exact HS.out _ HG6.out
              | exact HS.out _ (grew_drew (grew_refl _))
              | (trace_state; fail))
            ((go_at_call 85; (with_reducible refine (CT _ (grew_drew HG5.out)).mono ?_); rintro e w6 ⟨A', c', rfl, ho, hg⟩; have HG6 : Hid (Grew w5 w6) := grew_trans (grew_drew (grew_refl _)) hg; have HO6 := Lib.hid ho; have HX6 := Lib.hid (HX5.out.keep HG6.out); have HY6 := Lib.hid (HY5.out.keep HG6.out); have HXP : Hid (OwnC (putC w6 (w.heap.size + 1) 0 [.int .i64 nx, .slice A' n1 c', .slice A5 pl.length c5]) w.heap.size [.int .i64 nx, .slice A1 n1 c1, .slice A2 n2 c2]) := OwnC.putO (by omega) _ _ _ HX6.out; have y0 : w6.cell? ⟨w.heap.size + 1, 0, none⟩ = some (.int .i64 0) := HY6.out.at 0 _ rfl; have f0 : w6.frozen? ⟨w.heap.size + 1, 0, none⟩ = false := HY6.out.fr 0 (by decide); have y1 : w6.cell? ⟨w.heap.size + 1, 1, none⟩ = some (.slice none 0 0) := HY6.out.at 1 _ rfl; have f1 : w6.frozen? ⟨w.heap.size + 1, 1, none⟩ = false := HY6.out.fr 1 (by decide); have y2 : w6.cell? ⟨w.heap.size + 1, 2, none⟩ = some (.slice none 0 0) := HY6.out.at 2 _ rfl; have f2 : w6.frozen? ⟨w.heap.size + 1, 2, none⟩ = false := HY6.out.fr 2 (by decide); clear ho hg))
          have HP := Lib.hid (HY6.out.all [.int .i64 nx, .slice A' n1 c', .slice A5 pl.length c5] rfl)
          have HGP := Lib.hid (grew_put (w := w) (w.heap.size + 1) (Nat.le_succ _) [.int .i64 nx, .slice A' n1 c', .slice A5 pl.length c5] 0 _ (grew_trans HG5.out HG6.out))
          have HOT := Lib.hid (OwnE.put (b := w.heap.size + 1) (base := w.heap.size + 2) (by omega) [.int .i64 nx, .slice A' n1 c', .slice A5 pl.length c5] 0 _ (HO6.out.mono (Nat.le_trans HSZ.out (Nat.le_trans HW45.out (Nat.le_refl _)))))
          have HOP := Lib.hid (OwnE.put (b := w.heap.size + 1) (base := w.heap.size + 2) (by omega) [.int .i64 nx, .slice A' n1 c', .slice A5 pl.length c5] 0 _ ((HO5.out.keep HG6.out).mono HSZ.out))
          have HAP : Hid (Apart A' A5) := fun x y hx hy => by
            have h1 : w5.heap.size ≤ x.block := (HO6.out.block x hx).1
            have h2 := (HO5.out.block y hy).2
            omega
          change Exit.then _ _ _ _ (putC w6 (w.heap.size + 1) 0 [.int .i64 nx, .slice A' n1 c', .slice A5 pl.length c5])
          clear y0 y1 y2 f0 f1 f2 HXP HX6 HY6 HS
          generalize putC w6 (w.heap.size + 1) 0 [.int .i64 nx, .slice A' n1 c', .slice A5 pl.length c5] = w9 at *
          have z0 : w9.cell? ⟨w.heap.size + 1, 0, none⟩ = _ := HP.out.at 0 _ rfl
          have z1 : w9.cell? ⟨w.heap.size + 1, 1, none⟩ = _ := HP.out.at 1 _ rfl
          have z2 : w9.cell? ⟨w.heap.size + 1, 2, none⟩ = _ := HP.out.at 2 _ rfl
          apply_assumption
          go_wp2
          refine bodyPost_ret (v := .tuple #[.agg #[.int .i64 nx, .slice A' n1 c', .slice A5 pl.length c5], .int .i64 0]) (by simp [results, Tryz.results52, go_sem, z0, z1, z2]) rfl ?_
          rw [← HLT.out] at HOT
          exact HF.out _ _ _ _ _ ⟨HOT.out.mono (by omega), HOP.out.mono (by omega), HAP.out⟩ HGP.out
        · rw [Bool.not_eq_true] at hx
          obtain ⟨e1, e2⟩ := addE_4 hr hl hf hx
          rw [hx] at CJ
          simp only [Bool.false_eq_true, if_false] at CJ
          rw [e1, e2]
          have HF : Hid (∀ w', Grew w w' → BookE bk0 1 w (.returned (.tuple #[.agg #[.int .i64 0, .slice none 0 0, .slice none 0 0], .int .i64 1])) w') := fun w' g => bookE_no rfl g
          clear h h3 k3 e1 e2 hr hl hf hx hps
          generalize BookE bk0 1 w = PP at *
          generalize b.1 = nx at *
          dsimp only [vBk]
          go_enter Tryz.func52, Tryz.ntmps52
          go_upto_region 1 with fail
          generalize (w.alloc (.cells #[.int .i64 nx, .slice A1 n1 c1, .slice A2 n2 c2] 28)).alloc (.cells #[.int .i64 0, .slice none 0 0, .slice none 0 0] 28) = w0 at *
          have x0 : w0.cell? ⟨w.heap.size, 0, none⟩ = some (.int .i64 nx) := HX0.out.at 0 _ rfl
          have x1 : w0.cell? ⟨w.heap.size, 1, none⟩ = some (.slice A1 n1 c1) := HX0.out.at 1 _ rfl
          have x2 : w0.cell? ⟨w.heap.size, 2, none⟩ = some (.slice A2 n2 c2) := HX0.out.at 2 _ rfl
          go_wp2_with (first
            | (go_at_call 12; ((with_reducible refine (CC _ HG0.out).mono ?_); rintro e w1 ⟨rfl, hg⟩; have HG1 := Lib.hid (grew_trans HG0.out hg); have HX1 := Lib.hid (HX0.out.keep hg); have HY1 := Lib.hid (HY0.out.keep hg); clear hg CC x0 x1 x2))
            | (go_at_call 82; ((with_reducible refine (CL _ HG1.out).mono ?_); rintro e w2 ⟨rfl, hg⟩; have HG2 := Lib.hid (grew_trans HG1.out hg); have HX2 := Lib.hid (HX1.out.keep hg); have HY2 := Lib.hid (HY1.out.keep hg); clear hg CL))
            | (go_at_call 60; ((with_reducible refine (CV _ HG2.out).mono ?_); rintro e w3 ⟨rfl, hg⟩; have HG3 := Lib.hid (grew_trans HG2.out hg); have HX3 := Lib.hid (HX2.out.keep hg); have HY3 := Lib.hid (HY2.out.keep hg); have x2 : w3.cell? ⟨w.heap.size, 2, none⟩ = some (.slice A2 n2 c2) := HX3.out.at 2 _ rfl; clear hg CV))
            | (go_at_call 84; ((with_reducible refine (CO _ HG3.out).mono ?_); rintro e w4 ⟨v4, rfl, ho, hg⟩; obtain ⟨A4, c4, rfl, hr4, -⟩ := ho.form; rw [List.length_append] at hr4; have HR4 := Lib.hid hr4; have HG34 := Lib.hid (own_back hg); have HG4 := Lib.hid (grew_trans HG3.out HG34.out); have HX4 := Lib.hid (HX3.out.keep HG34.out); have HY4 := Lib.hid (HY3.out.keep HG34.out); clear hg ho hr4 CO))
            | (go_at_call 83; ((with_reducible refine (CJ _ _ _ HR4.out).mono ?_); rintro e w5 ⟨v5, rfl, ho, hg⟩; have HO5 := Lib.hid ho; have HG5 := Lib.hid (grew_trans HG4.out hg); have HX5 := Lib.hid (HX4.out.keep hg); have HY5 := Lib.hid (HY4.out.keep hg); have y0 : w5.cell? ⟨w.heap.size + 1, 0, none⟩ = some (.int .i64 0) := HY5.out.at 0 _ rfl; have f0 : w5.frozen? ⟨w.heap.size + 1, 0, none⟩ = false := HY5.out.fr 0 (by decide); have y1 : w5.cell? ⟨w.heap.size + 1, 1, none⟩ = some (.slice none 0 0) := HY5.out.at 1 _ rfl; have f1 : w5.frozen? ⟨w.heap.size + 1, 1, none⟩ = false := HY5.out.fr 1 (by decide); have y2 : w5.cell? ⟨w.heap.size + 1, 2, none⟩ = some (.slice none 0 0) := HY5.out.at 2 _ rfl; have f2 : w5.frozen? ⟨w.heap.size + 1, 2, none⟩ = false := HY5.out.fr 2 (by decide); clear hg ho CJ)))
          have HP := HY5.out.all [.int .i64 0, .slice none 0 0, .slice none 0 0] rfl
          have HGP := grew_put (w := w) (w.heap.size + 1) (by omega) [.int .i64 0, .slice none 0 0, .slice none 0 0] 0 _ HG5.out
          change bodyPost _ _ _ _ _ (putC w5 (w.heap.size + 1) 0 [.int .i64 0, .slice none 0 0, .slice none 0 0])
          clear y0 y1 y2 f0 f1 f2
          generalize putC w5 (w.heap.size + 1) 0 [.int .i64 0, .slice none 0 0, .slice none 0 0] = w9 at *
          have z0 : w9.cell? ⟨w.heap.size + 1, 0, none⟩ = _ := HP.at 0 _ rfl
          have z1 : w9.cell? ⟨w.heap.size + 1, 1, none⟩ = _ := HP.at 1 _ rfl
          have z2 : w9.cell? ⟨w.heap.size + 1, 2, none⟩ = _ := HP.at 2 _ rfl
          refine bodyPost_ret (v := .tuple #[.agg #[.int .i64 0, .slice none 0 0, .slice none 0 0], .int .i64 1]) (by simp [results, Tryz.results52, go_sem, z0, z1, z2]) rfl ?_
          exact HF.out _ HGP
      · rw [Bool.not_eq_true] at hf
        obtain ⟨e1, e2⟩ := addE_3 hr hl hf
        rw [hf] at CV
        rw [e1, e2]
        have HF : Hid (∀ w', Grew w w' → BookE bk0 12 w (.returned (.tuple #[.agg #[.int .i64 0, .slice none 0 0, .slice none 0 0], .int .i64 12])) w') := fun w' g => bookE_no rfl g
        clear h h3 k3 e1 e2 hr hl hf hps CO CJ
        generalize BookE bk0 12 w = PP at *
        generalize b.1 = nx at *
        dsimp only [vBk]
        go_enter Tryz.func52, Tryz.ntmps52
        go_upto_region 1 with fail
        generalize (w.alloc (.cells #[.int .i64 nx, .slice A1 n1 c1, .slice A2 n2 c2] 28)).alloc (.cells #[.int .i64 0, .slice none 0 0, .slice none 0 0] 28) = w0 at *
        have x0 : w0.cell? ⟨w.heap.size, 0, none⟩ = some (.int .i64 nx) := HX0.out.at 0 _ rfl
        have x1 : w0.cell? ⟨w.heap.size, 1, none⟩ = some (.slice A1 n1 c1) := HX0.out.at 1 _ rfl
        have x2 : w0.cell? ⟨w.heap.size, 2, none⟩ = some (.slice A2 n2 c2) := HX0.out.at 2 _ rfl
        go_wp2_with (first
          | (go_at_call 12; ((with_reducible refine (CC _ HG0.out).mono ?_); rintro e w1 ⟨rfl, hg⟩; have HG1 := Lib.hid (grew_trans HG0.out hg); have HX1 := Lib.hid (HX0.out.keep hg); have HY1 := Lib.hid (HY0.out.keep hg); clear hg CC x0 x1 x2))
          | (go_at_call 82; ((with_reducible refine (CL _ HG1.out).mono ?_); rintro e w2 ⟨rfl, hg⟩; have HG2 := Lib.hid (grew_trans HG1.out hg); have HX2 := Lib.hid (HX1.out.keep hg); have HY2 := Lib.hid (HY1.out.keep hg); clear hg CL))
          | (go_at_call 60; ((with_reducible refine (CV _ HG2.out).mono ?_); rintro e w3 ⟨rfl, hg⟩; have HG3 := Lib.hid (grew_trans HG2.out hg); have HX3 := Lib.hid (HX2.out.keep hg); have HY3 := Lib.hid (HY2.out.keep hg); have y0 : w3.cell? ⟨w.heap.size + 1, 0, none⟩ = some (.int .i64 0) := HY3.out.at 0 _ rfl; have f0 : w3.frozen? ⟨w.heap.size + 1, 0, none⟩ = false := HY3.out.fr 0 (by decide); have y1 : w3.cell? ⟨w.heap.size + 1, 1, none⟩ = some (.slice none 0 0) := HY3.out.at 1 _ rfl; have f1 : w3.frozen? ⟨w.heap.size + 1, 1, none⟩ = false := HY3.out.fr 1 (by decide); have y2 : w3.cell? ⟨w.heap.size + 1, 2, none⟩ = some (.slice none 0 0) := HY3.out.at 2 _ rfl; have f2 : w3.frozen? ⟨w.heap.size + 1, 2, none⟩ = false := HY3.out.fr 2 (by decide); clear hg CV)))
        have HP := HY3.out.all [.int .i64 0, .slice none 0 0, .slice none 0 0] rfl
        have HGP := grew_put (w := w) (w.heap.size + 1) (by omega) [.int .i64 0, .slice none 0 0, .slice none 0 0] 0 _ HG3.out
        change bodyPost _ _ _ _ _ (putC w3 (w.heap.size + 1) 0 [.int .i64 0, .slice none 0 0, .slice none 0 0])
        clear y0 y1 y2 f0 f1 f2
        generalize putC w3 (w.heap.size + 1) 0 [.int .i64 0, .slice none 0 0, .slice none 0 0] = w9 at *
        have z0 : w9.cell? ⟨w.heap.size + 1, 0, none⟩ = _ := HP.at 0 _ rfl
        have z1 : w9.cell? ⟨w.heap.size + 1, 1, none⟩ = _ := HP.at 1 _ rfl
        have z2 : w9.cell? ⟨w.heap.size + 1, 2, none⟩ = _ := HP.at 2 _ rfl
        refine bodyPost_ret (v := .tuple #[.agg #[.int .i64 0, .slice none 0 0, .slice none 0 0], .int .i64 12]) (by simp [results, Tryz.results52, go_sem, z0, z1, z2]) rfl ?_
        exact HF.out _ HGP
    · rw [Bool.not_eq_true] at hl
      obtain ⟨e1, e2⟩ := addE_2 hr hl
      rw [hl] at CL
      rw [e1, e2]
      have HF : Hid (∀ w', Grew w w' → BookE bk0 3 w (.returned (.tuple #[.agg #[.int .i64 0, .slice none 0 0, .slice none 0 0], .int .i64 3])) w') := fun w' g => bookE_no rfl g
      clear h h3 k3 e1 e2 hr hl hps
      generalize BookE bk0 3 w = PP at *
      generalize b.1 = nx at *
      dsimp only [vBk]
      go_enter Tryz.func52, Tryz.ntmps52
      go_upto_region 1 with fail
      generalize (w.alloc (.cells #[.int .i64 nx, .slice A1 n1 c1, .slice A2 n2 c2] 28)).alloc (.cells #[.int .i64 0, .slice none 0 0, .slice none 0 0] 28) = w0 at *
      have x0 : w0.cell? ⟨w.heap.size, 0, none⟩ = some (.int .i64 nx) := HX0.out.at 0 _ rfl
      have x1 : w0.cell? ⟨w.heap.size, 1, none⟩ = some (.slice A1 n1 c1) := HX0.out.at 1 _ rfl
      have x2 : w0.cell? ⟨w.heap.size, 2, none⟩ = some (.slice A2 n2 c2) := HX0.out.at 2 _ rfl
      go_wp2_with (first
        | (go_at_call 12; ((with_reducible refine (CC _ HG0.out).mono ?_); rintro e w1 ⟨rfl, hg⟩; have HG1 := Lib.hid (grew_trans HG0.out hg); have HX1 := Lib.hid (HX0.out.keep hg); have HY1 := Lib.hid (HY0.out.keep hg); clear hg CC x0 x1 x2))
        | (go_at_call 82; ((with_reducible refine (CL _ HG1.out).mono ?_); rintro e w2 ⟨rfl, hg⟩; have HG2 := Lib.hid (grew_trans HG1.out hg); have HX2 := Lib.hid (HX1.out.keep hg); have HY2 := Lib.hid (HY1.out.keep hg); have y0 : w2.cell? ⟨w.heap.size + 1, 0, none⟩ = some (.int .i64 0) := HY2.out.at 0 _ rfl; have f0 : w2.frozen? ⟨w.heap.size + 1, 0, none⟩ = false := HY2.out.fr 0 (by decide); have y1 : w2.cell? ⟨w.heap.size + 1, 1, none⟩ = some (.slice none 0 0) := HY2.out.at 1 _ rfl; have f1 : w2.frozen? ⟨w.heap.size + 1, 1, none⟩ = false := HY2.out.fr 1 (by decide); have y2 : w2.cell? ⟨w.heap.size + 1, 2, none⟩ = some (.slice none 0 0) := HY2.out.at 2 _ rfl; have f2 : w2.frozen? ⟨w.heap.size + 1, 2, none⟩ = false := HY2.out.fr 2 (by decide); clear hg CL)))
      have HP := HY2.out.all [.int .i64 0, .slice none 0 0, .slice none 0 0] rfl
      have HGP := grew_put (w := w) (w.heap.size + 1) (by omega) [.int .i64 0, .slice none 0 0, .slice none 0 0] 0 _ HG2.out
      change bodyPost _ _ _ _ _ (putC w2 (w.heap.size + 1) 0 [.int .i64 0, .slice none 0 0, .slice none 0 0])
      clear y0 y1 y2 f0 f1 f2
      generalize putC w2 (w.heap.size + 1) 0 [.int .i64 0, .slice none 0 0, .slice none 0 0] = w9 at *
      have z0 : w9.cell? ⟨w.heap.size + 1, 0, none⟩ = _ := HP.at 0 _ rfl
      have z1 : w9.cell? ⟨w.heap.size + 1, 1, none⟩ = _ := HP.at 1 _ rfl
      have z2 : w9.cell? ⟨w.heap.size + 1, 2, none⟩ = _ := HP.at 2 _ rfl
      refine bodyPost_ret (v := .tuple #[.agg #[.int .i64 0, .slice none 0 0, .slice none 0 0], .int .i64 3]) (by simp [results, Tryz.results52, go_sem, z0, z1, z2]) rfl ?_
      exact HF.out _ HGP
  · rw [Bool.not_eq_true] at hr
    obtain ⟨e1, e2⟩ := addE_1 (m := m) hr
    rw [chkB_no hr] at CC
    rw [e1, e2]
    have HF : Hid (∀ w', Grew w w' → BookE bk0 14 w (.returned (.tuple #[.agg #[.int .i64 0, .slice none 0 0, .slice none 0 0], .int .i64 14])) w') := fun w' g => bookE_no rfl g
    clear h h3 k3 e1 e2 hr CL
    generalize BookE bk0 14 w = PP at *
    generalize b.1 = nx at *
    dsimp only [vBk]
    go_enter Tryz.func52, Tryz.ntmps52
    go_upto_region 1 with fail
    generalize (w.alloc (.cells #[.int .i64 nx, .slice A1 n1 c1, .slice A2 n2 c2] 28)).alloc (.cells #[.int .i64 0, .slice none 0 0, .slice none 0 0] 28) = w0 at *
    have x0 : w0.cell? ⟨w.heap.size, 0, none⟩ = some (.int .i64 nx) := HX0.out.at 0 _ rfl
    have x1 : w0.cell? ⟨w.heap.size, 1, none⟩ = some (.slice A1 n1 c1) := HX0.out.at 1 _ rfl
    have x2 : w0.cell? ⟨w.heap.size, 2, none⟩ = some (.slice A2 n2 c2) := HX0.out.at 2 _ rfl
    go_wp2_with (go_at_call 12; ((with_reducible refine (CC _ HG0.out).mono ?_); rintro e w1 ⟨rfl, hg⟩; have HG1 := Lib.hid (grew_trans HG0.out hg); have HX1 := Lib.hid (HX0.out.keep hg); have HY1 := Lib.hid (HY0.out.keep hg); have y0 : w1.cell? ⟨w.heap.size + 1, 0, none⟩ = some (.int .i64 0) := HY1.out.at 0 _ rfl; have f0 : w1.frozen? ⟨w.heap.size + 1, 0, none⟩ = false := HY1.out.fr 0 (by decide); have y1 : w1.cell? ⟨w.heap.size + 1, 1, none⟩ = some (.slice none 0 0) := HY1.out.at 1 _ rfl; have f1 : w1.frozen? ⟨w.heap.size + 1, 1, none⟩ = false := HY1.out.fr 1 (by decide); have y2 : w1.cell? ⟨w.heap.size + 1, 2, none⟩ = some (.slice none 0 0) := HY1.out.at 2 _ rfl; have f2 : w1.frozen? ⟨w.heap.size + 1, 2, none⟩ = false := HY1.out.fr 2 (by decide); clear hg CC x0 x1 x2))
    have HP := HY1.out.all [.int .i64 0, .slice none 0 0, .slice none 0 0] rfl
    have HGP := grew_put (w := w) (w.heap.size + 1) (by omega) [.int .i64 0, .slice none 0 0, .slice none 0 0] 0 _ HG1.out
    change bodyPost _ _ _ _ _ (putC w1 (w.heap.size + 1) 0 [.int .i64 0, .slice none 0 0, .slice none 0 0])
    clear y0 y1 y2 f0 f1 f2
    generalize putC w1 (w.heap.size + 1) 0 [.int .i64 0, .slice none 0 0, .slice none 0 0] = w9 at *
    have z0 : w9.cell? ⟨w.heap.size + 1, 0, none⟩ = _ := HP.at 0 _ rfl
    have z1 : w9.cell? ⟨w.heap.size + 1, 1, none⟩ = _ := HP.at 1 _ rfl
    have z2 : w9.cell? ⟨w.heap.size + 1, 2, none⟩ = _ := HP.at 2 _ rfl
    refine bodyPost_ret (v := .tuple #[.agg #[.int .i64 0, .slice none 0 0, .slice none 0 0], .int .i64 14]) (by simp [results, Tryz.results52, go_sem, z0, z1, z2]) rfl ?_
    exact HF.out _ HGP
end Go.Proofs.YtahioajpmlochaaGreat.NumK
