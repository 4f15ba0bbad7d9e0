/- The reference's Add (Ref01D's, over RefSumA). -/
import Derived.Test.YtlmnbafklefmcaaRG8
import Derived.Test.YtlmnbafklefmcaaRG7
import Derived.Test.YtlmnbafklefmcaaRG4
import Derived.Test.YtlmnbafklefmcaaRG2
import Derived.Deep.RegionHeld3
import Derived.Deep.DeepCutAuto
import Derived.Sort.Grow
import Derived.Deep.Draws
import Derived.Shelf.SlSortCmp.WholeK
import Derived.Shelf.SlIter.Collect
import Derived.Shelf.SlSortCmp.NoneTotal
import Derived.RangeFuncBound
import Derived.Deep.QuietTactic
import Derived.BigQuiet
namespace Go.Proofs.Ytlmnbafklefmcaa.NumK
open Go.RowKit

set_option maxRecDepth 100000 in
set_option maxHeartbeats 2000000 in
theorem add_any (A : Option Addr) (n c : Nat) (zs : List Int) (w : World) (hz : Ints w A n zs) (hb : ∀ z ∈ zs, -9223372036854775808 ≤ z ∧ z ≤ 9223372036854775807) (hn : n ≤ 100000) :
    Calls Try.prog 29 #[.slice A n c] w fun e w' => e = .returned (.tuple #[.int .i64 (intV zs.sum), .bool (isMoney zs.sum)]) ∧ Grew w w' := by
  have HZ := Lib.hid hz
  have HB := Lib.hid hb
  clear hz hb
  go_enter Try.func29, Try.ntmps29
  go_wp2
  go_loopw [4, 5] (fun v i wr => ∃ k : Nat, k ≤ n ∧ i = .int .i64 k ∧ wr.ownsRow w.heap.size 81 2 v k ((zs.take k).flatMap wcells) ∧ Below w.heap.size w wr) (fun _ i _ => n - (intOf i).toNat)
  case atStart => exact ⟨0, Nat.zero_le _, rfl, by simpa using World.ownsRow_nil _ _ _ _, Below.refl _ _⟩
  case round =>
    obtain ⟨k, hk, rfl, hown, hbel⟩ := hrel
    by_cases hlt : k < n
    · obtain ⟨b0, o0, rfl, hb0, hc⟩ := HZ.out.2 (by omega)
      have hcell : wr.cell? ⟨b0, o0 + k, none⟩ = some (.int .i64 (zs.getD k 0)) := by
        rw [← hc k (by omega)]
        exact hbel.cell (p := ⟨b0, o0 + k, none⟩) hb0
      have hzb := HB.out (zs.getD k 0) (by rw [List.getD_eq_getElem?_getD, List.getElem?_eq_getElem (by have := HZ.out.1; omega)]; exact List.getElem_mem _)
      have HX := Lib.hid (take_map_succ zs k (by have := HZ.out.1; omega))
      have HO := Lib.hid hown
      have HBW := Lib.hid hbel
      clear hc hown hbel
      generalize zs.getD k 0 = y at *
      have C := fun w => of_any y w hzb
      obtain ⟨y1, y2⟩ := hzb
      go_wp2_with (first
        | (go_at_call 48; ((with_reducible refine (C _).mono ?_); rintro e w2 ⟨rfl, hg2⟩; have HG2 := Lib.hid hg2; clear hg2))
        | (at_builtin; refine wpList_append_wide rfl _ _ rfl w.heap.size _ k _ rfl ((own_keep HO.out HG2.out).alloc _) w2.heap.size 1 y rfl (by simp) (by simp) (by omega) (Nat.le_trans HBW.out.size (Nat.le_trans HG2.out.size (by simp))) ?_; intro v' w' hv hb'; have HV := Lib.hid hv; have HB' := Lib.hid hb'; clear hv hb'))
      go_roundw
      case rel =>
        refine ⟨k + 1, by omega, by go_num, ?_, ?_⟩
        · rw [← HX.out]; exact HV.out
        · exact ((HBW.out.trans (HG2.out.mono HBW.out.size)).alloc (Nat.le_trans HBW.out.size HG2.out.size) _).trans HB'.out
      case measure => simp [intOf]; omega
    · have hkn : k = n := by omega
      subst hkn
      have ht : zs.take k = zs := List.take_of_length_le (by have := HZ.out.1; omega)
      rw [ht] at hown
      obtain ⟨A3, c3, rfl, hW⟩ := wides_of_own hown
      have hs := sum_wide zs HB.out (by have := HZ.out.1; omega)
      have C := refSum_any A3 k c3 zs wr hW (fun x hx => by have := HB.out x hx; rw [isWide_iff]; omega) (by omega)
      rw [wsV, if_pos hs, hs] at C
      have D := fun w => refInt_any zs.sum w
      have HBW := Lib.hid hbel
      clear ht hown hW hs hbel hlt
      go_wp2_with (first
        | (go_at_call 49; ((with_reducible refine C.mono ?_); rintro e w2 ⟨rfl, hg2⟩; have HG2 := Lib.hid hg2; clear hg2))
        | (go_at_call 50; ((with_reducible refine (D _).mono ?_); rintro e w3 ⟨rfl, hg3⟩; have HG3 := Lib.hid hg3; clear hg3)))
      go_ret2
      exact ⟨rfl, Below.trans (HBW.out.trans (HG2.out.mono HBW.out.size)) (Below.mono (grew_trans (grew_alloc _ _ _) HG3.out) (Nat.le_trans HBW.out.size HG2.out.size))⟩
end Go.Proofs.Ytlmnbafklefmcaa.NumK
namespace Go.Proofs.Ytlmnbafklefmcaa.NumK
open Go.RowKit
set_option linter.unusedVariables false

def qtys (l : List Po) : List Int := l.map (·.2.2.1)
def csts (l : List Po) : List Int := l.map (·.2.2.2)
/-- What the sums tell. -/
def SumPost (l : List Po) (w : World) (e : Ending) (w' : World) : Prop := e = .returned (.tuple #[.int .i64 (sumPQ l), .int .i64 (sumPC l), .int .i64 (sumPE l)]) ∧ Grew w w'
end Go.Proofs.Ytlmnbafklefmcaa.NumK
namespace Go.Proofs.Ytlmnbafklefmcaa.NumK
open Go.RowKit
set_option linter.unusedVariables false

theorem filter_take_succ {α : Type} (p : α → Bool) (l : List α) (d : α) (j : Nat) (h : j < l.length) : (l.take (j + 1)).filter p = (l.take j).filter p ++ (if p (l.getD j d) then [l.getD j d] else []) := by
  rw [List.take_succ_eq_append_getElem h, List.filter_append, getD_at l d j h]
  congr 1
  cases hp : p l[j] <;> simp [hp]
/-- The quantities of an instrument, so far. -/
def rowI (l : List Po) (k : Nat) : List Int := qtys (l.filter (isI (k : Int)))
theorem Fam.set {κ α : Type} {E : En α} {w : World} {base : Nat} {t : TypeId} {v : κ → Value} {rows : κ → List α} (h : Fam E w base t v rows) (b i : Nat) (u : Value) (hb : b < base) : Fam E (w.setCell ⟨b, i, none⟩ u) base t v rows :=
  ⟨fun k => (h.own k).set b i u hb, h.ne⟩
end Go.Proofs.Ytlmnbafklefmcaa.NumK
namespace Go.Proofs.Ytlmnbafklefmcaa.NumK
open Go.RowKit
set_option linter.unusedVariables false

def gams (l : List D3) (k : Dk) : List Int := (l.filter (isD k)).map (·.2.2)
theorem gams_succ (l : List D3) (k : Dk) (j : Nat) (h : j < l.length) : gams (l.take (j + 1)) k = gams (l.take j) k ++ (if isD k (l.getD j (0, 0, 0)) then [(l.getD j (0, 0, 0)).2.2] else []) := by
  unfold gams
  rw [filter_take_succ _ l (0, 0, 0) j h, List.map_append]
  split <;> rfl
theorem gams_len (l : List D3) (k : Dk) (j : Nat) : (gams (l.take j) k).length ≤ j := by
  unfold gams
  rw [List.length_map]
  exact Nat.le_trans (List.length_filter_le _ _) (by rw [List.length_take]; omega)
def grossR (l : List D3) (k : Dk) : Int := if grossE l k = 0 then grossV l k else 0
theorem gams_ok {l : List D3} (h : l.all okD = true) (k : Dk) : (gams l k).all isMoney = true := by
  rw [List.all_eq_true] at h ⊢
  intro x hx
  obtain ⟨d, hd, rfl⟩ := List.mem_map.1 hx
  exact h d (List.mem_filter.1 hd).1
theorem gross_sum {l : List D3} (h : l.all okD = true) (k : Dk) : sumV (gams l k) = grossR l k ∧ sumE (gams l k) = grossE l k := by
  have h1 := gams_ok h k
  have h2 : (gams l k).sum = grossV l k := rfl
  unfold sumV sumE grossR grossE
  rw [h1, h, h2]
  unfold capV capE
  cases isMoney (grossV l k) <;> simp
theorem gross_wrong {l : List D3} (h : l.all okD = false) (k : Dk) : grossE l k = 3 ∧ grossR l k = 0 := by
  have : grossE l k = 3 := by unfold grossE; rw [h]; rfl
  exact ⟨this, by unfold grossR; rw [this]; rfl⟩
theorem isD_alt (a b : Int) (d : D3) : isD (a, b) d = (decide (d.1 = a) && decide (d.2.1 = b)) := rfl

set_option maxRecDepth 100000 in
set_option maxHeartbeats 2000000 in
theorem ngross_any (A : Option Addr) (n c : Nat) (l : List D3) (who cur : Int) (w : World) (h : RowE enD3 w A n l) (hn : n ≤ 100000) :
    Calls Try.prog 13 #[.int .i64 who, .int .i64 cur, .slice A n c] w fun e w' => e = .returned (.tuple #[.int .i64 (grossR l (who, cur)), .int .i64 (grossE l (who, cur))]) ∧ Grew w w' := by
  have C := nright_any A n c l w h (by omega)
  have HI := Lib.hid h
  have HL := Lib.hid h.len
  clear h
  by_cases hok : l.all okD = true
  · obtain ⟨g1, g2⟩ := gross_sum hok (who, cur)
    have CS := fun (B : Option Addr) (m d : Nat) w' (hr : RowE enInt w' B m (gams l (who, cur))) hm => sum_any B m d (gams l (who, cur)) w' (ints_of_E hr) hm
    rw [g1, g2] at CS
    rw [hok] at C
    clear g1 g2 hok
    generalize grossR l (who, cur) = R at *
    generalize grossE l (who, cur) = E at *
    go_enter Try.func13, Try.ntmps13
    go_wp2_with (go_at_call 21; ((with_reducible refine C.mono ?_); rintro e w1 ⟨rfl, hg⟩; have HG0 := Lib.hid hg; clear hg))
    go_loopw [8, 16] (fun v8 v16 wr => ∃ j : Nat, v16 = .int .i64 j ∧ j ≤ n ∧ Hid (OwnE enInt wr w.heap.size 3 v8 (gams (l.take j) (who, cur))) ∧ Hid (Grew w wr)) (fun _ v16 _ => n - (intOf v16).toNat)
    case atStart => exact ⟨0, rfl, by omega, OwnE.nil _ _ _ _, HG0.out⟩
    case round =>
      clear HG0
      obtain ⟨j, rfl, hj, HO, HG⟩ := hrel
      by_cases hlt : j < n
      · have hjl : j < l.length := by rw [HL.out]; exact hlt
        obtain ⟨b, o, rfl, hb, hc⟩ := (HI.out.keep HG.out).rD3 hlt
        obtain ⟨a0, a1, a2⟩ := hc j hlt
        have HS := Lib.hid (gams_succ l (who, cur) j hjl)
        have HLN := Lib.hid (gams_len l (who, cur) j)
        have HM := Lib.hid (isD_alt who cur (l.getD j (0, 0, 0)))
        have i0 : (0 : Int) ≤ (j : Int) := by omega
        have i1 : (j : Int) < (n : Int) := by omega
        have HW : Hid (w.heap.size ≤ wr.heap.size) := HG.out.size
        clear hc hb CS
        generalize gams (l.take j) (who, cur) = lj at *
        generalize isD (who, cur) (l.getD j (0, 0, 0)) = im at *
        generalize l.getD j (0, 0, 0) = x at *
        obtain ⟨q1, q2, q3⟩ := x
        dsimp only at a0 a1 a2 HM HS
        by_cases hm : q1 = who
        · subst hm
          by_cases hm2 : q2 = cur
          · have HS2 : Hid (gams (l.take (j + 1)) (q1, cur) = lj ++ [q3]) := by show _ = _; rw [HS.out, HM.out, decide_eq_true rfl, decide_eq_true hm2]; rfl
            subst hm2
            clear HS HM
            go_wp2_with (at_builtin; refine (wpList_append_E rfl _ _ 52 3 (.int .i64 0) 8 rfl Try.underlying52 info_int1 rfl w.heap.size _ lj rfl ((HO.out.keep (grew_alloc _ _ _)).keep (grew_alloc _ _ _)) _ 1 1 [q3] rfl (by intro h; cases h) (RowE.one1 enInt _ _ _ _ _ (by simp) rfl) (by have := HLN.out; simp; unfold maxLen; omega) (by have := HLN.out; omega) (Nat.le_trans HW.out (by simp; omega)) ?_); intro v' w' ho hb; have HP := Lib.hid ho; have HB : Hid (Grew w w') := Below.trans (grew_trans HG.out (grew_trans (grew_alloc _ _ _) (grew_alloc _ _ _))) hb; clear ho hb)
            go_roundw
            case rel => exact ⟨j + 1, by go_num, by omega, by rw [HS2.out]; exact HP.out, HB.out⟩
            case measure => simp only [intOf]; omega
          · have HS2 : Hid (gams (l.take (j + 1)) (q1, cur) = lj) := by show _ = _; rw [HS.out, HM.out, decide_eq_false hm2]; simp
            have d0 : (q2 == cur) = false := by simpa using hm2
            clear HS HM hm2
            go_wp2
            go_roundw
            case rel => exact ⟨j + 1, by go_num, by omega, by rw [HS2.out]; exact HO.out.keep (grew_alloc _ _ _), grew_trans HG.out (grew_alloc _ _ _)⟩
            case measure => simp only [intOf]; omega
        · have HS2 : Hid (gams (l.take (j + 1)) (who, cur) = lj) := by show _ = _; rw [HS.out, HM.out, decide_eq_false hm]; simp
          have d0 : (q1 == who) = false := by simpa using hm
          clear HS HM hm
          go_wp2
          go_roundw
          case rel => exact ⟨j + 1, by go_num, by omega, by rw [HS2.out]; exact HO.out.keep (grew_alloc _ _ _), grew_trans HG.out (grew_alloc _ _ _)⟩
          case measure => simp only [intOf]; omega
      · obtain rfl : j = n := by omega
        have ht : l.take j = l := List.take_of_length_le (by rw [HL.out]; exact Nat.le_refl _)
        have HLN : Hid ((gams l (who, cur)).length ≤ j) := by have := gams_len l (who, cur) j; rw [ht] at this; exact this
        rw [ht] at HO
        clear ht
        obtain ⟨B, d, rfl, hr, -, -, -⟩ := HO.out.form
        have C2 := CS B _ d _ hr (by have := HLN.out; omega)
        clear CS hr HO
        go_wp2_with (go_at_call 25; ((with_reducible refine C2.mono ?_); rintro e w2 ⟨rfl, hg⟩; have HG2 := Lib.hid (grew_trans HG.out hg); clear hg))
        go_ret2
        exact ⟨rfl, HG2.out⟩
  · have hok : l.all okD = false := by simpa using hok
    obtain ⟨g1, g2⟩ := gross_wrong hok (who, cur)
    rw [g1, g2]
    rw [hok] at C
    go_enter Try.func13, Try.ntmps13
    go_wp2_with (go_at_call 21; ((with_reducible refine C.mono ?_); rintro e w1 ⟨rfl, hg⟩; have HG0 := Lib.hid hg; clear hg))
    go_ret2
    exact ⟨rfl, HG0.out⟩
end Go.Proofs.Ytlmnbafklefmcaa.NumK
namespace Go.Proofs.Ytlmnbafklefmcaa.NumK
open Go.RowKit
set_option linter.unusedVariables false

theorem okD_at {l : List D3} {i : Nat} (hi : i < l.length) (h : isMoney (l.getD i (0, 0, 0)).2.2 = false) : l.all okD = false := by
  rw [← Bool.not_eq_true, List.all_eq_true]
  intro h2
  have := h2 _ (getD_mem l (0, 0, 0) i hi)
  unfold okD at this
  rw [h] at this; cases this
theorem okD_all {l : List D3} (h : ∀ i, i < l.length → isMoney (l.getD i (0, 0, 0)).2.2 = true) : l.all okD = true := by
  rw [List.all_eq_true]
  intro x hx
  obtain ⟨i, hi, rfl⟩ := List.getElem_of_mem hx
  have := h i hi
  rw [getD_at l (0, 0, 0) i hi] at this
  exact this

set_option maxRecDepth 100000 in
set_option maxHeartbeats 2000000 in
theorem rmoney_any (A : Option Addr) (n c : Nat) (l : List D3) (w : World) (h : RowE enD3 w A n l) (hn : n ≤ 1000000) :
    Calls Try.prog 26 #[.slice A n c] w fun e w' => e = .returned (.bool (l.all okD)) ∧ Grew w w' := by
  have HI := Lib.hid h
  have HL := Lib.hid h.len
  have HNO : Hid (∀ i, i < l.length → isMoney (l.getD i (0, 0, 0)).2.2 = false → l.all okD = false) := fun i hi h => okD_at hi h
  have HALL : Hid ((∀ i, i < l.length → isMoney (l.getD i (0, 0, 0)).2.2 = true) → l.all okD = true) := fun h => okD_all h
  clear h
  generalize l.all okD = R at *
  go_enter Try.func26, Try.ntmps26
  go_wp2
  go_loopw [3] (fun v wr => ∃ j : Nat, v = .int .i64 j ∧ j ≤ n ∧ Hid (∀ i, i < j → isMoney (l.getD i (0, 0, 0)).2.2 = true) ∧ Hid (Grew w wr)) (fun v _ => n - (intOf v).toNat)
  case atStart => exact ⟨0, rfl, by omega, fun i hi => by omega, grew_refl _⟩
  case round =>
    obtain ⟨j, rfl, hj, HK, HG⟩ := hrel
    by_cases hlt : j < n
    · obtain ⟨b, o, rfl, hb, hc⟩ := (HI.out.keep HG.out).rD3 hlt
      obtain ⟨a0, a1, a2⟩ := hc j hlt
      have HF1 := Lib.hid (HNO.out j (by rw [HL.out]; exact hlt))
      have HK1 : Hid (isMoney (l.getD j (0, 0, 0)).2.2 = true → ∀ i, i < j + 1 → isMoney (l.getD i (0, 0, 0)).2.2 = true) := fun h i hi => by
        rcases Nat.lt_or_ge i j with h1 | h1
        · exact HK.out i h1
        · obtain rfl : i = j := by omega
          exact h
      have C := fun w' => refRight_any (l.getD j (0, 0, 0)).2.2 w'
      have i0 : (0 : Int) ≤ (j : Int) := by omega
      have i1 : (j : Int) < (n : Int) := by omega
      clear hc hb HNO HALL
      generalize isMoney (l.getD j (0, 0, 0)).2.2 = m at *
      generalize l.getD j (0, 0, 0) = x at *
      obtain ⟨q1, q2, q3⟩ := x
      dsimp only at a0 a1 a2 C
      cases m
      · obtain rfl := HF1.out rfl
        clear HF1 HK1 HK
        go_wp2_with (go_at_call 47; ((with_reducible refine (C _).mono ?_); rintro e w5 ⟨rfl, rfl⟩))
        go_ret
        exact ⟨rfl, HG.out⟩
      · have HK2 := Lib.hid (HK1.out rfl)
        clear HF1 HK1 HK
        go_wp2_with (go_at_call 47; ((with_reducible refine (C _).mono ?_); rintro e w5 ⟨rfl, rfl⟩))
        go_roundw
        case rel => exact ⟨j + 1, by go_num, by omega, HK2.out, HG.out⟩
        case measure => simp only [intOf]; omega
    · obtain rfl : j = n := by omega
      obtain rfl := HALL.out (by rw [HL.out]; exact HK.out)
      clear HK HNO
      go_wp2
      go_ret
      exact ⟨rfl, HG.out⟩
theorem money_range {z : Int} (h : isMoney z = true) : -9223372036854775808 ≤ z ∧ z ≤ 9223372036854775807 := by
  have := (isMoney_iff z).1 h
  omega

set_option maxRecDepth 100000 in
set_option maxHeartbeats 2000000 in
theorem rgross_any (A : Option Addr) (n c : Nat) (l : List D3) (who cur : Int) (w : World) (h : RowE enD3 w A n l) (hn : n ≤ 100000) :
    Calls Try.prog 14 #[.int .i64 who, .int .i64 cur, .slice A n c] w fun e w' => e = .returned (.tuple #[.int .i64 (grossR l (who, cur)), .int .i64 (grossE l (who, cur))]) ∧ Grew w w' := by
  have C := rmoney_any A n c l w h (by omega)
  have HI := Lib.hid h
  have HL := Lib.hid h.len
  clear h
  by_cases hok : l.all okD = true
  · have HGR : Hid (grossR l (who, cur) = intV (gams l (who, cur)).sum ∧ grossE l (who, cur) = if isMoney (gams l (who, cur)).sum then 0 else 1) := by
      have e2 : grossE l (who, cur) = if isMoney (gams l (who, cur)).sum then 0 else 1 := by unfold grossE; rw [hok]; rfl
      refine ⟨?_, e2⟩
      unfold grossR intV
      rw [e2]
      show (if (if isMoney (grossV l (who, cur)) then (0 : Int) else 1) = 0 then grossV l (who, cur) else 0) = (if isMoney (grossV l (who, cur)) then grossV l (who, cur) else 0)
      cases isMoney (grossV l (who, cur)) <;> rfl
    have CS := fun (B : Option Addr) (m d : Nat) w' (hr : RowE enInt w' B m (gams l (who, cur))) hm => add_any B m d (gams l (who, cur)) w' (ints_of_E hr) (fun z hz => money_range (List.all_eq_true.1 (gams_ok hok (who, cur)) z hz)) hm
    rw [hok] at C
    clear hok
    generalize grossR l (who, cur) = R at *
    generalize grossE l (who, cur) = E at *
    go_enter Try.func14, Try.ntmps14
    go_wp2_with (go_at_call 26; ((with_reducible refine C.mono ?_); rintro e w1 ⟨rfl, hg⟩; have HG0 := Lib.hid hg; clear hg))
    go_loopw [8, 9] (fun v8 v16 wr => ∃ j : Nat, v16 = .int .i64 j ∧ j ≤ n ∧ Hid (OwnE enInt wr w.heap.size 3 v8 (gams (l.take j) (who, cur))) ∧ Hid (Grew w wr)) (fun _ v16 _ => n - (intOf v16).toNat)
    case atStart => exact ⟨0, rfl, by omega, OwnE.nil _ _ _ _, HG0.out⟩
    case round =>
      clear HG0
      obtain ⟨j, rfl, hj, HO, HG⟩ := hrel
      by_cases hlt : j < n
      · have hjl : j < l.length := by rw [HL.out]; exact hlt
        obtain ⟨b, o, rfl, hb, hc⟩ := (HI.out.keep HG.out).rD3 hlt
        obtain ⟨a0, a1, a2⟩ := hc j hlt
        have HS := Lib.hid (gams_succ l (who, cur) j hjl)
        have HLN := Lib.hid (gams_len l (who, cur) j)
        have HM := Lib.hid (isD_alt who cur (l.getD j (0, 0, 0)))
        have i0 : (0 : Int) ≤ (j : Int) := by omega
        have i1 : (j : Int) < (n : Int) := by omega
        have HW : Hid (w.heap.size ≤ wr.heap.size) := HG.out.size
        clear hc hb CS
        generalize gams (l.take j) (who, cur) = lj at *
        generalize isD (who, cur) (l.getD j (0, 0, 0)) = im at *
        generalize l.getD j (0, 0, 0) = x at *
        obtain ⟨q1, q2, q3⟩ := x
        dsimp only at a0 a1 a2 HM HS
        by_cases hm : q1 = who
        · subst hm
          by_cases hm2 : q2 = cur
          · have HS2 : Hid (gams (l.take (j + 1)) (q1, cur) = lj ++ [q3]) := by show _ = _; rw [HS.out, HM.out, decide_eq_true rfl, decide_eq_true hm2]; rfl
            subst hm2
            clear HS HM
            go_wp2_with (at_builtin; refine (wpList_append_E rfl _ _ 52 3 (.int .i64 0) 8 rfl Try.underlying52 info_int1 rfl w.heap.size _ lj rfl (HO.out.keep (grew_alloc _ _ _)) _ 1 1 [q3] rfl (by intro h; cases h) (RowE.one1 enInt _ _ _ _ _ (by simp) rfl) (by have := HLN.out; simp; unfold maxLen; omega) (by have := HLN.out; omega) (Nat.le_trans HW.out (by simp)) ?_); intro v' w' ho hb; have HP := Lib.hid ho; have HB : Hid (Grew w w') := Below.trans (grew_trans HG.out (grew_alloc _ _ _)) hb; clear ho hb)
            go_roundw
            case rel => exact ⟨j + 1, by go_num, by omega, by rw [HS2.out]; exact HP.out, HB.out⟩
            case measure => simp only [intOf]; omega
          · have HS2 : Hid (gams (l.take (j + 1)) (q1, cur) = lj) := by show _ = _; rw [HS.out, HM.out, decide_eq_false hm2]; simp
            have d0 : (q2 == cur) = false := by simpa using hm2
            clear HS HM hm2
            go_wp2
            go_roundw
            case rel => exact ⟨j + 1, by go_num, by omega, by rw [HS2.out]; exact HO.out, HG.out⟩
            case measure => simp only [intOf]; omega
        · have HS2 : Hid (gams (l.take (j + 1)) (who, cur) = lj) := by show _ = _; rw [HS.out, HM.out, decide_eq_false hm]; simp
          have d0 : (q1 == who) = false := by simpa using hm
          clear HS HM hm
          go_wp2
          go_roundw
          case rel => exact ⟨j + 1, by go_num, by omega, by rw [HS2.out]; exact HO.out, HG.out⟩
          case measure => simp only [intOf]; omega
      · obtain rfl : j = n := by omega
        have ht : l.take j = l := List.take_of_length_le (by rw [HL.out]; exact Nat.le_refl _)
        have HLN : Hid ((gams l (who, cur)).length ≤ j) := by have := gams_len l (who, cur) j; rw [ht] at this; exact this
        rw [ht] at HO
        clear ht
        obtain ⟨B, d, rfl, hr, -, -, -⟩ := HO.out.form
        have C2 := CS B _ d _ hr (by have := HLN.out; omega)
        clear CS hr HO
        generalize (gams l (who, cur)).sum = S at *
        obtain ⟨r1, r2⟩ := HGR.out
        cases hm : isMoney S
        · rw [hm] at C2 r2
          obtain rfl : E = 1 := r2
          obtain rfl : R = 0 := r1.trans (intV_out hm)
          go_wp2_with (go_at_call 29; ((with_reducible refine C2.mono ?_); rintro e w2 ⟨rfl, hg⟩; have HG2 := Lib.hid (grew_trans HG.out hg); clear hg))
          go_ret2
          exact ⟨rfl, HG2.out⟩
        · rw [hm] at C2 r2
          obtain rfl : E = 0 := r2
          subst r1
          go_wp2_with (go_at_call 29; ((with_reducible refine C2.mono ?_); rintro e w2 ⟨rfl, hg⟩; have HG2 := Lib.hid (grew_trans HG.out hg); clear hg))
          go_ret2
          exact ⟨rfl, HG2.out⟩
  · have hok : l.all okD = false := by simpa using hok
    obtain ⟨g1, g2⟩ := gross_wrong hok (who, cur)
    rw [g1, g2]
    rw [hok] at C
    go_enter Try.func14, Try.ntmps14
    go_wp2_with (go_at_call 26; ((with_reducible refine C.mono ?_); rintro e w1 ⟨rfl, hg⟩; have HG0 := Lib.hid hg; clear hg))
    go_ret2
    exact ⟨rfl, HG0.out⟩
end Go.Proofs.Ytlmnbafklefmcaa.NumK
namespace Go.Proofs.Ytlmnbafklefmcaa.NumK
open Go.RowKit Go.Sort
set_option linter.unusedVariables false

/-- Blocks were laid, orders drawn; nothing else. -/
def Ext (w w' : World) : Prop := ∃ q os, w' = grow (w.drewN q) os
theorem Ext.refl (w : World) : Ext w w := ⟨0, #[], by rw [grow_empty]; rfl⟩
theorem Ext.alloc {w w' : World} (h : Ext w w') (o : Obj) : Ext w (w'.alloc o) := by
  obtain ⟨q, os, rfl⟩ := h
  exact ⟨q, os ++ #[o], by rw [alloc_eq_grow, grow_grow]⟩
theorem Ext.drew {w w' : World} (h : Ext w w') : Ext w w'.drew := by
  obtain ⟨q, os, rfl⟩ := h
  exact ⟨q + 1, os, rfl⟩

def ordD (x y : Dn) : Int := orI (cmpI x.1 y.1) (cmpI x.2.1 y.2.1)
theorem ordD_lt (x y : Dn) : ordD x y < 0 ↔ ltK (keyD x) (keyD y) := by
  unfold ordD orI cmpI ltK keyD
  repeat' split
  all_goals (dsimp only; omega)
set_option maxRecDepth 100000 in
set_option maxHeartbeats 2000000 in
theorem dorder_any (x y : Dn) (w : World) : Calls Try.prog 24 #[.agg #[.int .i64 x.1, .int .i64 x.2.1, .int .i64 x.2.2], .agg #[.int .i64 y.1, .int .i64 y.2.1, .int .i64 y.2.2]] w fun e w' => e = .returned (.int .i64 (ordD x y)) ∧ Ext w w' := by
  have C1 := fun w => compare_any x.1 y.1 w
  have C2 := fun w => compare_any x.2.1 y.2.1 w
  have HV : Hid (ordD x y = orI (cmpI x.1 y.1) (cmpI x.2.1 y.2.1)) := rfl
  generalize ordD x y = V at *
  generalize cmpI x.1 y.1 = R1 at *
  generalize cmpI x.2.1 y.2.1 = R2 at *
  have C3 := fun (w : World) => or_any (some ⟨w.heap.size, 0, none⟩) 2 R1 R2 (w.alloc (.cells #[.int .i64 R1, .int .i64 R2] 3)).drew (Ints.keep (ints2' w R1 R2 _ _ rfl) (grew_drew (grew_refl _)))
  rw [← HV.out] at C3
  clear HV
  obtain ⟨q1, q2, q3⟩ := x
  obtain ⟨p1, p2, p3⟩ := y
  dsimp only at *
  have HX : Hid (OwnC ((w.alloc (.cells #[.int .i64 q1, .int .i64 q2, .int .i64 q3] 42)).alloc (.cells #[.int .i64 p1, .int .i64 p2, .int .i64 p3] 42)) w.heap.size [.int .i64 q1, .int .i64 q2, .int .i64 q3]) := (OwnC.new w [.int .i64 q1, .int .i64 q2, .int .i64 q3] _ _ rfl).keep (grew_alloc _ _ _)
  have HY : Hid (OwnC ((w.alloc (.cells #[.int .i64 q1, .int .i64 q2, .int .i64 q3] 42)).alloc (.cells #[.int .i64 p1, .int .i64 p2, .int .i64 p3] 42)) (w.heap.size + 1) [.int .i64 p1, .int .i64 p2, .int .i64 p3]) := OwnC.new _ [.int .i64 p1, .int .i64 p2, .int .i64 p3] _ _ (by simp)
  have HG : Hid (Ext w ((w.alloc (.cells #[.int .i64 q1, .int .i64 q2, .int .i64 q3] 42)).alloc (.cells #[.int .i64 p1, .int .i64 p2, .int .i64 p3] 42))) := ((Ext.refl w).alloc _).alloc _
  go_enter Try.func24, Try.ntmps24
  go_upto_region 1 with (fail)
  generalize ((w.alloc (.cells #[.int .i64 q1, .int .i64 q2, .int .i64 q3] 42)).alloc (.cells #[.int .i64 p1, .int .i64 p2, .int .i64 p3] 42)) = w0 at *
  generalize w.heap.size + 1 = N1 at *
  have HK : Hid (∀ w', Grew w0 w' → (w'.cell? ⟨w.heap.size, 0, none⟩ = some (.int .i64 q1) ∧ w'.cell? ⟨w.heap.size, 1, none⟩ = some (.int .i64 q2) ∧ w'.cell? ⟨N1, 0, none⟩ = some (.int .i64 p1) ∧ w'.cell? ⟨N1, 1, none⟩ = some (.int .i64 p2))) := fun w' g => ⟨(HX.out.keep g).at 0 _ rfl, (HX.out.keep g).at 1 _ rfl, (HY.out.keep g).at 0 _ rfl, (HY.out.keep g).at 1 _ rfl⟩
  generalize w.heap.size = N0 at *
  clear HX HY
  go_region_held3 (fun w' => w'.cell? ⟨N0, 0, none⟩ = some (.int .i64 q1) ∧ w'.cell? ⟨N0, 1, none⟩ = some (.int .i64 q2) ∧ w'.cell? ⟨N1, 0, none⟩ = some (.int .i64 p1) ∧ w'.cell? ⟨N1, 1, none⟩ = some (.int .i64 p2))
    (first
      | (with_reducible exact HK.out _ (grew_drew (grew_refl _)))
      | (with_reducible exact HK.out _ (grew_drew (grew_alloc _ _ _))))
    (first
      | (go_at_call 45; ((with_reducible refine (C1 _).mono ?_); rintro e w1 ⟨rfl, rfl⟩))
      | (go_at_call 45; ((with_reducible refine (C2 _).mono ?_); rintro e w1 ⟨rfl, rfl⟩))
      | (go_at_call 44; ((with_reducible refine (C3 _).mono ?_); rintro e w1 ⟨rfl, rfl⟩)))
  go_wp2
  go_ret
  exact ⟨rfl, (HG.out.alloc _).drew⟩
end Go.Proofs.Ytlmnbafklefmcaa.NumK
namespace Go.Proofs.Ytlmnbafklefmcaa.NumK
open Go.RowKit
open Go.Sort (grow flatK putRowK HoldsK SWO)
set_option linter.unusedVariables false

theorem flat_list {α : Type} [Inhabited α] (E : En α) (d : Array α) : (flatK E.cs E.size d).toList = d.toList.flatMap E.cs := by
  have hp := E.pos
  refine List.ext_getElem? fun t => ?_
  by_cases ht : t < d.size * E.size
  · have hs : t < (flatK E.cs E.size d).size := by rw [Go.Sort.size_flatK]; exact ht
    have hj : t / E.size < d.size := (Nat.div_lt_iff_lt_mul hp).2 ht
    have hi : t % E.size < E.size := Nat.mod_lt _ hp
    have e1 := Go.Sort.get_flatK E.cs E.size d t ht
    rw [getElem!_pos _ t hs] at e1
    have e2 := E.flat_at d.toList (t / E.size) (by simpa using hj) (t % E.size) hi
    rw [show t / E.size * E.size + t % E.size = t by rw [Nat.mul_comm]; exact Nat.div_add_mod _ _] at e2
    rw [e2, Array.getElem?_toList, Array.getElem?_eq_getElem hs, e1, getElem!_pos d _ hj]
    have hl : t % E.size < (E.cs d[t / E.size]).length := by rw [E.len]; exact hi
    simp [hl]
  · rw [List.getElem?_eq_none (by simp; omega), List.getElem?_eq_none (by rw [E.flat_len]; simp; omega)]

theorem holds_own {α : Type} [Inhabited α] {E : En α} {w : World} {base g cap : Nat} {t : TypeId} {l : List α} (h : OwnE E w base t (.slice (some ⟨g, 0, none⟩) l.length cap) l) : HoldsK E.cs E.size w g 0 l.toArray := by
  obtain ⟨hl, h⟩ := h
  rcases h with ⟨h0, _⟩ | ⟨g', cap', cur, he, hb, hh, h1, h2, h3, h4⟩
  · cases h0
  · simp only [Value.slice.injEq, Option.some.injEq, Addr.mk.injEq, and_true, true_and] at he
    obtain ⟨rfl, -⟩ := he
    intro j hj
    have hj' : j < l.length * E.size := by simpa using hj
    have hc : j < cur.size := by rw [h3]; exact Nat.lt_of_lt_of_le hj' (Nat.mul_le_mul_right _ h1)
    have e1 : cur[j]? = (l.flatMap E.cs)[j]? := by rw [← h4, List.getElem?_take, if_pos hj', Array.getElem?_toList]
    have e2 := congrArg (fun x : List Value => x[j]?) (flat_list E l.toArray)
    simp only [Array.getElem?_toList] at e2
    rw [← e1, Array.getElem?_eq_getElem hc, Array.getElem?_eq_getElem hj] at e2
    constructor
    · simp only [World.cell?, Nat.zero_add, hh]
      rw [getElem!_pos _ j hj]
      simp only [id, Array.getElem?_eq_getElem hc]
      exact e2.symm
    · simp [World.frozen?, hh]

theorem own_sorted {α : Type} [Inhabited α] {E : En α} {w : World} {base g cap : Nat} {t : TypeId} {l : List α} (h : OwnE E w base t (.slice (some ⟨g, 0, none⟩) l.length cap) l) (d' : Array α) (hd : d'.size = l.length) (m : Nat) (os : Array Obj) :
    OwnE E (sortWorldK E.cs E.size w g 0 m d' os) base t (.slice (some ⟨g, 0, none⟩) l.length cap) d'.toList ∧ w.grownBy (sortWorldK E.cs E.size w g 0 m d' os) (some g) := by
  obtain ⟨hl, h⟩ := h
  rcases h with ⟨h0, _⟩ | ⟨g', cap', cur, he, hb, hh, h1, h2, h3, h4⟩
  · cases h0
  · simp only [Value.slice.injEq, Option.some.injEq, Addr.mk.injEq, and_true, true_and] at he
    obtain ⟨rfl, rfl⟩ := he
    have hg : g < w.heap.size := (Array.getElem?_eq_some_iff.1 hh).1
    have hh2 : (sortWorldK E.cs E.size w g 0 m d' os).heap[g]? = some (.cells (Go.Sort.putCells id 0 (flatK E.cs E.size d') cur) t (0, 0)) := by
      unfold sortWorldK
      rw [Go.Sort.heap_grow_old _ _ (by simpa [putRowK, Go.Sort.putRow, Go.Sort.mapBlock] using hg)]
      show (w.heap.modify g (Go.Sort.onCells _))[g]? = _
      rw [Array.getElem?_modify, if_pos rfl, hh]; rfl
    have hF : (flatK E.cs E.size d').size = l.length * E.size := by rw [Go.Sort.size_flatK, hd]
    have hle : l.length * E.size ≤ cur.size := by rw [h3]; exact Nat.mul_le_mul_right _ h1
    have hdl : d'.toList.length = l.length := by simpa using hd
    refine ⟨⟨by rw [E.flat_len, hdl], Or.inr ⟨g, cap, _, by rw [hdl], hb, hh2, by rw [hdl]; exact h1, h2, ?_, ?_⟩⟩, ⟨rfl, rfl, rfl, ?_, fun k hk hne => ?_⟩⟩
    · rw [← h3]; simp [Go.Sort.putCells]
    · rw [hdl, ← flat_list E d']
      refine List.ext_getElem? fun j => ?_
      rw [List.getElem?_take]
      by_cases hj : j < l.length * E.size
      · have hj2 : j < (flatK E.cs E.size d').size := by rw [hF]; exact hj
        have hj3 : j < cur.size := Nat.lt_of_lt_of_le hj hle
        rw [if_pos hj, Array.getElem?_toList, Array.getElem?_toList, Array.getElem?_eq_getElem hj2]
        simp only [Go.Sort.putCells, Array.getElem?_mapIdx, Array.getElem?_eq_getElem hj3, Option.map_some, Nat.zero_le, Nat.zero_add, true_and, if_pos hj2, Nat.sub_zero, id]
        rw [getElem!_pos _ j hj2]
      · rw [if_neg hj, List.getElem?_eq_none (by simp; rw [hd]; omega)]
    · unfold sortWorldK; simp [putRowK, Go.Sort.putRow, Go.Sort.mapBlock, Go.Sort.ahead]
    · unfold sortWorldK
      rw [Go.Sort.heap_grow_old _ _ (by simpa [putRowK, Go.Sort.putRow, Go.Sort.mapBlock] using hk)]
      show (w.heap.modify g (Go.Sort.onCells _))[k]? = _
      rw [Array.getElem?_modify, if_neg (fun e => hne (by rw [e]))]

/-! ### keys -/
def enDk : En Dk := ⟨3, fun x => [.int .i64 x.1, .int .i64 x.2, .int .i64 0], fun _ => rfl, fun a v hv => by
  simp at hv; rcases hv with rfl | rfl | rfl <;> rfl, by decide⟩
def cfK (x y : Dk) : Int := orI (cmpI x.1 y.1) (cmpI x.2 y.2)
theorem cfK_lt (x y : Dk) : ltOf cfK x y = decide (ltK x y) := by
  have := ordD_lt (x.1, x.2, 0) (y.1, y.2, 0)
  unfold ltOf
  exact decide_eq_decide.2 this
theorem swoK : SWO (ltOf cfK) where
  irrefl x := by rw [cfK_lt]; exact decide_eq_false (ltK_irr x)
  trans x y z h1 h2 := by rw [cfK_lt] at *; simp only [decide_eq_true_eq] at *; exact ltK_trans h1 h2
  ntrans x y z h1 h2 := by
    rw [cfK_lt] at *
    simp only [decide_eq_false_iff_not] at *
    intro h3
    rcases ltK_tri y x with h | h | h
    · exact h2 (by rcases ltK_tri z x with h4 | h4 | h4; · exact absurd (ltK_trans h3 h4) (ltK_irr x)
                   · subst h4; exact absurd h3 (ltK_irr _)
                   · exact ltK_trans h h3)
    · subst h; exact h2 h3
    · exact h1 h
theorem cmpLaysK (blk off size : Nat) (w : World) : CmpLays Try.prog 24 #[] enDk.cs 3 cfK blk off size w :=
  fun m os dk _ x y => dorder_any (x.1, x.2, 0) (y.1, y.2, 0) _
instance : Inhabited Dk := ⟨(0, 0)⟩
/-- A row of keys, sorted. -/
theorem sorted_keys {l : List Dk} (hn : l.Nodup) {d' : Array Dk} (hp : Go.Sort.PermIn 0 l.toArray.size l.toArray d') (hs : Go.Sort.SortedIn (ltOf cfK) 0 l.toArray.size d') : d'.size = l.length ∧ d'.toList.Perm l ∧ d'.toList.Pairwise ltK := by
  obtain ⟨h1, -, h3⟩ := hp
  have e1 : d'.size = l.length := by simpa using h1
  have hperm : d'.toList.Perm l := by
    have h4 : d'.toList.take l.length = d'.toList := List.take_of_length_le (by simp [e1])
    simpa [e1, h4] using h3
  refine ⟨e1, hperm, List.pairwise_iff_getElem.2 fun i j hi hj hij => ?_⟩
  have hi' : i < d'.size := by simpa using hi
  have hj' : j < d'.size := by simpa using hj
  have h := hs i j (Nat.zero_le _) hij (by rw [← h1]; exact hj')
  rw [cfK_lt, getElem!_pos d' j hj', getElem!_pos d' i hi', decide_eq_false_iff_not] at h
  have hne : d'.toList[i] ≠ d'.toList[j] := fun e => by
    have := (List.Perm.nodup_iff hperm).2 hn
    exact absurd ((List.getElem_inj this).1 e) (by omega)
  rcases ltK_tri d'.toList[i] d'.toList[j] with h4 | h4 | h4
  · exact h4
  · exact absurd h4 hne
  · exact absurd h4 (by simpa using h)
theorem sort_any (base g cap : Nat) (l : List Dk) (w : World) (h : OwnE enDk w base 42 (.slice (some ⟨g, 0, none⟩) l.length cap) l) (hn : l.Nodup) (hl : l.length ≤ 1000000) (hb : base ≤ g) :
    Calls Try.prog 42 #[.slice (some ⟨g, 0, none⟩) l.length cap, .func (.func 24) #[] #[]] w fun e w' => e = .returned (.tuple #[]) ∧
      ∃ s : List Dk, s.Perm l ∧ s.Pairwise ltK ∧ OwnE enDk w' base 42 (.slice (some ⟨g, 0, none⟩) l.length cap) s ∧ Below base w w' := by
  have hH := holds_own h
  have hg : g < w.heap.size := World.ownsRow.lt h g rfl |>.2
  have eg : ∀ args w, (callFunc 24 args).run Try.prog w = .ok (.enter 24 args) w := enters_of Try.func24 (by kernel_rfl) rfl
  have hc := AnyQ.slices_SortFunc Try.sortD 3 Try.isAgg42 Try.sizeOf42 enDk.cs (fun _ => rfl) enDk.one cfK swoK 24 #[] g 0 cap l.toArray w eg (cmpLaysK g 0 _ w) hH hg (by simp; omega)
  rw [show l.toArray.size = l.length from rfl] at hc
  refine hc.mono ?_
  rintro e w' ⟨rfl, d', m, os, hp, hs, rfl⟩
  obtain ⟨e1, e2, e3⟩ := sorted_keys hn (by simpa using hp) (by simpa using hs)
  obtain ⟨o1, o2⟩ := own_sorted h d' e1 m os
  refine ⟨rfl, d'.toList, e2, e3, o1, (Below.refl base w).grown o2 (Nat.le_trans hb (Nat.le_of_lt hg)) fun k e => by cases e; exact hb⟩
end Go.Proofs.Ytlmnbafklefmcaa.NumK
namespace Go.Proofs.Ytlmnbafklefmcaa.NumK
open Go.RowKit Go.Maps
set_option linter.unusedVariables false

def apAssD : Code := (Code.region 2 #[{ dst := some 5, op := Op.alloc 42, type := 0, pos := "iter.go:51", after := #[], guard := none }, { dst := none, op := Op.store 42 (Operand.tmp 5) (Operand.tmp 7), type := 0, pos := "iter.go:51", after := #[{ on := 0, ground := Ground.data }, { on := 0, ground := Ground.phase }], guard := none }] false)
def apBodD : Code := (Code.block 1 (Code.region 3 #[{ dst := some 8, op := Op.load 22 (Operand.tmp 2), type := 22, pos := "iter.go:52", after := #[], guard := none }, { dst := some 9, op := Op.load 42 (Operand.tmp 5), type := 42, pos := "iter.go:52", after := #[], guard := none }, { dst := some 10, op := Op.buildSlice 22 1 #[(0, Operand.tmp 9)], type := 22, pos := "iter.go:52", after := #[{ on := 1, ground := Ground.data }], guard := none }, { dst := some 11, op := Op.call { callee := Callee.builtin Builtin.append, args := #[Operand.tmp 8, Operand.tmp 10], argTypes := #[22, 22] }, type := 22, pos := "iter.go:52", after := #[{ on := 0, ground := Ground.data }, { on := 2, ground := Ground.data }], guard := none }, { dst := none, op := Op.store 22 (Operand.tmp 2) (Operand.tmp 11), type := 0, pos := "iter.go:52", after := #[{ on := 3, ground := Ground.data }, { on := 3, ground := Ground.chain }, { on := 0, ground := Ground.phase }, { on := 1, ground := Ground.phase }, { on := 2, ground := Ground.phase }, { on := 3, ground := Ground.phase }], guard := none }] false))
def apRecD (fn : FuncId) (sv : Value) (Bs D : Nat) (st : LoopState) (pend : Option Code) : Loop :=
  { state := st, pending := pend, fn, tmps := #[.slice none 0 0, sv, .pointer (some ⟨Bs, 0, none⟩), undef, .slice none 0 0, undef, sv, undef, undef, undef, undef, undef, undef], params := #[7], assign := apAssD, body := apBodD, defers := D }

structure ApD (w0 : World) (fn : FuncId) (sv : Value) (Bs l D : Nat) (ss : List Dk) (W : World) : Prop where
  box : ∃ v, W.heap[Bs]? = some (.cells #[v] 22 (0, 0)) ∧ OwnE enDk W w0.heap.size 42 v ss ∧ (v = .slice none 0 0 ↔ ss = [])
  L : W.heap[l]? = some (.loop (apRecD fn sv Bs D .ready none))
  K : W.heap[D]? = some (.deferred (some []))
  below : Below w0.heap.size w0 W

theorem ap_abidesD (w0 : World) (fn : FuncId) (sv : Value) (Bs l D B : Nat) (hB : w0.heap.size ≤ B) : AbidesFrom B (ApD w0 fn sv Bs l D) := fun s W W' row h hg hrow => by
  have hrow' : ∀ r, row = some r → ∃ o : Obj, W.heap[r]? = some o ∧ o.isWalk = true := fun r e => (hrow r e).2
  obtain ⟨v, hv, hr, hn⟩ := h.box
  exact ⟨⟨v, (grownBy_keeps hg hrow' hv rfl).trans hv, ownsRow_abides_a hr hg hrow', hn⟩, (grownBy_keeps hg hrow' h.L rfl).trans h.L, (grownBy_keeps hg hrow' h.K rfl).trans h.K,
    h.below.grown hg h.below.size (fun k e => Nat.le_trans hB (hrow k e).1)⟩

theorem ne_dueD : (22 : TypeId) ≠ 42 := by decide
theorem infoDk : (Try.prog.info? 42).map (fun i => (i.zero, i.size, i.bytes)) = some (some (.agg #[.int .i64 0, .int .i64 0, .int .i64 0]), 3, 24) := by kernel_rfl

set_option maxRecDepth 100000 in
set_option maxHeartbeats 2000000 in
theorem apYieldD (F : Fence) (m : Nat) (w0 : World) (fn : FuncId) (hfn : F.fn fn) (sv : Value) (Bs l D : Nat) (hBl : Bs ≠ l) (hDl : D ≠ l) (hDB : D ≠ Bs) (h0B : w0.heap.size ≤ Bs) (h0l : w0.heap.size ≤ l)
    (N : Nat) (hN : N ≤ 1000000) (ss : List Dk) (x : Dk) (W : World) (h : ApD w0 fn sv Bs l D ss W) (hlen : ss.length < N) :
    YieldAt F m Try.prog l #[vDk x] W fun e W' => e = .returned (.bool true) ∧ ApD w0 fn sv Bs l D (ss ++ [x]) W' ∧ KeepsWalks W W' := by
  have hne := ne_dueD
  obtain ⟨i0, hi, hz0, hz1, hz2⟩ := info_parts infoDk
  obtain ⟨v, hv, hrow, _⟩ := h.box
  refine ⟨fn, #[.slice none 0 0, sv, .pointer (some ⟨Bs, 0, none⟩), undef, .slice none 0 0, undef, sv, vDk x, undef, undef, undef, undef, undef], apAssD, apBodD, by simpa [apRecD] using run_yield (P := Try.prog) (args := #[vDk x]) h.L rfl, roundIn_of_wpIn hfn ?_⟩
  dsimp only [vDk]
  unfold apAssD
  gi_wp2_with gi_round_op_a
  have hX := RowE.one1 enDk W x 42 #[.int .i64 x.1, .int .i64 x.2, .int .i64 0] W.heap.size rfl rfl
  obtain ⟨W1, hW1⟩ : ∃ W1, W.alloc (.cells #[.int .i64 x.1, .int .i64 x.2, .int .i64 0] 42) = W1 := ⟨_, rfl⟩
  have hg1 : W.grownBy W1 none := by rw [← hW1]; exact ⟨rfl, rfl, rfl, by simp, fun i hi _ => Below.heap_alloc W _ i hi⟩
  have h1 : ApD w0 fn sv Bs l D ss W1 := ap_abidesD w0 fn sv Bs l D W.heap.size h.below.size ss W W1 none h hg1 (fun r e => by cases e)
  have hkW : KeepsWalks W W1 := by rw [← hW1]; exact KeepsWalks.alloc _ _
  have hs1 : W1.heap.size = W.heap.size + 1 := by rw [← hW1]; simp
  have hlW : l < W.heap.size := (Array.getElem?_eq_some_iff.1 h.L).1
  have hXl : W1.heap[W.heap.size]? = some (.cells #[.int .i64 x.1, .int .i64 x.2, .int .i64 0] 42 (0, 0)) := by rw [← hW1]; exact World.alloc_heap_new W _
  have hBW : Bs < W.heap.size := by obtain ⟨u, hu, _⟩ := h.box; exact (Array.getElem?_eq_some_iff.1 hu).1
  have hvW : ∀ g, v.ownBlock = some g → g < W.heap.size := fun g e => (World.ownsRow.lt hrow g e).2
  rw [hW1] at hX ⊢
  clear hW1
  obtain ⟨v1, hv1, hrow1, _⟩ := h1.box
  obtain rfl : v1 = v := by
    have := (hg1.block Bs hBW (by simp)).trans hv
    rw [this] at hv1; simpa using hv1.symm
  have hl : l < W1.heap.size := (Array.getElem?_eq_some_iff.1 h1.L).1
  have hbr := run_beginRound (P := Try.prog) h1.L rfl
  obtain ⟨W2, hW2⟩ : ∃ W2, W1.putObj l (.loop { apRecD fn sv Bs D .ready none with state := .busy }) = W2 := ⟨_, rfl⟩
  rw [hW2] at hbr
  have hg2 : W1.grownBy W2 (some l) := by rw [← hW2]; exact grownBy_putObj_a _ _ _
  have hk2 : KeepsWalks W W2 := by rw [← hW2]; exact hkW.trans (KeepsWalks.putObj _ h1.L rfl)
  have hv2 : W2.heap[Bs]? = some (.cells #[v1] 22 (0, 0)) := by rw [← hW2]; exact (World.putObj_heap_other hBl).trans hv1
  have hx2 : W2.heap[W.heap.size]? = some (.cells #[.int .i64 x.1, .int .i64 x.2, .int .i64 0] 42 (0, 0)) := by rw [← hW2]; exact (World.putObj_heap_other (by omega)).trans hXl
  have hK2 : W2.heap[D]? = some (.deferred (some [])) := by rw [← hW2]; exact (World.putObj_heap_other hDl).trans h1.K
  have hL2 : W2.heap[l]? = some (.loop { apRecD fn sv Bs D .ready none with state := .busy }) := by rw [← hW2]; exact World.putObj_heap_same hl
  have hrow2 : OwnE enDk W2 w0.heap.size 42 v1 ss := World.ownsRow.kept hrow1 hg2 (ownsRow_ne_a hrow1 h1.L (fun cur e => by first | cases e | exact hne (Obj.cells.inj e).2.1))
  have hb2 : Below w0.heap.size w0 W2 := h1.below.grown hg2 h1.below.size (fun k e => by cases e; exact h0l)
  obtain ⟨hc2, hf2⟩ := cell_of_box_a hv2
  have hBlt : Bs < W2.heap.size := (Array.getElem?_eq_some_iff.1 hv2).1
  have hl2 : l < W2.heap.size := (Array.getElem?_eq_some_iff.1 hL2).1
  have hDlt : D < W2.heap.size := (Array.getElem?_eq_some_iff.1 hK2).1
  have x0 : W2.cell? ⟨W.heap.size, 0, none⟩ = some (.int .i64 x.1) := by simp [World.cell?, hx2]
  have x1 : W2.cell? ⟨W.heap.size, 1, none⟩ = some (.int .i64 x.2) := by simp [World.cell?, hx2]
  have x2 : W2.cell? ⟨W.heap.size, 2, none⟩ = some (.int .i64 0) := by simp [World.cell?, hx2]
  have ne_of : ∀ {j : Nat} {o : Obj}, W2.heap[j]? = some o → (∀ cur, o ≠ .cells cur 42 (0, 0)) → some j ≠ v1.ownBlock := fun hj hno => by
    rcases ownsRow_ne_a hrow2 hj hno with e | e
    · rw [e]; simp
    · exact fun e' => e e'.symm
  clear hW2
  have hN0 : RowE enDk (W2.alloc (.cells #[.int .i64 x.1, .int .i64 x.2, .int .i64 0] 42)) (some ⟨W2.heap.size, 0, none⟩) 1 [x] := RowE.one1 enDk W2 x _ _ _ rfl rfl
  refine ⟨W2, hbr, ?_⟩
  unfold apBodD
  gi_wp2_with (first
    | (gi_at_builtin; refine Hid.out ?_)
    | gi_round_op_a)
  refine Lib.hid ?_
  refine wpListIn_append_own _ rfl _ _ 22 rfl w0.heap.size 42 i0 (.agg #[.int .i64 0, .int .i64 0, .int .i64 0]) 3 24 Try.underlying22 hi hz0 hz1 hz2 rfl (by decide) _ ss.length (ss.flatMap enDk.cs) rfl (World.ownsRow.alloc hrow2 _) ⟨W2.heap.size, 0, none⟩ 1 1 (enDk.cs x) rfl rfl (news_one hN0) (enDk.one x) (by unfold maxLen; omega) (by omega) (by have := hb2.size; simp; omega) ?_
  intro v' w3 hown' hg3 hnil3
  have hv3 : w3.heap[Bs]? = some (.cells #[v1] 22 (0, 0)) := (hg3.block Bs (by simp; omega) (ne_of hv2 (fun cur e => by first | cases e | exact hne (Obj.cells.inj e).2.1))).trans ((Below.heap_alloc _ _ Bs hBlt).trans hv2)
  obtain ⟨hc3, hf3⟩ := cell_of_box_a hv3
  obtain ⟨g', cap', rfl⟩ : ∃ g' cap', v' = .slice (some ⟨g', 0, none⟩) (ss.length + 1) cap' := by
    rcases hown'.2 with ⟨_, h0⟩ | ⟨g', cap', cur', e', _⟩
    · exact absurd h0 (by omega)
    · exact ⟨g', cap', e'⟩
  have hg3' : (W2.alloc (.cells #[.int .i64 x.1, .int .i64 x.2, .int .i64 0] 42)).grownBy w3 v1.ownBlock := hg3
  clear hg3
  gi_wp2_with gi_round_op_a
  have hL3 : w3.heap[l]? = some (.loop { apRecD fn sv Bs D .ready none with state := .busy }) := (hg3'.block l (by simp; omega) (ne_of hL2 (fun cur e => by first | cases e | exact hne (Obj.cells.inj e).2.1))).trans ((Below.heap_alloc _ _ l hl2).trans hL2)
  have hK3 : w3.heap[D]? = some (.deferred (some [])) := (hg3'.block D (by simp; omega) (ne_of hK2 (fun cur e => by first | cases e | exact hne (Obj.cells.inj e).2.1))).trans ((Below.heap_alloc _ _ D hDlt).trans hK2)
  obtain ⟨w4, hw4⟩ : ∃ w4, w3.setCell ⟨Bs, 0, none⟩ (.slice (some ⟨g', 0, none⟩) (ss.length + 1) cap') = w4 := ⟨_, rfl⟩
  rw [hw4]
  have hg4 : w3.grownBy w4 (some Bs) := by rw [← hw4]; exact grownBy_setCell0_a _ _ _
  have hv4 : w4.heap[Bs]? = some (.cells #[.slice (some ⟨g', 0, none⟩) (ss.length + 1) cap'] 22 (0, 0)) := by rw [← hw4]; exact heap_setCell_box_a _ hv3
  have hL4 : w4.heap[l]? = some (.loop { apRecD fn sv Bs D .ready none with state := .busy }) := (hg4.block l (Array.getElem?_eq_some_iff.1 hL3).1 (fun e => hBl (by cases e; rfl))).trans hL3
  have hK4 : w4.heap[D]? = some (.deferred (some [])) := (hg4.block D (Array.getElem?_eq_some_iff.1 hK3).1 (fun e => hDB (by cases e; rfl))).trans hK3
  have hrow4 := hown'.kept hg4 (ownsRow_ne_a hown' hv3 (fun cur e => by first | cases e | exact hne (Obj.cells.inj e).2.1))
  have hl4 : l < w4.heap.size := (Array.getElem?_eq_some_iff.1 hL4).1
  have hb3 : Below w0.heap.size w0 w3 := (hb2.alloc hb2.size _).grown hg3' (by have := hb2.size; simp; omega) (fun k e => (World.ownsRow.lt hrow2 k e).1)
  have hb4 : Below w0.heap.size w0 w4 := hb3.grown hg4 hb3.size (fun k e => by cases e; exact h0B)
  have hk4 : KeepsWalks W w4 := ((hk2.trans (KeepsWalks.alloc _ _)).trans (KeepsWalks.of_grownBy hg3' (ownsRow_not_walk_a (World.ownsRow.alloc hrow2 _)))).trans (by rw [← hw4]; exact KeepsWalks.setCell _ _ _)
  clear hw4
  have hfl : (ss ++ [x]).flatMap enDk.cs = ss.flatMap enDk.cs ++ enDk.cs x := by simp
  refine ⟨_, _, run_endRound none hL4, rfl, ⟨⟨_, (World.putObj_heap_other hBl).trans hv4, ?_, by simp⟩, World.putObj_heap_same hl4, (World.putObj_heap_other hDl).trans hK4, hb4.grown (grownBy_putObj_a _ _ _) hb4.size (fun k e => by cases e; exact h0l)⟩, hk4.trans (KeepsWalks.putObj _ hL4 rfl)⟩
  have h9 := hrow4.kept (grownBy_putObj_a w4 l (.loop { { apRecD fn sv Bs D .ready none with state := .busy } with state := if (none : Option Code).isNone then .ready else .done, pending := none })) (ownsRow_ne_a hrow4 hL4 (fun cur e => by first | cases e | exact hne (Obj.cells.inj e).2.1))
  unfold OwnE
  rw [List.length_append, hfl]
  exact h9

set_option maxRecDepth 100000 in
set_option maxHeartbeats 2000000 in
/-- slices.AppendSeq(nil, seq). -/
theorem appendSeqD (F : Fence) (n : Nat) (h11 : F.fn 60) (hro : F.round = none) (hn : 2 ≤ n) (g : Nat) (lb : Array Value) (hFg : F.fn g) (eg : ∀ args w, (callFunc g args).run Try.prog w = .ok (.enter g args) w)
    (S : List Dk → Prop) (N : Nat) (hN : N ≤ 1000000) (w : World) (hseq : SeqGives F (n - 1) Try.prog g lb vDk S N w) :
    CallsIn F n Try.prog 60 #[.slice none 0 0, .func (.func g) #[] lb] w fun e w' => ∃ (v : Value) (ss : List Dk), e = .returned v ∧ S ss ∧ OwnE enDk w' w.heap.size 42 v ss ∧ (v = .slice none 0 0 ↔ ss = []) ∧ Grew w w' := by
  have h1 : 1 ≤ n := by omega
  have hne := ne_dueD
  refine callsIn_of_wp_marks Try.func60 rfl h11 ?_ hro
  simp only [Try.ntmps60, List.size_toArray, List.length_cons, List.length_nil, Nat.reduceAdd, Nat.reduceSub, Array.replicate_succ, Array.replicate_zero, List.push_toArray, List.append_toArray, List.nil_append, List.cons_append]
  gi_wp2
  refine wpIn_rangeFunc ?_
  intro fn hfn
  rw [hro]
  obtain ⟨W0, hW0⟩ : ∃ W0, w.alloc (.cells #[.slice none 0 0] 22) = W0 := ⟨_, rfl⟩
  have hs0 : W0.heap.size = w.heap.size + 1 := by rw [← hW0]; simp
  have hv0 : W0.heap[w.heap.size]? = some (.cells #[.slice none 0 0] 22 (0, 0)) := by rw [← hW0]; exact World.alloc_heap_new w _
  have hb0 : Below w.heap.size w W0 := by rw [← hW0]; exact (Below.refl _ w).alloc (Nat.le_refl _) _
  rw [hW0]
  obtain ⟨W1, hW1⟩ : ∃ W1, (W0.alloc (.deferred (some []))).alloc (.loop (apRecD fn (.func (.func g) #[] lb) w.heap.size W0.heap.size .ready none)) = W1 := ⟨_, rfl⟩
  have hold : ∀ k, k < W0.heap.size → W1.heap[k]? = W0.heap[k]? := fun k hk => by
    rw [← hW1]; exact (Below.heap_alloc _ _ k (by simp; omega)).trans (Below.heap_alloc _ _ k hk)
  have hb1 : Below w.heap.size w W1 := by rw [← hW1]; exact (hb0.alloc hb0.size _).alloc (by have := hb0.size; simp; omega) _
  have hs1 : W1.heap.size = W0.heap.size + 2 := by rw [← hW1]; simp
  have hM : ApD w fn (.func (.func g) #[] lb) w.heap.size (W0.heap.size + 1) W0.heap.size [] W1 :=
    ⟨⟨_, (hold w.heap.size (by omega)).trans hv0, OwnE.nil _ _ _ _, by simp⟩,
     by rw [← hW1]; have := World.alloc_heap_new (W0.alloc (.deferred (some []))) (.loop (apRecD fn (.func (.func g) #[] lb) w.heap.size W0.heap.size .ready none)); rwa [World.size_alloc] at this,
     by rw [← hW1]; exact (Below.heap_alloc _ _ _ (by simp)).trans (World.alloc_heap_new W0 _), hb1⟩
  refine ⟨W0.heap.size + 1, [{ target := .collected W0.heap.size, args := #[] }], W1, { target := .fn (.func g) lb, args := #[.func (.yield (W0.heap.size + 1)) #[] #[]] }, W1, g,
    #[.func (.yield (W0.heap.size + 1)) #[] #[]] ++ lb, W1, ?_, ?_, ?_, ?_, fun _ => h1, ?_⟩
  · rw [← hW1]; exact run_enterLoop_outer _ _ _ _ _
  · simp [resolve, go_sem]
  · intro f' hf'; simp [Target.leads] at hf'; subst hf'; exact hFg
  · simp [invoke, go_sem, eg]
  · refine (hseq (W0.heap.size + 1) (ApD w fn (.func (.func g) #[] lb) w.heap.size (W0.heap.size + 1) W0.heap.size) W1 hb1 (ap_abidesD _ _ _ _ _ _ _ hb1.size)
      (fun pre x W hJ hl => apYieldD F (n - 1 - 1) w fn hfn _ w.heap.size (W0.heap.size + 1) W0.heap.size (by omega) (by omega) (by omega) (Nat.le_refl _) (by omega) N hN pre x W hJ hl) hM).mono ?_
    rintro e W2 ⟨⟨v0, rfl⟩, ss, hS, h2⟩
    obtain ⟨v, hv, hrow, hnil⟩ := h2.box
    have hend := run_endLoop (P := Try.prog) h2.L (by simp [apRecD])
    obtain ⟨W3, hW3⟩ : ∃ W3, W2.putObj (W0.heap.size + 1) (.loop { apRecD fn (.func (.func g) #[] lb) w.heap.size W0.heap.size .ready none with state := .exhausted }) = W3 := ⟨_, rfl⟩
    rw [hW3] at hend
    have hg3 : W2.grownBy W3 (some (W0.heap.size + 1)) := by rw [← hW3]; exact grownBy_putObj_a _ _ _
    have hv3 : W3.heap[w.heap.size]? = some (.cells #[v] 22 (0, 0)) := by rw [← hW3]; exact (World.putObj_heap_other (by omega)).trans hv
    have hK3 : W3.heap[W0.heap.size]? = some (.deferred (some [])) := by rw [← hW3]; exact (World.putObj_heap_other (by omega)).trans h2.K
    have hrow3 := World.ownsRow.kept hrow hg3 (ownsRow_ne_a hrow h2.L (fun cur e => by first | cases e | exact hne (Obj.cells.inj e).2.1))
    have hb3 : Below w.heap.size w W3 := h2.below.grown hg3 h2.below.size (fun k e => by cases e; omega)
    obtain ⟨hc3, hf3⟩ := cell_of_box_a hv3
    clear hW3
    refine ⟨none, W3, hend, ?_⟩
    gi_wp2
    rw [← hs0]
    refine ⟨by simp, .inl ⟨_, _, rfl, run_takeDeferred hK3, ?_⟩⟩
    exact ⟨_, results_tmp rfl _ _ _, v, ss, rfl, hS, hrow3.kept (grownBy_putObj_a _ _ _) (ownsRow_ne_a hrow3 hK3 (fun cur e => by first | cases e | exact hne (Obj.cells.inj e).2.1)), hnil, hb3.grown (grownBy_putObj_a _ _ _) hb3.size (fun k e => by cases e; omega)⟩

set_option maxHeartbeats 1000000 in
/-- slices.Collect(seq). -/
theorem collectD (F : Fence) (n : Nat) (h8 : F.fn 41) (h11 : F.fn 60) (hro : F.round = none) (hn : 3 ≤ n) (g : Nat) (lb : Array Value) (hFg : F.fn g) (eg : ∀ args w, (callFunc g args).run Try.prog w = .ok (.enter g args) w)
    (S : List Dk → Prop) (N : Nat) (hN : N ≤ 1000000) (w : World) (hseq : SeqGives F (n - 1 - 1) Try.prog g lb vDk S N w) :
    CallsIn F n Try.prog 41 #[.func (.func g) #[] lb] w fun e w' => ∃ (v : Value) (ss : List Dk), e = .returned v ∧ S ss ∧ OwnE enDk w' w.heap.size 42 v ss ∧ (v = .slice none 0 0 ↔ ss = []) ∧ Grew w w' := by
  have h1 : 1 ≤ n := by omega
  refine callsIn_of_wp Try.func41 rfl h8 ?_ hro
  simp only [Try.ntmps41, List.size_toArray, List.length_cons, List.length_nil, Nat.reduceAdd, Nat.reduceSub, Array.replicate_succ, Array.replicate_zero, List.push_toArray, List.append_toArray, List.nil_append, List.cons_append]
  gi_wp2_with (gi_at_call 60; refine (appendSeqD F (n - 1) h11 hro (by omega) g lb hFg eg S N hN _ hseq).mono ?_; rintro e w' ⟨v, ss, rfl, hS, hrow, hnil, hb⟩)
  go_ret
  exact ⟨v, ss, rfl, hS, hrow, hnil, hb⟩

/-- maps.Keys(m) hands back an iterator over m's keys. -/
theorem keysGiveD (F : Fence) (n : Nat) (h10 : F.fn 43) (hro : F.round = none) (hn : 1 ≤ n) (Bm b nn : Nat) (g : Dk → Sv) (w : World) (hBm : Bm < w.heap.size)
    (hm : w.cell? ⟨Bm, 0, none⟩ = some (.map (some b))) (hown : MapD w b nn g) :
    SeqGives F n Try.prog 43 #[.pointer (some ⟨Bm, 0, none⟩)] vDk (KeysD g) nn w := fun l J W hW hJ hY h0 =>
  dkeys1_in F n h10 hro hn l Bm b nn g J hY W hJ ((hW.cell (p := ⟨Bm, 0, none⟩) hBm).trans hm) (hown.same (hW.block b hown.lt)) h0
/-- slices.SortedFunc(maps.Keys(m), order): the keys, rising. -/
def RiseD (g : Dk → Sv) (ks : List Dk) : Prop := ks.Pairwise ltK ∧ ∀ k, k ∈ ks ↔ (okDk k = true ∧ g k ≠ none)
set_option maxHeartbeats 1000000 in
theorem sortedD (Bm b nn : Nat) (g : Dk → Sv) (hN : nn ≤ 1000000) (w : World) (hBm : Bm < w.heap.size) (hm : w.cell? ⟨Bm, 0, none⟩ = some (.map (some b))) (hown : MapD w b nn g) :
    Calls Try.prog 22 #[.func (.func 43) #[] #[.pointer (some ⟨Bm, 0, none⟩)], .func (.func 24) #[] #[]] w fun e w' =>
      ∃ (v : Value) (ks : List Dk), e = .returned v ∧ RiseD g ks ∧ OwnE enDk w' w.heap.size 42 v ks ∧ ks.length ≤ nn ∧ Grew w w' := by
  have e43 : ∀ args w, (callFunc 43 args).run Try.prog w = .ok (.enter 43 args) w := enters_of Try.func43 (by kernel_rfl) rfl
  have C1 := callsIn_wide.1 (collectD Fence.wide 5 trivial trivial rfl (by omega) 43 #[.pointer (some ⟨Bm, 0, none⟩)] trivial e43 _ nn hN w (keysGiveD Fence.wide 3 trivial rfl (by omega) Bm b nn g w hBm hm hown).bounded)
  have C2 := fun (A : Option Addr) (c : Nat) (fv : Value) w => AnyF.slices_SortFunc_none Try.sortD A c fv w
  have C3 := fun (base g cap : Nat) (l : List Dk) (w : World) h1 h2 h3 h4 => sort_any base g cap l w h1 h2 h3 h4
  change ∀ A c fv w, Calls Try.prog 42 _ _ _ at C2
  clear hm hown e43 hBm
  go_enter Try.func22, Try.ntmps22
  go_wp2_with (go_at_call 41; (refine C1.mono ?_); rintro e w1 ⟨v, ss, rfl, ⟨hS, hlen⟩, hrow, hnil, hb⟩; refine Hid.out ?_)
  refine Lib.hid ?_
  have hO := hrow
  rcases hrow.2 with ⟨rfl, hz⟩ | ⟨g', cap, cur, rfl, hbase, hgb, r1, r2, r3, r4⟩
  · obtain rfl := hnil.1 rfl
    go_wp2_with (go_at_call 42; (refine (C2 _ _ _ _).mono ?_); rintro e w2 ⟨rfl, rfl⟩)
    go_ret
    exact ⟨_, [], rfl, ⟨List.Pairwise.nil, hS.2⟩, hO, Nat.zero_le _, hb⟩
  · have CS := C3 w.heap.size g' cap ss w1 hO hS.1 (by omega) hbase
    clear hgb r3 r4 hrow hnil
    go_wp2_with (go_at_call 42; (refine CS.mono ?_); rintro e w2 ⟨rfl, s, hp, hs, ho, hb2⟩)
    go_ret
    refine ⟨_, s, rfl, ⟨hs, fun k => (hp.mem_iff).trans (hS.2 k)⟩, ?_, by rw [hp.length_eq]; exact hlen, Below.trans hb hb2⟩
    have e := hp.length_eq
    rw [← e] at ho ⊢
    exact ho
end Go.Proofs.Ytlmnbafklefmcaa.NumK
namespace Go.Proofs.Ytlmnbafklefmcaa.NumK
open Go.RowKit Go.Maps
set_option linter.unusedVariables false

theorem mkeys_any (b : Nat) (w : World) : Calls Try.prog 23 #[.map (some b)] w fun e w' =>
    e = .returned (.func (.func 43) #[] #[.pointer (some ⟨w.heap.size, 0, none⟩)]) ∧ w' = w.alloc (.cells #[.map (some b)] 51) := by
  go_enter Try.func23, Try.ntmps23
  go_wp2
  go_ret
  exact ⟨rfl, rfl⟩

/-! ### what is known between two rounds -/
theorem gams_upd (l : List D3) (j : Nat) (h : j < l.length) : ∀ k, upd (fun k => gams (l.take j) k) (keyD (l.getD j (0, 0, 0))) (gams (l.take j) (keyD (l.getD j (0, 0, 0))) ++ [(l.getD j (0, 0, 0)).2.2]) k = gams (l.take (j + 1)) k := by
  intro k
  rw [gams_succ l k j h]
  by_cases e : k = keyD (l.getD j (0, 0, 0))
  · subst e
    rw [upd_at, if_pos ((isD_iff _ _).2 rfl)]
  · rw [upd_ne _ _ e]
    have : isD k (l.getD j (0, 0, 0)) = false := by
      rw [← Bool.not_eq_true, isD_iff]
      exact fun h => e h.symm
    rw [this]; simp
def NilAt (g : Dk → Sv) (l : List D3) : Prop := ∀ k, g k ≠ none ↔ ∃ d ∈ l, keyD d = k
theorem NilAt.start (l : List D3) : NilAt (fun _ => none) (l.take 0) := fun k => by simp
theorem NilAt.step {g : Dk → Sv} {l : List D3} {j : Nat} (h : NilAt g (l.take j)) (hj : j < l.length) {s : Sv} (hs : s ≠ none) : NilAt (upd g (keyD (l.getD j (0, 0, 0))) s) (l.take (j + 1)) := fun k => by
  rw [List.take_succ_eq_append_getElem hj, getD_at l (0, 0, 0) j hj]
  by_cases e : k = keyD l[j]
  · subst e
    rw [upd_at]
    exact ⟨fun _ => ⟨_, List.mem_append_right _ (by simp), rfl⟩, fun _ => hs⟩
  · rw [upd_ne _ _ e, h k]
    constructor
    · rintro ⟨d, hd, hk⟩; exact ⟨d, List.mem_append_left _ hd, hk⟩
    · rintro ⟨d, hd, hk⟩
      rcases List.mem_append.1 hd with hd | hd
      · exact ⟨d, hd, hk⟩
      · simp at hd; subst hd; exact absurd hk.symm e
theorem NilAt.keys {g : Dk → Sv} {l : List D3} (h : NilAt g l) (hk : ∀ d ∈ l, okDk (keyD d) = true) {ks : List Dk} (hr : RiseD g ks) : ks = keysD l :=
  extR ltK ltK_irr (fun _ _ _ => ltK_trans) _ _ hr.1 (rise_keysD l) fun k => by
    rw [hr.2 k, mem_keys, h k]
    exact ⟨fun h => h.2, fun ⟨d, hd, e⟩ => ⟨e ▸ hk d hd, d, hd, e⟩⟩
theorem sv_some {w : World} {base : Nat} {t : TypeId} {s : Sv} {l : List Int} {x : Int} (h : OwnE enInt w base t (vSv s) (l ++ [x])) : s ≠ none := by
  rintro rfl
  obtain ⟨A, c, he, -⟩ := h.form
  simp [vSv] at he

def NetPost (l : List D3) (w : World) (e : Ending) (w' : World) : Prop := ∃ v, e = .returned (.tuple #[v, .int .i64 (netE l)]) ∧ OwnE enD3 w' w.heap.size 42 v (netL l) ∧ Grew w w'
theorem net_no {l : List D3} {w w' : World} (h : l.all okD = false) (g : Grew w w') : NetPost l w (.returned (.tuple #[.slice none 0 0, .int .i64 3])) w' := by
  have e : netE l = 3 := by unfold netE; rw [h]; rfl
  refine ⟨_, by rw [e], ?_, g⟩
  unfold netL; rw [e]; exact OwnE.nil _ _ _ _
theorem net_big {l : List D3} {w w' : World} (h : l.all okD = true) {k : Dk} (hk : k ∈ keysD l) (hm : isMoney (grossV l k) = false) (g : Grew w w') : NetPost l w (.returned (.tuple #[.slice none 0 0, .int .i64 1])) w' := by
  have e : netE l = 1 := by
    unfold netE
    rw [h, if_pos rfl, if_neg]
    intro h2
    rw [List.all_eq_true] at h2
    have := h2 k hk
    rw [hm] at this; cases this
  refine ⟨_, by rw [e], ?_, g⟩
  unfold netL; rw [e]; exact OwnE.nil _ _ _ _
theorem net_yes {l : List D3} {w w' : World} {v : Value} (h : l.all okD = true) (hm : ∀ i, i < (keysD l).length → isMoney (grossV l ((keysD l).getD i (0, 0))) = true) (ho : OwnE enD3 w' w.heap.size 42 v ((keysD l).filterMap (netO l))) (g : Grew w w') : NetPost l w (.returned (.tuple #[v, .int .i64 0])) w' := by
  have e : netE l = 0 := by
    unfold netE
    rw [h, if_pos rfl, if_pos]
    rw [List.all_eq_true]
    intro k hk
    obtain ⟨i, hi, rfl⟩ := List.getElem_of_mem hk
    have := hm i hi
    rwa [getD_at _ (0, 0) i hi] at this
  refine ⟨_, by rw [e], ?_, g⟩
  rw [netL_ok e]; exact ho
theorem fm_succ {α β : Type} (f : α → Option β) (l : List α) (d : α) (j : Nat) (h : j < l.length) : (l.take (j + 1)).filterMap f = (l.take j).filterMap f ++ (f (l.getD j d)).toList := by
  rw [List.take_succ_eq_append_getElem h, List.filterMap_append, getD_at l d j h]
  congr 1
theorem infoD3 : (Try.prog.info? 42).map (fun i => (i.zero, i.size, i.bytes)) = some (some (vD3 (0, 0, 0)), 3, 24) := by kernel_rfl
theorem fm_len (l : List D3) (ks : List Dk) (j : Nat) : ((ks.take j).filterMap (netO l)).length ≤ j := Nat.le_trans (List.length_filterMap_le _ _) (by rw [List.length_take]; omega)
theorem RowE.dk {w : World} {n : Nat} {l : List Dk} {A : Option Addr} (h : RowE enDk w A n l) {j : Nat} (hj : j < n) : ∃ b o, A = some ⟨b, o, none⟩ ∧ b < w.heap.size ∧ ∀ j, j < n → w.cell? ⟨b, o + j * 3, none⟩ = some (.int .i64 (l.getD j (0, 0)).1) ∧ w.cell? ⟨b, o + j * 3 + 1, none⟩ = some (.int .i64 (l.getD j (0, 0)).2) ∧ w.cell? ⟨b, o + j * 3 + 2, none⟩ = some (.int .i64 0) := by
  have hl := h.len
  obtain ⟨b, o, e, hb, hc⟩ := h.at (by omega)
  refine ⟨b, o, e, hb, fun j hj => ?_⟩
  have hj' : j < l.length := by omega
  rw [getD_at l (0, 0) j hj']
  exact ⟨hc j hj' 0 (by decide), hc j hj' 1 (by decide), hc j hj' 2 (by decide)⟩

set_option maxRecDepth 100000 in
set_option maxHeartbeats 8000000 in
theorem net_any (A : Option Addr) (n c : Nat) (l : List D3) (w : World) (h : RowE enD3 w A n l) (hk : ∀ x ∈ l, okDk (keyD x) = true) (hn : n ≤ 100000) :
    Calls Try.prog 9 #[.slice A n c] w (NetPost l w) := by
  have C := nright_any A n c l w h (by omega)
  have HI := Lib.hid h
  have HL := Lib.hid h.len
  clear h
  cases hok : l.all okD
  · rw [hok] at C
    have HNO : Hid (∀ w', Grew w w' → NetPost l w (.returned (.tuple #[.slice none 0 0, .int .i64 3])) w') := fun w' g => net_no hok g
    generalize NetPost l w = PP at *
    go_enter Try.func9, Try.ntmps9
    go_wp2_with (go_at_call 21; ((with_reducible refine C.mono ?_); rintro e w1 ⟨rfl, hg⟩; have HG0 := Lib.hid hg; clear hg))
    exact HNO.out _ HG0.out
  rw [hok] at C
  have HK : Hid (∀ j, j < n → okDk (keyD (l.getD j (0, 0, 0))) = true) := fun j hj => hk _ (getD_mem l (0, 0, 0) j (by rw [HL.out]; exact hj))
  have HBIG : Hid (∀ k, k ∈ keysD l → isMoney (grossV l k) = false → ∀ w', Grew w w' → NetPost l w (.returned (.tuple #[.slice none 0 0, .int .i64 1])) w') := fun k hk hm w' g => net_big hok hk hm g
  have HYES : Hid ((∀ i, i < (keysD l).length → isMoney (grossV l ((keysD l).getD i (0, 0))) = true) → ∀ w' v, OwnE enD3 w' w.heap.size 42 v ((keysD l).filterMap (netO l)) → Grew w w' → NetPost l w (.returned (.tuple #[v, .int .i64 0])) w') := fun hm w' v ho g => net_yes hok hm ho g
  have HKS : Hid (∀ g ks, NilAt g l → RiseD g ks → ks = keysD l) := fun g ks h1 h2 => h1.keys hk h2
  have HSUM : Hid (∀ k, sumV (gams l k) = grossR l k ∧ sumE (gams l k) = grossE l k) := fun k => gross_sum hok k
  have HGE : Hid (∀ k, grossE l k = if isMoney (grossV l k) then 0 else 1) := fun k => by show _ = _; unfold grossE; rw [hok]; rfl
  have hmm := @run_makeMap Try.prog
  clear hk hok
  generalize NetPost l w = PP at *
  go_enter Try.func9, Try.ntmps9
  go_wp2_with (go_at_call 21; ((with_reducible refine C.mono ?_); rintro e w0 ⟨rfl, hg⟩; have HGR := Lib.hid hg; clear hg))
  have HM0 := Lib.hid (MapD.new w0)
  have HG0 : Hid (Grew w (w0.alloc (.map #[] 0))) := HGR.out.alloc HGR.out.size _
  have HZ0 : Hid (w0.heap.size + 1 ≤ (w0.alloc (.map #[] 0)).heap.size) := by show _ ≤ _; simp
  clear hmm
  have HMW : Hid (w.heap.size ≤ w0.heap.size) := HGR.out.size
  clear HGR C
  obtain ⟨M, hM⟩ : ∃ M, M = w0.heap.size := ⟨_, rfl⟩
  rw [← hM] at HM0 HZ0 HMW ⊢
  generalize w0.alloc (.map #[] 0) = w1 at *
  clear hM
  go_loopw [19] (fun v19 wr => ∃ (j : Nat) (g : Dk → Sv), v19 = .int .i64 j ∧ j ≤ n ∧ Hid (MapD wr M j g) ∧ Hid (NilAt g (l.take j)) ∧ Hid (Fam enInt wr (M + 1) 3 (fun k => vSv (g k)) (fun k => gams (l.take j) k)) ∧ Hid (Grew w wr) ∧ Hid (M + 1 ≤ wr.heap.size)) (fun v19 _ => n - (intOf v19).toNat)
  case atStart => exact ⟨0, fun _ => none, rfl, by omega, HM0.out, NilAt.start l, (Fam.nil enInt w1 (M + 1) 3).congr fun k => rfl, HG0.out, HZ0.out⟩
  case round =>
    clear HM0 HG0 HZ0
    obtain ⟨j, g, rfl, hj, HS, HNI, HF, HG, HZ⟩ := hrel
    by_cases hlt : j < n
    · have hjl : j < l.length := by rw [HL.out]; exact hlt
      obtain ⟨b, o, rfl, hb, hc⟩ := (HI.out.keep HG.out).rD3 hlt
      obtain ⟨a0, a1, a2⟩ := hc j hlt
      have hok := HK.out j hlt
      have HRS := Lib.hid (gams_upd l j hjl)
      have HRL := Lib.hid (gams_len l (keyD (l.getD j (0, 0, 0))) j)
      have HNS : Hid (∀ s, s ≠ none → NilAt (upd g (keyD (l.getD j (0, 0, 0))) s) (l.take (j + 1))) := fun s hs => HNI.out.step hjl hs
      have i0 : (0 : Int) ≤ (j : Int) := by omega
      have i1 : (j : Int) < (n : Int) := by omega
      clear hc hb HBIG HYES HKS HSUM HGE
      generalize l.getD j (0, 0, 0) = x at *
      obtain ⟨q1, q2, q3⟩ := x
      dsimp only at a0 a1 a2 HRS
      have hkey : keyD (q1, q2, q3) = (q1, q2) := rfl
      rw [hkey] at hok HRS HRL HNS
      obtain ⟨wa, hwa⟩ : ∃ wa, ((wr.alloc (.cells #[.int .i64 q1, .int .i64 q2, .int .i64 q3] 42)).alloc (.cells #[.int .i64 q1, .int .i64 q2, .int .i64 0] 42)).alloc (.cells #[.int .i64 q3] 3) = wa := ⟨_, rfl⟩
      have HGA : Hid (Grew wr wa) := by rw [← hwa]; exact grew_trans (grew_trans (grew_alloc _ _ _) (grew_alloc _ _ _)) (grew_alloc _ _ _)
      have HRE : Hid (RowE enInt wa (some ⟨wr.heap.size + 2, 0, none⟩) 1 [q3]) := by rw [← hwa]; exact RowE.one1 enInt _ _ _ _ _ (by simp) rfl
      have HSZ : Hid (wr.heap.size + 3 ≤ wa.heap.size) := by show _ ≤ _; rw [← hwa]; simp
      obtain ⟨st, w2, hme, hg2, hfd⟩ := (HS.out.keep HGA.out).entry (q1, q2) hok (by unfold maxLen; omega)
      have HFD := Lib.hid hfd
      have HF2 : Hid (Fam enInt w2 (M + 1) 3 (fun k => vSv (g k)) (fun k => gams (l.take j) k)) := (HF.out.keep HGA.out).kept hg2 fun k e => by have := (HF.out.lt k e).1; omega
      have HR2 : Hid (RowE enInt w2 (some ⟨wr.heap.size + 2, 0, none⟩) 1 [q3]) := HRE.out.grown hg2 (by intro e; have := HZ.out; simp at e; omega)
      have HZ2 : Hid (M + 1 ≤ w2.heap.size) := by have := HZ.out; have := HSZ.out; have := hg2.size; show _ ≤ _; omega
      have HG2 : Hid (Grew w w2) := Below.grown (grew_trans HG.out HGA.out) hg2 (Nat.le_trans HG.out.size HGA.out.size) fun k hk => by cases hk; exact HMW.out
      dsimp only [vDk] at hme
      rw [← hwa] at hme
      clear hg2 hfd HF HRE HS hwa HGA HSZ
      go_wp2_with (at_builtin; refine Hid.out ?_)
      refine Lib.hid ?_
      refine (wpList_fam (E := enInt) (base := M + 1) (q1, q2) rfl _ _ 52 (.int .i64 0) 8 rfl Try.underlying52 info_int1 rfl HF2.out rfl _ q3 rfl HR2.out (by have := HRL.out; unfold maxLen; omega) (by have := HRL.out; omega) HZ2.out ?_)
      intro v3 w3 hf3 hb3 hg3
      have h9 := hf3.own (q1, q2)
      rw [upd_at, upd_at] at h9
      obtain ⟨s, rfl⟩ := h9.sv
      have hs := sv_some h9
      obtain ⟨w4, hes, hm4, hg4⟩ := HFD.out.store w3 s hs (hg3.block M (by have := HZ2.out; omega) (by intro e; have := (HF2.out.lt (q1, q2) e.symm).1; omega))
      have HS4 := Lib.hid hm4
      have HN4 := Lib.hid (HNS.out s hs)
      have HF4 : Hid (Fam enInt w4 (M + 1) 3 (fun k => vSv (upd g (q1, q2) s k)) (fun k => gams (l.take (j + 1)) k)) := (hf3.kept hg4 fun k e => (by have := (hf3.lt k e).1; omega)).cong2 (upd_vSv g (q1, q2) s) HRS.out
      have HG4 : Hid (Grew w w4) := Below.grown (Below.trans HG2.out (Below.mono hb3 (Nat.le_trans HMW.out (Nat.le_succ _)))) hg4 (Nat.le_trans HG2.out.size hb3.size) (fun k hk => by cases hk; exact HMW.out)
      have HZ4 : Hid (M + 1 ≤ w4.heap.size) := Nat.le_trans HZ2.out (Nat.le_trans hb3.size hg4.size)
      clear hf3 hb3 hg3 hm4 hg4 h9
      go_wp2
      clear hme hes HF2 HR2 HG2 HZ2 HFD a0 a1 a2
      go_roundw
      case rel => exact ⟨j + 1, _, by go_num, by omega, HS4.out, HN4.out, HF4.out, HG4.out, HZ4.out⟩
      case measure => simp only [intOf]; omega
    · obtain rfl : j = n := by omega
      have ht : l.take j = l := List.take_of_length_le (by rw [HL.out]; exact Nat.le_refl _)
      rw [ht] at HF HNI
      clear ht HK hlt hj
      have CK := fun w => mkeys_any M w
      have CS := fun Bm (W : World) hBm hm hown => sortedD Bm M j g (by omega) W hBm hm hown
      generalize wr = wB at *
      go_wp2_with (first
        | (go_at_call 23; ((with_reducible refine (CK _).mono ?_); rintro e w5 ⟨rfl, rfl⟩))
        | (go_at_call 22; ((with_reducible refine (CS _ _ (by simp) (by simp) (HS.out.keep (grew_alloc _ _ _))).mono ?_); rintro e w6 ⟨v6, ks, rfl, hr6, ho6, hl6, hg6⟩; refine Hid.out ?_)))
      refine Lib.hid ?_
      have hks := HKS.out g ks HNI.out hr6
      subst hks
      have HOKK : Hid (∀ i, i < (keysD l).length → okDk ((keysD l).getD i (0, 0)) = true) := fun i hi => ((hr6.2 _).1 (getD_mem _ (0, 0) i hi)).1
      have HMEM : Hid (∀ i, i < (keysD l).length → (keysD l).getD i (0, 0) ∈ keysD l) := fun i hi => getD_mem _ (0, 0) i hi
      have HG6 : Hid (Grew wB w6) := grew_trans (grew_alloc _ _ _) hg6
      obtain ⟨B, cB, rfl, hrB, -, -, -⟩ := ho6.form
      have HRB := Lib.hid hrB
      have HLE : Hid ((keysD l).length ≤ j) := hl6
      have HALEN : Hid (∀ k, (gams l k).length ≤ j) := fun k => by have := gams_len l k l.length; rw [List.take_length, HL.out] at this; exact this
      clear hr6 hrB ho6 hl6 hg6 CK CS HKS HNI HI
      have HGW6 : Hid (Grew w w6) := grew_trans HG.out HG6.out
      have HS6 := Lib.hid (HS.out.keep HG6.out)
      have HF6 := Lib.hid (HF.out.keep HG6.out)
      clear HS HF HG HG6 HZ HMW
      generalize w6 = wC at *
      go_wp2
      go_loopw [8, 42] (fun v8 v42 wr => ∃ i : Nat, v42 = .int .i64 i ∧ i ≤ (keysD l).length ∧ Hid (OwnE enD3 wr wC.heap.size 42 v8 (((keysD l).take i).filterMap (netO l))) ∧ Hid (∀ t, t < i → isMoney (grossV l ((keysD l).getD t (0, 0))) = true) ∧ Hid (Grew wC wr)) (fun _ v42 _ => (keysD l).length - (intOf v42).toNat)
      case atStart => exact ⟨0, rfl, by omega, OwnE.nil _ _ _ _, fun t ht => by omega, grew_refl _⟩
      case round =>
        obtain ⟨i, rfl, hi, HO, HT, HGC⟩ := hrel
        by_cases hlt : i < (keysD l).length
        · obtain ⟨b, o, rfl, hb, hc⟩ := (HRB.out.keep HGC.out).dk hlt
          obtain ⟨a0, a1, a2⟩ := hc i hlt
          have hi9 : i < 100000 := by have := HLE.out; omega
          have hokk := HOKK.out i hlt
          have hmem := HMEM.out i hlt
          have HFM := Lib.hid (fm_succ (netO l) (keysD l) (0, 0) i hlt)
          have HFL := Lib.hid (fm_len l (keysD l) i)
          have HT1 : Hid (isMoney (grossV l ((keysD l).getD i (0, 0))) = true → ∀ t, t < i + 1 → isMoney (grossV l ((keysD l).getD t (0, 0))) = true) := fun h t ht => by
            rcases Nat.lt_or_ge t i with h1 | h1
            · exact HT.out t h1
            · obtain rfl : t = i := by omega
              exact h
          have HBG := Lib.hid (HBIG.out _ hmem)
          obtain ⟨A3, c3, hv3, hr3, -, -, -⟩ := ((HF6.out.own ((keysD l).getD i (0, 0))).keep HGC.out).form
          have hlk := ((HS6.out.keep HGC.out).keep (grew_alloc wr #[.int .i64 ((keysD l).getD i (0, 0)).1, .int .i64 ((keysD l).getD i (0, 0)).2, .int .i64 0] 42)).look _ hokk
          rw [hv3] at hlk
          have CS := fun w' (g : Grew wr w') => sum_any A3 _ c3 (gams l ((keysD l).getD i (0, 0))) w' (ints_of_E (hr3.keep g)) (by have := HALEN.out ((keysD l).getD i (0, 0)); omega)
          obtain ⟨s1, s2⟩ := HSUM.out ((keysD l).getD i (0, 0))
          have HE := Lib.hid (HGE.out ((keysD l).getD i (0, 0)))
          have HR : Hid (grossR l ((keysD l).getD i (0, 0)) = if grossE l ((keysD l).getD i (0, 0)) = 0 then grossV l ((keysD l).getD i (0, 0)) else 0) := rfl
          have HNO : Hid (netO l ((keysD l).getD i (0, 0)) = if grossV l ((keysD l).getD i (0, 0)) = 0 then none else some (((keysD l).getD i (0, 0)).1, ((keysD l).getD i (0, 0)).2, grossV l ((keysD l).getD i (0, 0)))) := rfl
          rw [s1, s2] at CS
          have i0 : (0 : Int) ≤ (i : Int) := by omega
          have i1 : (i : Int) < ((keysD l).length : Int) := by omega
          have HPN := Lib.hid (OwnC.new wr [.int .i64 ((keysD l).getD i (0, 0)).1, .int .i64 ((keysD l).getD i (0, 0)).2, .int .i64 0] 42 _ rfl)
          have HW : Hid (wC.heap.size ≤ wr.heap.size) := HGC.out.size
          clear hc hb HOKK HMEM HBIG HYES hv3 hr3 s1 s2 HSUM HGE hmem hokk HF6 HS6 HRB HALEN HT
          generalize (gams l ((keysD l).getD i (0, 0))).length = n3 at *
          generalize grossR l ((keysD l).getD i (0, 0)) = R at *
          generalize grossE l ((keysD l).getD i (0, 0)) = E at *
          generalize netO l ((keysD l).getD i (0, 0)) = NO at *
          generalize grossV l ((keysD l).getD i (0, 0)) = G at *
          generalize ((keysD l).take i).filterMap (netO l) = lj at *
          generalize (keysD l).getD i (0, 0) = k at *
          obtain ⟨k1, k2⟩ := k
          dsimp only [vDk] at a0 a1 a2 hlk HPN HNO
          have HGA : Hid (Grew wC (wr.alloc (.cells #[.int .i64 k1, .int .i64 k2, .int .i64 0] 42))) := grew_trans HGC.out (grew_alloc _ _ _)
          have HOA := Lib.hid (HO.out.keep (grew_alloc wr #[.int .i64 k1, .int .i64 k2, .int .i64 0] 42))
          have CX := CS _ (grew_alloc wr #[.int .i64 k1, .int .i64 k2, .int .i64 0] 42)
          clear CS
          cases hm : isMoney G
          · rw [hm] at HE
            obtain rfl : E = 1 := HE.out
            clear HPN HOA HO HFM HNO HT1
            go_wp2_with (go_at_call 25; ((with_reducible refine CX.mono ?_); rintro e w7 ⟨rfl, hg⟩; have HG7 := Lib.hid (grew_trans HGW6.out (grew_trans HGA.out hg)); clear hg))
            exact HBG.out hm _ HG7.out
          · rw [hm] at HE
            obtain rfl : E = 0 := HE.out
            obtain rfl : R = G := HR.out
            have HT2 := Lib.hid (HT1.out hm)
            clear HT1 HBG HE HR
            by_cases hz : R = 0
            · subst hz
              obtain rfl : NO = none := HNO.out
              have HFM2 : Hid (((keysD l).take (i + 1)).filterMap (netO l) = lj) := by show _ = _; rw [HFM.out]; simp
              go_wp2_with (go_at_call 25; ((with_reducible refine CX.mono ?_); rintro e w7 ⟨rfl, hg⟩; have HG7 := Lib.hid (grew_trans HGA.out hg); have HO7 := Lib.hid (HOA.out.keep hg); clear hg))
              go_roundw
              case rel => exact ⟨i + 1, by go_num, by omega, by rw [HFM2.out]; exact HO7.out, HT2.out, HG7.out⟩
              case measure => simp only [intOf]; omega
            · obtain rfl : NO = some (k1, k2, R) := by have := HNO.out; rw [if_neg hz] at this; exact this
              have d0 : (R == 0) = false := by simpa using hz
              clear hz HNO
              go_wp2_with (go_at_call 25; ((with_reducible refine CX.mono ?_); rintro e w7 ⟨rfl, hg⟩; have HG7 := Lib.hid (grew_trans HGA.out hg); have HO7 := Lib.hid (HOA.out.keep hg); have HP7 := Lib.hid (HPN.out.keep hg); have p0 : w7.cell? ⟨wr.heap.size, 0, none⟩ = some (.int .i64 k1) := HP7.out.at 0 _ rfl; have p1 : w7.cell? ⟨wr.heap.size, 1, none⟩ = some (.int .i64 k2) := HP7.out.at 1 _ rfl; clear hg; refine Hid.out ?_))
              refine Lib.hid ?_
              go_wp2_with (at_builtin; refine Hid.out ?_)
              refine Lib.hid ?_
              have HFM2 : Hid (((keysD l).take (i + 1)).filterMap (netO l) = lj ++ [(k1, k2, R)]) := HFM.out
              refine (wpList_append_E rfl _ _ 22 42 (vD3 (0, 0, 0)) 24 rfl Try.underlying22 infoD3 rfl wC.heap.size _ lj rfl (HO7.out.keep (grew_alloc _ _ _)) _ 1 1 [(k1, k2, R)] rfl (by intro h; cases h) (RowE.one1 enD3 _ _ _ _ _ (by simp) rfl) (by have := HFL.out; simp; unfold maxLen; omega) (by have := HFL.out; simp; omega) (Nat.le_trans HG7.out.size (by simp)) ?_)
              intro v' w' ho hb
              have HP := Lib.hid ho
              have HB : Hid (Grew wC w') := Below.trans (grew_trans HG7.out (grew_alloc _ _ _)) hb
              clear ho hb
              go_wp2
              go_roundw
              case rel => exact ⟨i + 1, by go_num, by omega, by rw [HFM2.out]; exact HP.out, HT2.out, HB.out⟩
              case measure => simp only [intOf]; omega
        · obtain rfl : i = (keysD l).length := by omega
          rw [List.take_length] at HO
          go_wp2
          exact HYES.out HT.out _ _ (HO.out.mono (HGW6.out.size)) (grew_trans HGW6.out HGC.out)
end Go.Proofs.Ytlmnbafklefmcaa.NumK
namespace Go.Proofs.Ytlmnbafklefmcaa.NumK
open Go.RowKit Go.Maps
set_option linter.unusedVariables false

def lessD (x y : D3) : Bool := decide (ltK (keyD x) (keyD y))
set_option maxRecDepth 100000 in
theorem rless_any (x y : D3) (w : World) : Calls Try.prog 27 #[vD3 x, vD3 y] w fun e w' => e = .returned (.bool (lessD x y)) ∧ Grew w w' := by
  obtain ⟨x1, x2, x3⟩ := x
  obtain ⟨y1, y2, y3⟩ := y
  have h1 : x1 < y1 ∨ ¬ x1 < y1 := by omega
  have h2 : x1 = y1 ∨ ¬ x1 = y1 := by omega
  have h3 : x2 < y2 ∨ ¬ x2 < y2 := by omega
  have HV : Hid (lessD (x1, x2, x3) (y1, y2, y3) = decide (x1 < y1 ∨ (x1 = y1 ∧ x2 < y2))) := rfl
  generalize lessD (x1, x2, x3) (y1, y2, y3) = V at *
  dsimp only [vD3]
  go_enter Try.func27, Try.ntmps27
  rcases h1 with h1 | h1
  · obtain rfl : V = true := by have := HV.out; simp [h1] at this; exact this
    clear HV h2 h3
    go_wp2
    go_ret
    exact ⟨rfl, grew_trans (grew_alloc _ _ _) (grew_alloc _ _ _)⟩
  · rcases h2 with h2 | h2
    · subst h2
      rcases h3 with h3 | h3
      · obtain rfl : V = true := by have := HV.out; simp [h3] at this; exact this
        clear HV
        go_wp2
        go_ret
        exact ⟨rfl, grew_trans (grew_alloc _ _ _) (grew_alloc _ _ _)⟩
      · obtain rfl : V = false := by have := HV.out; simp [h3] at this; exact this
        clear HV
        go_wp2
        go_ret
        exact ⟨rfl, grew_trans (grew_alloc _ _ _) (grew_alloc _ _ _)⟩
    · obtain rfl : V = false := by have := HV.out; simp [h1, h2] at this; exact this
      have d0 : (x1 == y1) = false := by simpa using h2
      clear HV h2 h3
      go_wp2
      go_ret
      exact ⟨rfl, grew_trans (grew_alloc _ _ _) (grew_alloc _ _ _)⟩
end Go.Proofs.Ytlmnbafklefmcaa.NumK
