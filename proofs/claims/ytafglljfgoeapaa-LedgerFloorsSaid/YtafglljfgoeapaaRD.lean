/- Accounts: what is one; the program's and the reference's (cut out of AcctA, AcctB). -/
import Derived.Test.YtafglljfgoeapaaRA2
import Derived.Deep.QuietTactic
import Derived.BigQuiet
import Derived.Deep.DeepCutAuto
import Derived.Deep.Light
import Derived.BigRegion
import Derived.Deep.CutBlock
import Derived.Test.YtafglljfgoeapaaRA
namespace Go.Proofs.Ytafglljfgoeapaa.NumK
open Go.RowKit

/-- Kind, Who, Cur. -/
abbrev Ac := Int × Int × Int
def acV (k m c : Int) : Value := .agg #[.int .i64 k, .int .i64 m, .int .i64 c]
def enAc : En Ac := ⟨3, fun a => [.int .i64 a.1, .int .i64 a.2.1, .int .i64 a.2.2], fun _ => rfl, fun a v hv => by
  simp at hv; rcases hv with rfl | rfl | rfl <;> rfl, by decide⟩

def ownedK (k : Int) : Bool := decide (k = 2) || decide (k = 3)
def rightA (k m c : Int) : Bool := decide (1 ≤ k ∧ k ≤ 6) && decide (0 ≤ c ∧ c < 3) && (if ownedK k then decide (1 ≤ m ∧ m ≤ 16) else decide (m = 0))

def sameA (k m c k' m' c' : Int) : Bool := decide (k = k') && decide (m = m') && decide (c = c')

theorem owned_any (k : Int) (w : World) : Calls Try.prog 64 #[.int .i64 k] w fun e w' => e = .returned (.bool (ownedK k)) ∧ w = w' := by
  go_enter Try.func64, Try.ntmps64
  go_wp2
  all_goals go_ret
  all_goals exact ⟨ret_b (by rw [Bool.eq_iff_iff]; simp_all [ownedK]), rfl⟩

theorem whos_any (k : Int) (w : World) : Calls Try.prog 58 #[.int .i64 k] w fun e w' => e = .returned (.tuple #[.int .i64 (if ownedK k then 1 else 0), .int .i64 (if ownedK k then 16 else 0)]) ∧ w = w' := by
  have C := owned_any k
  generalize ownedK k = b at *
  go_enter Try.func58, Try.ntmps58
  go_wp2_with (go_at_call 64; ((with_reducible refine (C _).mono ?_); rintro e w' ⟨rfl, rfl⟩))
  all_goals go_ret2
  all_goals exact ⟨by simp_all, rfl⟩

theorem keepAcct_any (k m c k' m' c' : Int) (w : World) : Calls Try.prog 24 #[acV k m c, acV k' m' c'] w fun e w' => e = .returned (.bool (sameA k m c k' m' c')) ∧ Grew w w' := by
  unfold acV
  go_enter Try.func24, Try.ntmps24
  go_wp2
  all_goals go_ret
  all_goals exact ⟨ret_b (by rw [Bool.eq_iff_iff]; simp_all [sameA]), grew_trans (grew_alloc _ _ _) (grew_alloc _ _ _)⟩

theorem aright_any (k m c : Int) (w : World) : Calls Try.prog 44 #[acV k m c] w fun e w' => e = .returned (.bool (rightA k m c)) ∧ Grew w w' := by
  have C := whos_any k
  unfold acV
  go_enter Try.func44, Try.ntmps44
  go_wp2_with (go_at_call 58; ((with_reducible refine (C _).mono ?_); rintro e w' ⟨rfl, rfl⟩))
  all_goals go_ret
  all_goals exact ⟨ret_b (by clear C; rw [Bool.eq_iff_iff]; simp_all [rightA] <;> omega), grew_alloc _ _ _⟩

theorem right_in {k m c : Int} (hr : rightA k m c = true) : (1 ≤ k ∧ k ≤ 6) ∧ (0 ≤ m ∧ m < 100) ∧ (0 ≤ c ∧ c < 100) := by
  simp only [rightA, Bool.and_eq_true, decide_eq_true_eq] at hr
  obtain ⟨⟨h1, h2⟩, h3⟩ := hr
  split at h3 <;> simp at h3 <;> omega

theorem r8right_any (k m c : Int) (w : World) : Calls Try.prog 27 #[acV k m c] w fun e w' => e = .returned (.bool (rightA k m c)) ∧ Grew w w' := by
  unfold acV
  go_enter Try.func27, Try.ntmps27
  go_wp2
  all_goals go_ret
  all_goals exact ⟨ret_b (by rw [Bool.eq_iff_iff]; simp_all [rightA, ownedK] <;> omega), grew_alloc _ _ _⟩
end Go.Proofs.Ytafglljfgoeapaa.NumK
namespace Go.Proofs.Ytafglljfgoeapaa.NumK
open Go.RowKit

def whoAcs (k m : Int) : List Ac := [(k, m, 0), (k, m, 1), (k, m, 2)]
/-- n members' accounts from the first on. -/
def whosAcs (k f : Int) (n : Nat) : List Ac := (List.range n).flatMap fun i : Nat => whoAcs k (f + i)
def kindL (k : Int) : List Ac := if ownedK k then whosAcs k 1 16 else whosAcs k 0 1
def allTo (kinds : List Int) (n : Nat) : List Ac := (List.range n).flatMap fun i : Nat => if kinds.contains ((i : Int) + 1) then kindL ((i : Int) + 1) else []
def allL (kinds : List Int) : List Ac := allTo kinds 6

theorem whosAcs_succ (k f : Int) (n : Nat) : whosAcs k f (n + 1) = whosAcs k f n ++ whoAcs k (f + n) := by
  unfold whosAcs
  rw [List.range_succ, List.flatMap_append]; simp
theorem allTo_succ (kinds : List Int) (n : Nat) : allTo kinds (n + 1) = allTo kinds n ++ (if kinds.contains ((n : Int) + 1) then kindL ((n : Int) + 1) else []) := by
  unfold allTo
  rw [List.range_succ, List.flatMap_append]; simp
theorem whosAcs_len (k f : Int) (n : Nat) : (whosAcs k f n).length = n * 3 := by
  induction n with
  | zero => rfl
  | succ n ih => rw [whosAcs_succ, List.length_append, ih]; simp [whoAcs]; omega
theorem kindL_len (k : Int) : (kindL k).length ≤ 48 := by
  unfold kindL; split <;> rw [whosAcs_len] <;> omega
theorem allTo_len (kinds : List Int) (n : Nat) : (allTo kinds n).length ≤ n * 48 := by
  induction n with
  | zero => simp [allTo]
  | succ n ih =>
    rw [allTo_succ, List.length_append]
    have := kindL_len ((n : Int) + 1)
    split
    · omega
    · simp only [List.length_nil]; omega

theorem info_ac : (Try.prog.info? 27).map (fun i => (i.zero, i.size, i.bytes)) = some (some (acV 0 0 0), 3, 24) := by kernel_rfl
theorem rowE_one (w : World) (k m c : Int) (t : TypeId) (N : Nat) (hN : w.heap.size = N) : RowE enAc (w.alloc (.cells #[.int .i64 k, .int .i64 m, .int .i64 c] t)) (some ⟨N, 0, none⟩) 1 [(k, m, c)] := by
  subst hN
  refine ⟨rfl, fun _ => ⟨_, _, rfl, by simp, fun j hj => ?_⟩⟩
  have : j = 0 := by simpa using hj
  subst this
  refine ⟨_, rfl, fun i hi => ?_⟩
  have hi : i < 3 := hi
  match i, hi with
  | 0, _ => simp [enAc]
  | 1, _ => simp [enAc]
  | 2, _ => simp [enAc]

/-- An account of a row, cell by cell. -/
theorem RowE.ac {w : World} {n : Nat} {l : List Ac} {A : Option Addr} (h : RowE enAc w A n l) {j : Nat} (hj : j < n) :
    ∃ b o, A = some ⟨b, o, none⟩ ∧ b < w.heap.size ∧ w.cell? ⟨b, o + j * 3, none⟩ = some (.int .i64 (l.getD j (0, 0, 0)).1) ∧ w.cell? ⟨b, o + j * 3 + 1, none⟩ = some (.int .i64 (l.getD j (0, 0, 0)).2.1) ∧ w.cell? ⟨b, o + j * 3 + 2, none⟩ = some (.int .i64 (l.getD j (0, 0, 0)).2.2) := by
  have hl := h.len
  obtain ⟨b, o, e, hb, hc⟩ := h.at (by omega)
  have hj' : j < l.length := by omega
  have e1 : l.getD j (0, 0, 0) = l[j] := by simp [List.getD, hj']
  rw [e1]
  exact ⟨b, o, e, hb, hc j hj' 0 (by decide), hc j hj' 1 (by decide), hc j hj' 2 (by decide)⟩

theorem sameA_iff (a b : Ac) : sameA a.1 a.2.1 a.2.2 b.1 b.2.1 b.2.2 = decide (a = b) := by
  rw [Bool.eq_iff_iff]
  simp [sameA, Prod.ext_iff, and_assoc]

theorem take_snoc {α : Type} (l : List α) (k : Nat) (d : α) (h : k < l.length) : l.take (k + 1) = l.take k ++ [l.getD k d] := by
  rw [List.take_succ_eq_append_getElem h]; simp [List.getD, h]

def allK : List Ac := allL [1, 2, 3, 4, 5, 6]

theorem allK_right : ∀ a ∈ allK, rightA a.1 a.2.1 a.2.2 = true := by decide +kernel

theorem mem_fin : ∀ k : Fin 7, ∀ m : Fin 17, ∀ c : Fin 3, rightA (k.val : Int) (m.val : Int) (c.val : Int) = true → ((k.val : Int), (m.val : Int), (c.val : Int)) ∈ allK := by decide +kernel
theorem mem_allK (a : Ac) (h : rightA a.1 a.2.1 a.2.2 = true) : a ∈ allK := by
  obtain ⟨k, m, c⟩ := a
  have hb : (0 ≤ k ∧ k < 7) ∧ (0 ≤ m ∧ m < 17) ∧ (0 ≤ c ∧ c < 3) := by
    simp only [rightA, Bool.and_eq_true, decide_eq_true_eq] at h
    obtain ⟨⟨h1, h2⟩, h3⟩ := h
    split at h3 <;> simp at h3 <;> omega
  obtain ⟨⟨k0, k1⟩, ⟨m0, m1⟩, c0, c1⟩ := hb
  obtain ⟨k, rfl⟩ := Int.eq_ofNat_of_zero_le k0
  obtain ⟨m, rfl⟩ := Int.eq_ofNat_of_zero_le m0
  obtain ⟨c, rfl⟩ := Int.eq_ofNat_of_zero_le c0
  exact mem_fin ⟨k, by omega⟩ ⟨m, by omega⟩ ⟨c, by omega⟩ h

theorem ints6' (w : World) (a b c d e f : Int) (t : TypeId) (N : Nat) (hN : w.heap.size = N) : Ints (w.alloc (.cells #[.int .i64 a, .int .i64 b, .int .i64 c, .int .i64 d, .int .i64 e, .int .i64 f] t)) (some ⟨N, 0, none⟩) 6 [a, b, c, d, e, f] := by
  subst hN
  exact ⟨rfl, fun _ => ⟨_, _, rfl, by simp, fun j hj => by
    match j, hj with
    | 0, _ => simp
    | 1, _ => simp
    | 2, _ => simp
    | 3, _ => simp
    | 4, _ => simp
    | 5, _ => simp⟩⟩

theorem allK_len : allK.length = 108 := by decide +kernel
end Go.Proofs.Ytafglljfgoeapaa.NumK
namespace Go.Proofs.Ytafglljfgoeapaa.NumK
open Go.RowKit

theorem contains_snoc' (l : List Int) (y k : Int) : (l ++ [y]).contains k = (l.contains k || decide (y = k)) := by
  rw [Bool.eq_iff_iff]
  simp only [List.contains_iff_mem, List.mem_append, List.mem_singleton, Bool.or_eq_true, decide_eq_true_eq]
  constructor
  · rintro (h | h)
    · exact Or.inl h
    · exact Or.inr h.symm
  · rintro (h | h)
    · exact Or.inl h
    · exact Or.inr h.symm

theorem indexI_any (A : Option Addr) (n c : Nat) (zs : List Int) (x : Int) (w : World) (h : Ints w A n zs) (hn : n ≤ 9223372036854775807) :
    Calls Try.prog 57 #[.slice A n c, .int .i64 x] w fun e w' => (∃ r : Int, e = .returned (.int .i64 r) ∧ decide (0 ≤ r) = zs.contains x) ∧ w = w' := by
  have HZ := Lib.hid h
  clear h
  go_enter Try.func57, Try.ntmps57
  go_wp2
  go_loop [8] (fun i => ∃ k : Nat, k ≤ n ∧ i = .int .i64 k ∧ Hid ((zs.take k).contains x = false)) (fun i => n - (intOf i).toNat)
  case atStart => exact ⟨0, Nat.zero_le _, rfl, by simp [Hid]⟩
  case round =>
    obtain ⟨k, hk, rfl, HK⟩ := hrel
    by_cases hlt : k < n
    · obtain ⟨b, o, rfl, _, hc⟩ := HZ.out.2 (by omega)
      have hcell := hc k hlt
      have hl := HZ.out.1
      have hs : zs.take (k + 1) = zs.take k ++ [zs.getD k 0] := by rw [List.take_succ_eq_append_getElem (by omega)]; simp [List.getD, show k < zs.length by omega]
      have HS : Hid ((zs.take (k + 1)).contains x = decide (zs.getD k 0 = x)) := by show _ = _; rw [hs, contains_snoc', HK.out]; simp
      have HY : Hid (zs.getD k 0 = x → zs.contains x = true) := fun h => by
        rw [List.contains_iff_mem, ← h, show zs.getD k 0 = zs[k]'(by omega) by simp [List.getD, show k < zs.length by omega]]
        exact List.getElem_mem _
      clear hs hc hl
      generalize zs.getD k 0 = y at *
      by_cases hxy : x = y
      · subst hxy
        have HY2 := Lib.hid (HY.out rfl)
        clear HY HS
        go_wp2
        go_ret
        exact ⟨⟨_, rfl, by have := HY2.out; simp at this; simp [this]⟩, rfl⟩
      · have d1 : (x == y) = false := by simpa using hxy
        have HS2 : Hid ((zs.take (k + 1)).contains x = false) := by show _ = _; rw [HS.out]; simp; exact fun h => hxy h.symm
        clear HY HS hxy
        go_wp2
        go_round
        case rel => exact ⟨k + 1, by omega, by go_num, HS2⟩
        case measure => simp [intOf]; omega
    · have : k = n := by omega
      subst this
      have h1 := HK.out
      rw [List.take_of_length_le (by have := HZ.out.1; omega)] at h1
      have HE := Lib.hid h1
      clear h1
      go_wp2
      go_ret
      exact ⟨⟨_, rfl, by have := HE.out; simp at this; simp [this]⟩, rfl⟩

theorem contains_any (A : Option Addr) (n c : Nat) (zs : List Int) (x : Int) (w : World) (h : Ints w A n zs) (hn : n ≤ 9223372036854775807) :
    Calls Try.prog 42 #[.slice A n c, .int .i64 x] w fun e w' => e = .returned (.bool (zs.contains x)) ∧ w = w' := by
  have C := indexI_any A n c zs x w h hn
  clear h
  generalize zs.contains x = B at *
  go_enter Try.func42, Try.ntmps42
  go_wp2_with (go_at_call 57; ((with_reducible refine C.mono ?_); rintro e w' ⟨⟨r, rfl, hr⟩, rfl⟩; have HR := Lib.hid hr; clear hr))
  go_ret
  exact ⟨ret_b HR.out, rfl⟩
end Go.Proofs.Ytafglljfgoeapaa.NumK
namespace Go.Proofs.Ytafglljfgoeapaa.NumK
open Go.RowKit

set_option maxRecDepth 100000 in
theorem appendKind_any (base : Nat) (v : Value) (l : List Ac) (k : Int) (w : World) (hO : OwnE enAc w base 27 v l) (hb : base ≤ w.heap.size) (hl : l.length ≤ 1000000) :
    Calls Try.prog 67 #[v, .int .i64 k] w fun e w' => ∃ v', e = .returned v' ∧ OwnE enAc w' base 27 v' (l ++ kindL k) ∧ Below base w w' := by
  have C := whos_any k
  have HK : Hid (kindL k = if ownedK k then whosAcs k 1 16 else whosAcs k 0 1) := rfl
  obtain ⟨f, n, hf, hn, hkl, hn16⟩ : ∃ (f : Int) (n : Nat), (if ownedK k then (1 : Int) else 0) = f ∧ (if ownedK k then (16 : Int) else 0) = f + n - 1 ∧ kindL k = whosAcs k f n ∧ (n ≤ 16 ∧ 0 ≤ f ∧ f ≤ 1) := by
    cases ho : ownedK k
    · exact ⟨0, 1, by simp, by simp, by rw [HK.out, ho]; simp, by omega⟩
    · exact ⟨1, 16, by simp, by simp, by rw [HK.out, ho]; simp, by omega⟩
  rw [hf, hn] at C
  obtain ⟨hn1, hn2, hn3⟩ := hn16
  have HKL := Lib.hid hkl
  have HO := Lib.hid hO
  clear HK hf hn hkl hO
  obtain ⟨g, hg⟩ : ∃ g : Int, f + n - 1 = g := ⟨_, rfl⟩
  rw [hg] at C
  have HG := Lib.hid hg
  have hg' : g ≤ 16 := by omega
  clear hg
  go_enter Try.func67, Try.ntmps67
  go_wp2_with (go_at_call 58; ((with_reducible refine (C _).mono ?_); rintro e w' ⟨rfl, rfl⟩))
  go_loopw [0, 7] (fun v0 v7 wr => ∃ (i : Nat) (m : Int), v7 = .int .i64 m ∧ Hid (m = f + i) ∧ m ≤ 17 ∧ i ≤ n ∧ Hid (OwnE enAc wr base 27 v0 (l ++ whosAcs k f i)) ∧ Hid (Below base w wr)) (fun _ v7 _ => (17 - intOf v7).toNat)
  case atStart => exact ⟨0, f, rfl, Lib.hid (by simp), by omega, by omega, by show OwnE _ _ _ _ _ _; simpa [whosAcs] using HO.out, Below.refl _ _⟩
  case round =>
    obtain ⟨i, m, rfl, HM, hm17, hi, HO1, HB1⟩ := hrel
    have m0 : (0 : Int) ≤ m := by have := HM.out; omega
    by_cases hlt : m ≤ g
    · have hi' : i < n := by have := HM.out; have := HG.out; omega
      have HWB := Lib.hid (Nat.le_trans hb HB1.out.size)
      go_wp2
      go_loopw [0, 20] (fun v0 v20 wr2 => ∃ (j : Nat), v20 = .int .i64 j ∧ j ≤ 3 ∧ Hid (OwnE enAc wr2 base 27 v0 (l ++ whosAcs k f i ++ (whoAcs k m).take j)) ∧ Hid (Below base w wr2)) (fun _ v20 _ => 3 - (intOf v20).toNat)
      case atStart => exact ⟨0, rfl, by omega, by show OwnE _ _ _ _ _ _; simpa using HO1.out, HB1.out⟩
      case round =>
        obtain ⟨j, rfl, hj, HO2, HB2⟩ := hrel
        have HBS := Lib.hid (Nat.le_trans hb HB2.out.size)
        by_cases hjl : j < 3
        · have HLL : Hid ((l ++ whosAcs k f i ++ (whoAcs k m).take j).length ≤ 1000100) := by
            show _ ≤ _
            rw [List.length_append, List.length_append, whosAcs_len, List.length_take]; omega
          have HT : Hid (l ++ whosAcs k f i ++ (whoAcs k m).take (j + 1) = l ++ whosAcs k f i ++ (whoAcs k m).take j ++ [(k, m, (j : Int))]) := by
            show _ = _
            rw [List.append_assoc _ _ [_]]
            congr 1
            match j, hjl with
            | 0, _ => rfl
            | 1, _ => rfl
            | 2, _ => rfl
          go_wp2_with (at_builtin; refine (wpList_append_E rfl _ _ 72 27 (acV 0 0 0) 24 rfl Try.underlying72 info_ac rfl base _ _ rfl (HO2.out.keep (grew_alloc _ _ _)) _ 1 1 [(k, m, (j : Int))] rfl (by intro h; cases h) (rowE_one _ _ _ _ _ _ (by simp)) (by have := HLL.out; unfold maxLen; omega) (by have := HLL.out; omega) (by have := HBS.out; simp; omega) ?_); intro v5 w5 hv hb5; rw [← HT.out] at hv; have HV5 := Lib.hid hv; have HB5 := Lib.hid (HB2.out.trans ((Below.mono (grew_alloc _ _ _) HBS.out).trans hb5)); clear hv hb5)
          go_roundw
          case rel => exact ⟨j + 1, by go_num, by omega, HV5, HB5⟩
          case measure => simp only [intOf]; omega
        · obtain rfl : j = 3 := by omega
          have HE : Hid (l ++ whosAcs k f (i + 1) = l ++ whosAcs k f i ++ (whoAcs k m).take 3) := by
            show _ = _
            rw [whosAcs_succ, ← HM.out, List.append_assoc]; rfl
          rw [← HE.out] at HO2
          clear HE
          go_wp2
          go_roundw
          case rel => exact ⟨i + 1, m + 1, by go_num, by have := HM.out; show _ = _; omega, by omega, by omega, HO2, HB2⟩
          case measure => simp only [intOf]; omega
    · have hi' : i = n := by have := HM.out; have := HG.out; omega
      subst hi'
      rw [← HKL.out] at HO1
      go_wp2
      go_ret
      exact ⟨_, rfl, HO1.out, HB1.out⟩

set_option maxRecDepth 100000 in
theorem aall_any (A : Option Addr) (n c : Nat) (kinds : List Int) (w : World) (h : Ints w A n kinds) (hn : n ≤ 9223372036854775807) :
    Calls Try.prog 60 #[.slice A n c] w fun e w' => ∃ v', e = .returned v' ∧ OwnE enAc w' w.heap.size 27 v' (allL kinds) ∧ Grew w w' := by
  have HI := Lib.hid h
  clear h
  go_enter Try.func60, Try.ntmps60
  go_wp2
  go_loopw [3, 4] (fun v3 v4 wr => ∃ j : Nat, v4 = .int .i64 ((j : Int) + 1) ∧ j ≤ 6 ∧ Hid (OwnE enAc wr w.heap.size 27 v3 (allTo kinds j)) ∧ Hid (Grew w wr)) (fun _ v4 _ => 7 - (intOf v4).toNat)
  case atStart => exact ⟨0, rfl, by omega, OwnE.nil enAc _ _ _, grew_refl _⟩
  case round =>
    obtain ⟨j, rfl, hj, HO, HG⟩ := hrel
    by_cases hlt : j < 6
    · have CC := contains_any A n c kinds ((j : Int) + 1) wr (HI.out.keep HG.out) hn
      have HT : Hid (allTo kinds (j + 1) = allTo kinds j ++ (if kinds.contains ((j : Int) + 1) then kindL ((j : Int) + 1) else [])) := allTo_succ kinds j
      have HL : Hid ((allTo kinds j).length ≤ 1000000) := by show _ ≤ _; have := allTo_len kinds j; omega
      have CA := fun v (h : OwnE enAc wr w.heap.size 27 v (allTo kinds j)) => appendKind_any w.heap.size v (allTo kinds j) ((j : Int) + 1) wr h HG.out.size HL.out
      clear HL
      cases hb : kinds.contains ((j : Int) + 1)
      · rw [hb] at CC HT
        have he : allTo kinds (j + 1) = allTo kinds j := by rw [HT.out]; simp
        rw [← he] at HO
        clear HT he hb CA
        go_wp2_with (go_at_call 42; ((with_reducible refine CC.mono ?_); rintro e w' ⟨rfl, rfl⟩))
        go_roundw
        case rel => exact ⟨j + 1, by go_num, by omega, HO, HG⟩
        case measure => simp only [intOf]; omega
      · rw [hb, if_pos rfl] at HT
        rw [hb] at CC
        clear hb
        go_wp2_with (first
          | (go_at_call 42; ((with_reducible refine CC.mono ?_); rintro e w' ⟨rfl, rfl⟩))
          | (go_at_call 67; ((with_reducible refine (CA _ HO.out).mono ?_); rintro e w1 ⟨v5, rfl, hv, hb5⟩; rw [← HT.out] at hv; have HV5 := Lib.hid hv; have HG5 : Hid (Grew w w1) := Below.trans HG.out hb5; clear hv hb5)))
        go_roundw
        case rel => exact ⟨j + 1, by go_num, by omega, HV5, HG5⟩
        case measure => simp only [intOf]; omega
    · obtain rfl : j = 6 := by omega
      go_wp2
      go_ret
      exact ⟨_, rfl, HO.out, HG.out⟩
end Go.Proofs.Ytafglljfgoeapaa.NumK
