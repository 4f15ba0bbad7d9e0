/- Accounts: what is one; the program's and the reference's (cut out of AcctA, AcctB). -/
import Derived.Test.YtodnllopokoicaaGreatRG2
import Derived.Deep.QuietTactic
import Derived.BigQuiet
import Derived.Deep.DeepCutAuto
import Derived.Deep.Light
import Derived.BigRegion
import Derived.Deep.CutBlock
import Derived.Test.YtodnllopokoicaaGreatRG3
import Derived.Test.YtodnllopokoicaaGreatRG4
import Derived.Deep.RegionLaw
namespace Go.Proofs.YtodnllopokoicaaGreat.NumK
open Go.RowKit

/-- Kind, Who, Cur. -/
abbrev Ac := Int × Int × Int
def acV (k m c : Int) : Value := .agg #[.int .i64 k, .int .i64 m, .int .i64 c]
def enAc : En Ac := ⟨3, fun a => [.int .i64 a.1, .int .i64 a.2.1, .int .i64 a.2.2], fun _ => rfl, fun a v hv => by
  simp at hv; rcases hv with rfl | rfl | rfl <;> rfl, by decide⟩

def ownedK (k : Int) : Bool := decide (k = 2) || decide (k = 3)
def rightA (k m c : Int) : Bool := decide (1 ≤ k ∧ k ≤ 6) && decide (0 ≤ c ∧ c < 3) && (if ownedK k then decide (1 ≤ m ∧ m ≤ 16) else decide (m = 0))

def sameA (k m c k' m' c' : Int) : Bool := decide (k = k') && decide (m = m') && decide (c = c')

theorem owned_any (k : Int) (w : World) : Calls Tryz.prog 146 #[.int .i64 k] w fun e w' => e = .returned (.bool (ownedK k)) ∧ w = w' := by
  go_enter Tryz.func146, Tryz.ntmps146
  go_wp2
  all_goals go_ret
  all_goals exact ⟨ret_b (by rw [Bool.eq_iff_iff]; simp_all [ownedK]), rfl⟩

theorem whos_any (k : Int) (w : World) : Calls Tryz.prog 140 #[.int .i64 k] w fun e w' => e = .returned (.tuple #[.int .i64 (if ownedK k then 1 else 0), .int .i64 (if ownedK k then 16 else 0)]) ∧ w = w' := by
  have C := owned_any k
  generalize ownedK k = b at *
  go_enter Tryz.func140, Tryz.ntmps140
  go_wp2_with (go_at_call 146; ((with_reducible refine (C _).mono ?_); rintro e w' ⟨rfl, rfl⟩))
  all_goals go_ret2
  all_goals exact ⟨by simp_all, rfl⟩

theorem keepAcct_any (k m c k' m' c' : Int) (w : World) : Calls Tryz.prog 54 #[acV k m c, acV k' m' c'] w fun e w' => e = .returned (.bool (sameA k m c k' m' c')) ∧ Grew w w' := by
  unfold acV
  go_enter Tryz.func54, Tryz.ntmps54
  go_wp2
  all_goals go_ret
  all_goals exact ⟨ret_b (by rw [Bool.eq_iff_iff]; simp_all [sameA]), grew_trans (grew_alloc _ _ _) (grew_alloc _ _ _)⟩

theorem aright_any (k m c : Int) (w : World) : Calls Tryz.prog 113 #[acV k m c] w fun e w' => e = .returned (.bool (rightA k m c)) ∧ Grew w w' := by
  have C := whos_any k
  unfold acV
  go_enter Tryz.func113, Tryz.ntmps113
  go_wp2_with (go_at_call 140; ((with_reducible refine (C _).mono ?_); rintro e w' ⟨rfl, rfl⟩))
  all_goals go_ret
  all_goals exact ⟨ret_b (by clear C; rw [Bool.eq_iff_iff]; simp_all [rightA] <;> omega), grew_alloc _ _ _⟩

end Go.Proofs.YtodnllopokoicaaGreat.NumK
namespace Go.Proofs.YtodnllopokoicaaGreat.NumK
open Go.RowKit

def whoAcs (k m : Int) : List Ac := [(k, m, 0), (k, m, 1), (k, m, 2)]
/-- n members' accounts from the first on. -/
def whosAcs (k f : Int) (n : Nat) : List Ac := (List.range n).flatMap fun i : Nat => whoAcs k (f + i)
def kindL (k : Int) : List Ac := if ownedK k then whosAcs k 1 16 else whosAcs k 0 1
def allTo (kinds : List Int) (n : Nat) : List Ac := (List.range n).flatMap fun i : Nat => if kinds.contains ((i : Int) + 1) then kindL ((i : Int) + 1) else []
def allL (kinds : List Int) : List Ac := allTo kinds 6

theorem sameA_iff (a b : Ac) : sameA a.1 a.2.1 a.2.2 b.1 b.2.1 b.2.2 = decide (a = b) := by
  rw [Bool.eq_iff_iff]
  simp [sameA, Prod.ext_iff, and_assoc]

theorem take_snoc {α : Type} (l : List α) (k : Nat) (d : α) (h : k < l.length) : l.take (k + 1) = l.take k ++ [l.getD k d] := by
  rw [List.take_succ_eq_append_getElem h]; simp [List.getD, h]

def allK : List Ac := allL [1, 2, 3, 4, 5, 6]

theorem allK_right : ∀ a ∈ allK, rightA a.1 a.2.1 a.2.2 = true := by decide +kernel

theorem mem_fin : ∀ k : Fin 7, ∀ m : Fin 17, ∀ c : Fin 3, rightA (k.val : Int) (m.val : Int) (c.val : Int) = true → ((k.val : Int), (m.val : Int), (c.val : Int)) ∈ allK := by decide +kernel
theorem mem_allK (a : Ac) (h : rightA a.1 a.2.1 a.2.2 = true) : a ∈ allK := by
  obtain ⟨k, m, c⟩ := a
  have hb : (0 ≤ k ∧ k < 7) ∧ (0 ≤ m ∧ m < 17) ∧ (0 ≤ c ∧ c < 3) := by
    simp only [rightA, Bool.and_eq_true, decide_eq_true_eq] at h
    obtain ⟨⟨h1, h2⟩, h3⟩ := h
    split at h3 <;> simp at h3 <;> omega
  obtain ⟨⟨k0, k1⟩, ⟨m0, m1⟩, c0, c1⟩ := hb
  obtain ⟨k, rfl⟩ := Int.eq_ofNat_of_zero_le k0
  obtain ⟨m, rfl⟩ := Int.eq_ofNat_of_zero_le m0
  obtain ⟨c, rfl⟩ := Int.eq_ofNat_of_zero_le c0
  exact mem_fin ⟨k, by omega⟩ ⟨m, by omega⟩ ⟨c, by omega⟩ h

theorem allK_len : allK.length = 108 := by decide +kernel
end Go.Proofs.YtodnllopokoicaaGreat.NumK
namespace Go.Proofs.YtodnllopokoicaaGreat.NumK
open Go.RowKit

/-- The account, the amount. -/
abbrev Lg := Ac × Int
def legV (k m c n : Int) : Value := .agg #[.int .i64 k, .int .i64 m, .int .i64 c, .int .i64 n]
def enLg : En Lg := ⟨4, fun l => [.int .i64 l.1.1, .int .i64 l.1.2.1, .int .i64 l.1.2.2, .int .i64 l.2], fun _ => rfl, fun a v hv => by
  simp at hv; rcases hv with rfl | rfl | rfl | rfl <;> rfl, by decide⟩
abbrev lg0 : Lg := ((0, 0, 0), 0)
/-- A leg of a row, cell by cell. -/
theorem RowE.lg {w : World} {n : Nat} {l : List Lg} {A : Option Addr} (h : RowE enLg w A n l) {j : Nat} (hj : j < n) :
    ∃ b o, A = some ⟨b, o, none⟩ ∧ b < w.heap.size ∧ w.cell? ⟨b, o + j * 4, none⟩ = some (.int .i64 (l.getD j lg0).1.1) ∧ w.cell? ⟨b, o + j * 4 + 1, none⟩ = some (.int .i64 (l.getD j lg0).1.2.1)
      ∧ w.cell? ⟨b, o + j * 4 + 2, none⟩ = some (.int .i64 (l.getD j lg0).1.2.2) ∧ w.cell? ⟨b, o + j * 4 + 3, none⟩ = some (.int .i64 (l.getD j lg0).2) := by
  have hl := h.len
  obtain ⟨b, o, e, hb, hc⟩ := h.at (by omega)
  have hj' : j < l.length := by omega
  have e1 : l.getD j lg0 = l[j] := by simp [List.getD, hj']
  rw [e1]
  exact ⟨b, o, e, hb, hc j hj' 0 (by decide), hc j hj' 1 (by decide), hc j hj' 2 (by decide), hc j hj' 3 (by decide)⟩

def okL (x : Lg) : Bool := rightA x.1.1 x.1.2.1 x.1.2.2 && isMoney x.2
def mayL (l : List Lg) : Bool := l.all okL
end Go.Proofs.YtodnllopokoicaaGreat.NumK
namespace Go.Proofs.YtodnllopokoicaaGreat.NumK
open Go.RowKit

end Go.Proofs.YtodnllopokoicaaGreat.NumK
namespace Go.Proofs.YtodnllopokoicaaGreat.NumK
open Go.RowKit

/-- The same, and it tells that no other block was touched. -/
theorem step_append_G {α : Type} {E : En α} {ops : Array Oper} {o : Oper} {a : Act} {w : World} {K : Act → World → Prop} {Q : Exit → Act → World → Prop} {X : Prop} (hgd : o.guard = none) (s x : Operand) (T t : TypeId) (z : Value) (by' : Nat)
    (ho : o.op = .call { callee := .builtin .append, args := #[s, x], argTypes := #[T, T] })
    (hT : Tryz.prog.underlying T = some (.slice t)) (hi : (Tryz.prog.info? t).map (fun i => (i.zero, i.size, i.bytes)) = some (some z, E.size, by')) (hz : z.cells.size = E.size)
    (base : Nat) (v : Value) (l : List α) (hs : a.eval s = v) (hown : OwnE E w base t v l)
    (ad : Addr) (m c : Nat) (zs : List α) (hx : a.eval x = .slice (some ad) m c) (hR : RowE E w (some ad) m zs)
    (hm : l.length + m ≤ maxLen) (hlim : (l.length + m) * by' ≤ 140737488355328) (hbase : base ≤ w.heap.size)
    (h : ∀ v' w', OwnE E w' base t v' (l ++ zs) → Below base w w' → w.grownBy w' v.ownBlock → K (a.put o.dst v') w') : if Region.wanted o (yielded ops a.tmps) = true then Oper.wp Tryz.prog o a w K Q else X := by
  have hw : Region.wanted o (yielded ops a.tmps) = true := by simp [Region.wanted, hgd]
  rw [if_pos hw]
  obtain ⟨i, hi, hz0, hz1, hz2⟩ := info_parts hi
  have hl := hR.len
  refine wp_append_own w s x T ho base t i z E.size by' hT hi hz0 hz1 hz2 hz E.pos v l.length _ hs hown ad m c (zs.flatMap E.cs) hx (by rw [E.flat_len, hl]) (fun j u hu => ?_) (fun u hu => ?_) hm hlim hbase (fun v' w' ho' hg _ => ?_)
  · have hj : j < zs.length * E.size := by
      rw [← E.flat_len]
      rcases Nat.lt_or_ge j (zs.flatMap E.cs).length with h1 | h1
      · exact h1
      · rw [List.getElem?_eq_none h1] at hu; cases hu
    have hq : j / E.size < zs.length := Nat.div_lt_of_lt_mul (by rw [Nat.mul_comm]; exact hj)
    have hdm : j / E.size * E.size + j % E.size = j := by rw [Nat.mul_comm]; exact Nat.div_add_mod j E.size
    have hmod : j % E.size < E.size := Nat.mod_lt _ E.pos
    obtain ⟨b, o2, he, hb, hc⟩ := hR.at (by rw [← hl]; exact Nat.lt_of_le_of_lt (Nat.zero_le _) hq)
    cases he
    have e1 := hc (j / E.size) hq (j % E.size) hmod
    rw [← E.flat_at zs _ hq _ hmod, hdm, hu] at e1
    rw [addr_add, ← e1, Nat.add_assoc, hdm]
  · obtain ⟨y, _, hy⟩ := List.mem_flatMap.1 hu
    exact E.one y u hy
  · refine h v' w' ?_ ((Below.refl base w).grown hg hbase fun k hk => (hown.lt k hk).1) hg
    show w'.ownsRow base t E.size v' (l ++ zs).length ((l ++ zs).flatMap E.cs)
    rw [List.length_append, hl, List.flatMap_append]
    exact ho'
/-- A block that was made behind a row is not the row's. -/
theorem own_ne {α : Type} {E : En α} {w : World} {base : Nat} {t : TypeId} {v : Value} {l : List α} (h : OwnE E w base t v l) {b : Nat} (hb : w.heap.size ≤ b) : some b ≠ v.ownBlock := fun e => by
  have := (World.ownsRow.lt h b e.symm).2
  omega
end Go.Proofs.YtodnllopokoicaaGreat.NumK
namespace Go.Proofs.YtodnllopokoicaaGreat.NumK
open Go.RowKit

end Go.Proofs.YtodnllopokoicaaGreat.NumK
namespace Go.Proofs.YtodnllopokoicaaGreat.NumK
open Go.RowKit

end Go.Proofs.YtodnllopokoicaaGreat.NumK
namespace Go.Proofs.YtodnllopokoicaaGreat.NumK
open Go.RowKit

structure Own2 (w : World) (b : Nat) (v0 v1 : Value) : Prop where
  c0 : w.cell? ⟨b, 0, none⟩ = some v0
  c1 : w.cell? ⟨b, 1, none⟩ = some v1
  f0 : w.frozen? ⟨b, 0, none⟩ = false
  f1 : w.frozen? ⟨b, 1, none⟩ = false
  lt : b < w.heap.size

theorem Own2.keep {w w' : World} {b : Nat} {v0 v1 : Value} (h : Own2 w b v0 v1) (g : Grew w w') : Own2 w' b v0 v1 :=
  ⟨(grew_cell g (p := ⟨b, 0, none⟩) h.lt).trans h.c0, (grew_cell g (p := ⟨b, 1, none⟩) h.lt).trans h.c1, (Below.frozen g (p := ⟨b, 0, none⟩) h.lt).trans h.f0, (Below.frozen g (p := ⟨b, 1, none⟩) h.lt).trans h.f1, Nat.lt_of_lt_of_le h.lt g.size⟩
theorem Own2.new (w : World) (v0 v1 : Value) (t : TypeId) (N : Nat) (hN : w.heap.size = N) : Own2 (w.alloc (.cells #[v0, v1] t)) N v0 v1 := by
  subst hN
  exact ⟨by simp, by simp, by simp, by simp, by simp⟩
theorem Own2.set {w : World} {b : Nat} {v0 v1 : Value} (h : Own2 w b v0 v1) (u0 u1 : Value) : Own2 ((w.setCell ⟨b, 0, none⟩ u0).setCell ⟨b, 1, none⟩ u1) b u0 u1 := by
  have k1 : (w.setCell ⟨b, 0, none⟩ u0).cell? ⟨b, 1, none⟩ = some v1 := (World.cell?_setCell_other _ _ _ _ (by intro e; simp at e)).trans h.c1
  refine ⟨?_, World.cell?_setCell_same _ _ _ k1, by rw [World.frozen?_setCell, World.frozen?_setCell]; exact h.f0, by rw [World.frozen?_setCell, World.frozen?_setCell]; exact h.f1, by simp [World.setCell]; exact h.lt⟩
  rw [World.cell?_setCell_other _ _ _ _ (by intro e; simp at e)]
  exact World.cell?_setCell_same _ _ _ h.c0
theorem Own2.other {w : World} {b : Nat} {v0 v1 : Value} (h : Own2 w b v0 v1) (p : Addr) (u : Value) (hp : p.block ≠ b) : Own2 (w.setCell p u) b v0 v1 :=
  ⟨(World.cell?_setCell_other _ _ _ _ (by intro e; apply hp; rw [e])).trans h.c0, (World.cell?_setCell_other _ _ _ _ (by intro e; apply hp; rw [e])).trans h.c1, by rw [World.frozen?_setCell]; exact h.f0, by rw [World.frozen?_setCell]; exact h.f1, by simp [World.setCell]; exact h.lt⟩
end Go.Proofs.YtodnllopokoicaaGreat.NumK
namespace Go.Proofs.YtodnllopokoicaaGreat.NumK
open Go.RowKit

/-- What stands on an account. -/
def sumA (l : List Lg) (a : Ac) : Int := ((l.filter fun x => decide (x.1 = a)).map (·.2)).sum
def ac0 : Ac := (0, 0, 0)
def joinF (f : Ac → Int) (k : Nat) : List Lg := (allK.take k).filterMap fun a => if f a = 0 then none else some (a, f a)
def joinE (l : List Lg) : Int := if mayL l then (if allK.all (fun a => isMoney (sumA l a)) then 0 else 1) else 3
def joinL (l : List Lg) : List Lg := if joinE l = 0 then joinF (sumA l) 108 else []

theorem sumA_nil (a : Ac) : sumA [] a = 0 := rfl
theorem sumA_append (l m : List Lg) (a : Ac) : sumA (l ++ m) a = sumA l a + sumA m a := by
  unfold sumA
  rw [List.filter_append, List.map_append, List.sum_append]
theorem sumA_one (x : Lg) (a : Ac) : sumA [x] a = if x.1 = a then x.2 else 0 := by
  unfold sumA
  by_cases h : x.1 = a
  · simp [h]
  · simp [h]
theorem sumA_cons (x : Lg) (l : List Lg) (a : Ac) : sumA (x :: l) a = (if x.1 = a then x.2 else 0) + sumA l a := by
  rw [show x :: l = [x] ++ l from rfl, sumA_append, sumA_one]
theorem okL_parts {x : Lg} (h : okL x = true) : rightA x.1.1 x.1.2.1 x.1.2.2 = true ∧ -4611686018427387904 ≤ x.2 ∧ x.2 ≤ 4611686018427387904 := by
  unfold okL at h
  simp only [Bool.and_eq_true] at h
  exact ⟨h.1, (isMoney_iff _).1 h.2⟩
theorem may_cons {x : Lg} {l : List Lg} : mayL (x :: l) = true ↔ okL x = true ∧ mayL l = true := by
  unfold mayL; simp
end Go.Proofs.YtodnllopokoicaaGreat.NumK
