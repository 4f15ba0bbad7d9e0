/- The account of a name: Parse. -/
import Derived.Test.YtefjdgggafkmoaaDoorAcctF
namespace Go.Proofs.YtefjdgggafkmoaaDoor.NumK
open Go.RowKit

/-- A block of the call's own that holds three values. -/
structure C3 (w : World) (b : Nat) (x y z : Value) : Prop where
  lt : b < w.heap.size
  c0 : w.cell? ⟨b, 0, none⟩ = some x
  c1 : w.cell? ⟨b, 1, none⟩ = some y
  c2 : w.cell? ⟨b, 2, none⟩ = some z
  f0 : w.frozen? ⟨b, 0, none⟩ = false
  f1 : w.frozen? ⟨b, 1, none⟩ = false
  f2 : w.frozen? ⟨b, 2, none⟩ = false
theorem C3.keep {w w' : World} {b : Nat} {x y z : Value} (h : C3 w b x y z) (g : Grew w w') : C3 w' b x y z :=
  ⟨Nat.lt_of_lt_of_le h.lt g.size, (grew_cell g (p := ⟨b, 0, none⟩) h.lt).trans h.c0, (grew_cell g (p := ⟨b, 1, none⟩) h.lt).trans h.c1, (grew_cell g (p := ⟨b, 2, none⟩) h.lt).trans h.c2,
    (Below.frozen g (p := ⟨b, 0, none⟩) h.lt).trans h.f0, (Below.frozen g (p := ⟨b, 1, none⟩) h.lt).trans h.f1, (Below.frozen g (p := ⟨b, 2, none⟩) h.lt).trans h.f2⟩
theorem C3.new (w : World) (x y z : Value) (t : TypeId) : C3 (w.alloc (.cells #[x, y, z] t)) w.heap.size x y z :=
  ⟨by simp, by simp, by simp, by simp, by simp, by simp, by simp⟩
theorem C3.of {w w' : World} {x y z : Value} {t : TypeId} (g : Grew (w.alloc (.cells #[x, y, z] t)) w') : C3 w' w.heap.size x y z := (C3.new w x y z t).keep g
theorem C3.set1 {w : World} {b : Nat} {x y z : Value} (h : C3 w b x y z) (v : Value) : C3 (w.setCell ⟨b, 1, none⟩ v) b x v z :=
  ⟨by simpa [World.setCell] using h.lt, by rw [World.cell?_setCell_other _ _ _ _ (by simp)]; exact h.c0, World.cell?_setCell_same _ _ _ h.c1, by rw [World.cell?_setCell_other _ _ _ _ (by simp)]; exact h.c2,
    by rw [World.frozen?_setCell]; exact h.f0, by rw [World.frozen?_setCell]; exact h.f1, by rw [World.frozen?_setCell]; exact h.f2⟩
theorem C3.set2 {w : World} {b : Nat} {x y z : Value} (h : C3 w b x y z) (v : Value) : C3 (w.setCell ⟨b, 2, none⟩ v) b x y v :=
  ⟨by simpa [World.setCell] using h.lt, by rw [World.cell?_setCell_other _ _ _ _ (by simp)]; exact h.c0, by rw [World.cell?_setCell_other _ _ _ _ (by simp)]; exact h.c1, World.cell?_setCell_same _ _ _ h.c2,
    by rw [World.frozen?_setCell]; exact h.f0, by rw [World.frozen?_setCell]; exact h.f1, by rw [World.frozen?_setCell]; exact h.f2⟩
theorem C3.far {w : World} {b B : Nat} {x y z : Value} (h : C3 w b x y z) (hB : B ≠ b) (o : Nat) (v : Value) : C3 (w.setCell ⟨B, o, none⟩ v) b x y z :=
  ⟨by simpa [World.setCell] using h.lt, by rw [World.cell?_setCell_other _ _ _ _ (fun e => hB (by simpa using congrArg Addr.block e))]; exact h.c0, by rw [World.cell?_setCell_other _ _ _ _ (fun e => hB (by simpa using congrArg Addr.block e))]; exact h.c1, by rw [World.cell?_setCell_other _ _ _ _ (fun e => hB (by simpa using congrArg Addr.block e))]; exact h.c2,
    by rw [World.frozen?_setCell]; exact h.f0, by rw [World.frozen?_setCell]; exact h.f1, by rw [World.frozen?_setCell]; exact h.f2⟩
theorem grew_put {w w1 : World} (h : Grew w w1) (b o : Nat) (v : Value) (hb : w.heap.size ≤ b) : Grew w (w1.setCell ⟨b, o, none⟩ v) := Below.setCell h hb v

theorem read_eq {NE : Int} {l r : List UInt8} {NS s : ByteArray} {FA : Option Ac} {a : Ac} (h : (NE = 0 → l = r → FA = some a) ∧ (¬ (NE = 0 ∧ l = r) → FA = none)) (h1 : NS = ⟨l.toArray⟩) (h2 : s.data.toList = r) :
    (NE = 0 → NS.toList = s.toList → FA = some a) ∧ (¬ (NE = 0 ∧ NS.toList = s.toList) → FA = none) := by
  subst h1 h2
  rw [Lib.toList_data, Lib.toList_data]
  exact h

theorem cut_len (l : List UInt8) : (Lib.cut l [46]).1.length ≤ l.length ∧ (Lib.cut l [46]).2.1.length ≤ l.length := by
  unfold Lib.cut
  split
  · constructor
    · rw [List.length_take]; omega
    · rw [List.length_drop]; omega
  · simp

def acOf (o : Option Ac) : Ac := o.getD (0, 0, 0)
def errOf (o : Option Ac) : Int := if o.isSome then 0 else 6

set_option maxRecDepth 100000 in
set_option maxHeartbeats 2000000 in
theorem parse_any (s : ByteArray) (w : World) (hE : EV w) (hs : s.size ≤ 1000) :
    Calls Tryd.prog 16 #[.string s] w fun e w' => e = .returned (.tuple #[acV (acOf (findA s.data.toList)).1 (acOf (findA s.data.toList)).2.1 (acOf (findA s.data.toList)).2.2, .int .i64 (errOf (findA s.data.toList))]) ∧ Grew w w' := by
  have hl1 := cut_len s.data.toList
  have hl2 := cut_len (Lib.cut s.data.toList [46]).2.1
  have hsz : s.data.toList.length ≤ 1000 := by rw [← Lib.size_eq]; exact hs
  have hF := findA_cand s.data.toList
  have C1 := fun w => cut_any s w (by omega)
  have C2 := fun w => cut_any ⟨(Lib.cut s.data.toList [46]).2.1.toArray⟩ w (by show (Lib.cut s.data.toList [46]).2.1.length ≤ _; omega)
  have CK := fun w => kindOf_any ⟨(Lib.cut s.data.toList [46]).1.toArray⟩ w
  have CA1 := fun w hE => atoi_any ⟨(Lib.cut (Lib.cut s.data.toList [46]).2.1 [46]).1.toArray⟩ w hE (by show (Lib.cut (Lib.cut s.data.toList [46]).2.1 [46]).1.length ≤ _; omega)
  have CA2 := fun w hE => atoi_any ⟨(Lib.cut (Lib.cut s.data.toList [46]).2.1 [46]).2.1.toArray⟩ w hE (by show (Lib.cut (Lib.cut s.data.toList [46]).2.1 [46]).2.1.length ≤ _; omega)
  have CA3 := fun w hE => atoi_any ⟨(Lib.cut s.data.toList [46]).2.1.toArray⟩ w hE (by show (Lib.cut s.data.toList [46]).2.1.length ≤ _; omega)
  have CO := fun w => owned_any (kindN (Lib.cut s.data.toList [46]).1) w
  have CN := fun m c w => name_any (kindN (Lib.cut s.data.toList [46]).1) m c w
  clear hl1 hl2 hsz hs
  simp only [] at C2 CK CA1 CA2 CA3
  have HF : Hid (∀ m c, candA s.data.toList = (kindN (Lib.cut s.data.toList [46]).1, m, c) → ((if rightA (kindN (Lib.cut s.data.toList [46]).1) m c then (0 : Int) else 3) = 0 → (if rightA (kindN (Lib.cut s.data.toList [46]).1) m c then nameL (kindN (Lib.cut s.data.toList [46]).1) m c else []) = s.data.toList → findA s.data.toList = some (kindN (Lib.cut s.data.toList [46]).1, m, c))
      ∧ (¬ ((if rightA (kindN (Lib.cut s.data.toList [46]).1) m c then (0 : Int) else 3) = 0 ∧ (if rightA (kindN (Lib.cut s.data.toList [46]).1) m c then nameL (kindN (Lib.cut s.data.toList [46]).1) m c else []) = s.data.toList) → findA s.data.toList = none)) := by
    intro m c hc
    rw [hF, hc]
    constructor
    · intro h1 h2
      split at h1
      · rename_i h
        rw [if_pos h] at h2
        rw [if_pos ⟨h, h2⟩]
      · omega
    · intro h
      rw [if_neg]
      rintro ⟨h1, h2⟩
      exact h ⟨if_pos h1, by rw [if_pos h1]; exact h2⟩
  have HC : Hid (candA s.data.toList = if ownedK (kindN (Lib.cut s.data.toList [46]).1) then (kindN (Lib.cut s.data.toList [46]).1, atoiV (Lib.cut (Lib.cut s.data.toList [46]).2.1 [46]).1, atoiV (Lib.cut (Lib.cut s.data.toList [46]).2.1 [46]).2.1) else (kindN (Lib.cut s.data.toList [46]).1, 0, atoiV (Lib.cut s.data.toList [46]).2.1)) := rfl
  clear hF
  generalize hK : kindN (Lib.cut s.data.toList [46]).1 = K at *
  generalize hM : atoiV (Lib.cut (Lib.cut s.data.toList [46]).2.1 [46]).1 = M at *
  generalize hD : atoiV (Lib.cut (Lib.cut s.data.toList [46]).2.1 [46]).2.1 = D at *
  generalize hD2 : atoiV (Lib.cut s.data.toList [46]).2.1 = D2 at *
  clear hK hM hD hD2
  generalize (⟨(Lib.cut (Lib.cut s.data.toList [46]).2.1 [46]).1.toArray⟩ : ByteArray) = WHO at *
  generalize (⟨(Lib.cut (Lib.cut s.data.toList [46]).2.1 [46]).2.1.toArray⟩ : ByteArray) = R2 at *
  generalize (Lib.cut (Lib.cut s.data.toList [46]).2.1 [46]).2.2 = B2 at *
  generalize (⟨(Lib.cut s.data.toList [46]).1.toArray⟩ : ByteArray) = F1 at *
  generalize (⟨(Lib.cut s.data.toList [46]).2.1.toArray⟩ : ByteArray) = R1 at *
  generalize (Lib.cut s.data.toList [46]).2.2 = B1 at *
  have HE := Lib.hid hE
  clear hE
  by_cases ho : ownedK K = true
  · have HP := Lib.hid (read_eq (HF.out M D (by rw [HC.out, if_pos ho])) rfl rfl)
    have CN := fun w => CN M D w
    rw [ho] at CO
    clear HC HF ho CA3
    generalize (⟨(if rightA K M D = true then nameL K M D else []).toArray⟩ : ByteArray) = NS at *
    generalize (if rightA K M D = true then (0 : Int) else 3) = NE at *
    generalize findA s.data.toList = FA at *
    unfold acV at CN
    go_enter Tryd.func16, Tryd.ntmps16
    go_wp2_with (first
      | (go_at_call 27; ((with_reducible refine (C1 _).mono ?_); rintro e w1 ⟨rfl, hg⟩; have K1 := Lib.hid (C3.of hg); have HG1 := Lib.hid (own_back hg); clear hg))
      | (go_at_call 28; ((with_reducible refine (CK _).mono ?_); rintro e w2 ⟨rfl, hg⟩; have K2 := Lib.hid (K1.out.keep hg); have HG2 := Lib.hid (grew_trans HG1.out hg); have HN := Lib.hid (Nat.lt_of_lt_of_le K1.out.lt hg.size); clear hg K1 HG1))
      | (go_at_call 25; ((with_reducible refine (CO _).mono ?_); rintro e w' ⟨rfl, rfl⟩))
      | (go_at_call 27; ((with_reducible refine (C2 _).mono ?_); rintro e w3 ⟨rfl, hg⟩; have K3 := Lib.hid (K2.out.keep (own_back hg)); have L3 := Lib.hid (C3.of hg); have HG3 := Lib.hid (grew_trans HG2.out (own_back hg)); clear hg K2))
      | (go_at_call 29; ((with_reducible refine (CA1 _ (HE.out.keep HG3.out)).mono ?_); rintro e w4 ⟨⟨v4, rfl⟩, hg⟩; have K4 := Lib.hid (K3.out.keep hg); have L4 := Lib.hid (L3.out.keep hg); have HG4 := Lib.hid (grew_trans HG3.out hg); have l1 := L4.out.c1; have lf1 := L4.out.f1; clear hg K3 L3 HG3))
      | (go_at_call 29; ((with_reducible refine (CA2 _ (HE.out.keep (grew_put HG4.out _ _ _ (Nat.le_of_lt HN.out)))).mono ?_); rintro e w5 ⟨⟨v5, rfl⟩, hg⟩; have K5 := Lib.hid ((K4.out.far (Nat.ne_of_gt HN.out) 1 (.int .i64 M)).keep hg); have L5 := Lib.hid ((L4.out.set1 (.int .i64 M)).keep hg); have HG5 := Lib.hid (grew_trans (grew_put HG4.out _ _ _ (Nat.le_of_lt HN.out)) hg); have m0 := L5.out.c0; have m1 := L5.out.c1; have m2 := L5.out.c2; have mf2 := L5.out.f2; clear hg K4 L4 HG4 l1 lf1))
      | (go_at_call 14; ((with_reducible refine (CN _).mono ?_); rintro e w6 ⟨rfl, hg⟩; have K6 := Lib.hid ((K5.out.far (Nat.ne_of_gt HN.out) 2 (.int .i64 D)).keep hg); have L6 := Lib.hid ((L5.out.set2 (.int .i64 D)).keep hg); have HG6 := Lib.hid (grew_trans (grew_put HG5.out _ _ _ (Nat.le_of_lt HN.out)) hg); have n0 := L6.out.c0; have n1 := L6.out.c1; have n2 := L6.out.c2; have k0 := K6.out.c0; have k1 := K6.out.c1; have k2 := K6.out.c2; have kf0 := K6.out.f0; have kf1 := K6.out.f1; have kf2 := K6.out.f2; clear hg K5 L5 HG5 m0 m1 m2 mf2)))
    all_goals rename_i hz
    all_goals first
      | (have hFA : FA = some (K, M, D) := HP.out.1 (by assumption) (by simpa using hz)
         subst hFA
         exact bodyPost_ret (v := .tuple #[acV K M D, .int .i64 0]) (by simp [results, Tryd.results16, go_sem, k0, k1, k2, acV]) rfl
           ⟨rfl, grew_put (grew_put (grew_put HG6.out _ _ _ (Nat.le_refl _)) _ _ _ (Nat.le_refl _)) _ _ _ (Nat.le_refl _)⟩)
      | (have hFA : FA = none := HP.out.2 (by intro h; simp_all)
         subst hFA
         exact bodyPost_ret (v := .tuple #[acV 0 0 0, .int .i64 6]) (by simp [results, Tryd.results16, go_sem, k0, k1, k2, acV]) rfl
           ⟨rfl, grew_put (grew_put (grew_put HG6.out _ _ _ (Nat.le_refl _)) _ _ _ (Nat.le_refl _)) _ _ _ (Nat.le_refl _)⟩)
  · have ho : ownedK K = false := by simpa using ho
    have HP := Lib.hid (read_eq (HF.out 0 D2 (by rw [HC.out, ho]; rfl)) rfl rfl)
    have CN := fun w => CN 0 D2 w
    rw [ho] at CO
    clear HC HF ho CA1 CA2 C2
    generalize (⟨(if rightA K 0 D2 = true then nameL K 0 D2 else []).toArray⟩ : ByteArray) = NS at *
    generalize (if rightA K 0 D2 = true then (0 : Int) else 3) = NE at *
    generalize findA s.data.toList = FA at *
    unfold acV at CN
    go_enter Tryd.func16, Tryd.ntmps16
    go_wp2_with (first
      | (go_at_call 27; ((with_reducible refine (C1 _).mono ?_); rintro e w1 ⟨rfl, hg⟩; have K1 := Lib.hid (C3.of hg); have HG1 := Lib.hid (own_back hg); clear hg))
      | (go_at_call 28; ((with_reducible refine (CK _).mono ?_); rintro e w2 ⟨rfl, hg⟩; have K2 := Lib.hid (K1.out.keep hg); have HG2 := Lib.hid (grew_trans HG1.out hg); have HN := Lib.hid (Nat.lt_of_lt_of_le K1.out.lt hg.size); clear hg K1 HG1))
      | (go_at_call 25; ((with_reducible refine (CO _).mono ?_); rintro e w' ⟨rfl, rfl⟩))
      | (go_at_call 29; ((with_reducible refine (CA3 _ (HE.out.keep (grew_trans HG2.out (grew_alloc _ _ _)))).mono ?_); rintro e w5 ⟨⟨v5, rfl⟩, hg⟩; have K5 := Lib.hid (K2.out.keep (own_back hg)); have L5 := Lib.hid (C3.of hg); have HG5 := Lib.hid (grew_trans HG2.out (own_back hg)); have m0 := L5.out.c0; have m1 := L5.out.c1; have m2 := L5.out.c2; have mf2 := L5.out.f2; clear hg K2))
      | (go_at_call 14; ((with_reducible refine (CN _).mono ?_); rintro e w6 ⟨rfl, hg⟩; have K6 := Lib.hid ((K5.out.far (Nat.ne_of_gt HN.out) 2 (.int .i64 D2)).keep hg); have L6 := Lib.hid ((L5.out.set2 (.int .i64 D2)).keep hg); have HG6 := Lib.hid (grew_trans (grew_put HG5.out _ _ _ (Nat.le_of_lt HN.out)) hg); have n0 := L6.out.c0; have n1 := L6.out.c1; have n2 := L6.out.c2; have k0 := K6.out.c0; have k1 := K6.out.c1; have k2 := K6.out.c2; have kf0 := K6.out.f0; have kf1 := K6.out.f1; have kf2 := K6.out.f2; clear hg K5 L5 HG5 m0 m1 m2 mf2)))
    all_goals rename_i hz
    all_goals first
      | (have hFA : FA = some (K, 0, D2) := HP.out.1 (by assumption) (by simpa using hz)
         subst hFA
         exact bodyPost_ret (v := .tuple #[acV K 0 D2, .int .i64 0]) (by simp [results, Tryd.results16, go_sem, k0, k1, k2, acV]) rfl
           ⟨rfl, grew_put (grew_put (grew_put HG6.out _ _ _ (Nat.le_refl _)) _ _ _ (Nat.le_refl _)) _ _ _ (Nat.le_refl _)⟩)
      | (have hFA : FA = none := HP.out.2 (by intro h; simp_all)
         subst hFA
         exact bodyPost_ret (v := .tuple #[acV 0 0 0, .int .i64 6]) (by simp [results, Tryd.results16, go_sem, k0, k1, k2, acV]) rfl
           ⟨rfl, grew_put (grew_put (grew_put HG6.out _ _ _ (Nat.le_refl _)) _ _ _ (Nat.le_refl _)) _ _ _ (Nat.le_refl _)⟩)
end Go.Proofs.YtefjdgggafkmoaaDoor.NumK
