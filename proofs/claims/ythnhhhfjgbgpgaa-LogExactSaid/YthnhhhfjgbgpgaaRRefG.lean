/- The reference of frame: First. -/
import Derived.Test.YthnhhhfjgbgpgaaRRefF
import Derived.Test.YthnhhhfjgbgpgaaRFrame
import Derived.Deep.RegionLaw
import Derived.Deep.QuietTactic
import Derived.BigQuiet
namespace Go.Proofs.Ythnhhhfjgbgpgaa.NumK
open Go.RowKit

theorem quiet_same {P : Program} {f : FuncId} {args : Array Value} {w : World} {n : Nat} {v : Value}
    (h : Calls P f args (w.drewN n) fun e w' => e = .returned v ∧ w.drewN n = w') : Calls P f args (w.drewN n) fun e w'' => e = .returned v ∧ ∃ m, w'' = w.drewN m :=
  h.mono fun _ _ ⟨he, hm⟩ => ⟨he, n, hm.symm⟩

/-- append as one step of a region that draws: bytes to a row of the call's own. -/
theorem step_append_bytes {ops : Array Oper} {o : Oper} {a : Act} {w : World} {K : Act → World → Prop} {Q : Exit → Act → World → Prop} {E : Prop} (hgd : o.guard = none) (s x : Operand)
    (ho : o.op = .call { callee := .builtin .append, args := #[s, x], argTypes := #[37, 37] })
    (base : Nat) (v : Value) (n : Nat) (xs : List UInt8) (hs : a.eval s = v) (hown : w.ownsRow base 5 1 v n (xs.map byv))
    (A : Option Addr) (m c : Nat) (zs : List UInt8) (hx : a.eval x = .slice A m c) (hA : A ≠ none) (hI : Bys w A m zs)
    (h63 : n + m ≤ 140737488355328) (hbase : base ≤ w.heap.size)
    (h : ∀ v' w', w'.ownsRow base 5 1 v' (n + m) ((xs ++ zs).map byv) → Below base w w' → K (a.put o.dst v') w') : if Region.wanted o (yielded ops a.tmps) = true then Oper.wp Try.prog o a w K Q else E := by
  have hw : Region.wanted o (yielded ops a.tmps) = true := by simp [Region.wanted, hgd]
  rw [if_pos hw]
  obtain ⟨i, hi, hz0, hz1, hz2⟩ := info_parts info_u8
  have hl := hI.1
  cases A with
  | none => exact absurd rfl hA
  | some ad =>
    refine wp_append_own w s x 37 ho base 5 i (.int .u8 0) 1 1 Try.underlying37 hi hz0 hz1 hz2 rfl (by decide) v n _ hs hown ad m c (zs.map byv) hx
      (by simp [hl]) (fun j u hu => ?_) (fun u hu => ?_) (by unfold maxLen; omega) (by omega) hbase (fun v' w' ho' hg _ => ?_)
    · rw [List.getElem?_map] at hu
      obtain ⟨z, hz, rfl⟩ := Option.map_eq_some_iff.1 hu
      have hj : j < m := by rw [← hl]; exact (List.getElem?_eq_some_iff.1 hz).1
      obtain ⟨b, off, he, _, hc⟩ := hI.2 (by omega)
      cases he
      rw [addr_add, hc j hj]
      simp [List.getD, hz, byv]
    · obtain ⟨z, _, rfl⟩ := List.mem_map.1 hu
      rfl
    · refine h v' w' (by rw [List.map_append]; exact ho') ((Below.refl base w).grown hg hbase fun k hk => ?_)
      exact (hown.lt k hk).1

/-- What the reference's First tells of the bytes l. -/
def RefFirstPost (l : List UInt8) (w : World) (e : Ending) (w' : World) : Prop :=
  Grew w w' ∧ ((frs l = none ∧ e = .returned (.tuple #[.int .i64 0, .int .i64 0, .slice none 0 0, .int .i64 0, .bool false])) ∨
    ∃ g m s v, frs l = some (g, m, s) ∧ e = .returned (.tuple #[.int .i64 (g : Int), .int .i64 (m : Int), v, .int .i64 ((21 + s : Nat) : Int), .bool true]) ∧ w'.ownsRow w.heap.size 5 1 v s (((l.drop 21).take s).map byv))

theorem frs_sum {l : List UInt8} {s : Nat} (hs : s = num ((l.drop 13).take 4)) (h : l.length < 21 + s ∨ num ((l.drop 17).take 4) ≠ crc ((l.drop 1).take 16 ++ (l.drop 21).take s)) : frs l = none := by
  subst hs
  unfold frs
  split
  · rfl
  · split
    · rfl
    · first | rfl | rw [if_pos h]
theorem frs_all2 {l : List UInt8} {s : Nat} (h21 : 21 ≤ l.length) (h0 : l.getD 0 0 = 195) (h1 : num ((l.drop 1).take 8) ≤ 1099511627776) (h2 : num ((l.drop 9).take 4) ≤ 2147483647) (hs : num ((l.drop 13).take 4) = s) (h3 : s ≤ 65536) (h4 : 21 + s ≤ l.length) (h5 : num ((l.drop 17).take 4) = crc ((l.drop 1).take 16 ++ (l.drop 21).take s)) :
    frs l = some (num ((l.drop 1).take 8), num ((l.drop 9).take 4), s) := by
  unfold frs
  rw [if_neg (by rw [not_or]; exact ⟨by omega, fun h => h h0⟩), hs, if_neg (by omega), if_neg (by rw [not_or]; exact ⟨by omega, fun h => h h5⟩)]

set_option maxRecDepth 100000 in
set_option maxHeartbeats 4000000 in
theorem refFirst_ok (b o n c : Nat) (l : List UInt8) (w : World) (h : Bys w (some ⟨b, o, none⟩) n l) (hc : n ≤ c) (hn : c ≤ 9223372036854775807) (h21 : ¬ n < 21) (h0 : l.getD 0 0 = 195)
    (q1 : num ((l.drop 1).take 8) ≤ 1099511627776) (q2 : num ((l.drop 9).take 4) ≤ 2147483647) (q3 : num ((l.drop 13).take 4) ≤ 65536) (k4 : ¬ n < 21 + num ((l.drop 13).take 4)) :
    Calls Try.prog 68 #[.slice (some ⟨b, o, none⟩) n c] w (RefFirstPost l w) := by
  have hl := h.1
  have a0 := h.cell (j := 0) (by omega)
  rw [Nat.add_zero] at a0
  have d1 : ¬ (n : Int) < 21 := by omega
  have hu : (l.getD 0 0).toNat = 195 := by rw [h0]; rfl
  rw [hu] at a0
  have CN1 : Hid (∀ w', Grew w w' → Calls Try.prog 73 #[.slice (some ⟨b, o + 1, none⟩) 8 (c - 1)] w' fun e w'' => e = .returned (.int .u64 (num ((l.drop 1).take 8) : Int)) ∧ w' = w'') := fun w' g => refNumber_any (some ⟨b, o + 1, none⟩) 8 (c - 1) ((l.drop 1).take 8) w' (((h.keep g).drop (k := 1) (by omega)).take (k := 8) (by omega)) (by omega)
  have CN2 : Hid (∀ w', Grew w w' → Calls Try.prog 73 #[.slice (some ⟨b, o + 9, none⟩) 4 (c - 9)] w' fun e w'' => e = .returned (.int .u64 (num ((l.drop 9).take 4) : Int)) ∧ w' = w'') := fun w' g => refNumber_any (some ⟨b, o + 9, none⟩) 4 (c - 9) ((l.drop 9).take 4) w' (((h.keep g).drop (k := 9) (by omega)).take (k := 4) (by omega)) (by omega)
  have CN3 : Hid (∀ w', Grew w w' → Calls Try.prog 73 #[.slice (some ⟨b, o + 13, none⟩) 4 (c - 13)] w' fun e w'' => e = .returned (.int .u64 (num ((l.drop 13).take 4) : Int)) ∧ w' = w'') := fun w' g => refNumber_any (some ⟨b, o + 13, none⟩) 4 (c - 13) ((l.drop 13).take 4) w' (((h.keep g).drop (k := 13) (by omega)).take (k := 4) (by omega)) (by omega)
  obtain ⟨G, hG⟩ : ∃ G : Int, G = ((num ((l.drop 1).take 8) : Nat) : Int) := ⟨_, rfl⟩
  obtain ⟨M, hM⟩ : ∃ M : Int, M = ((num ((l.drop 9).take 4) : Nat) : Int) := ⟨_, rfl⟩
  obtain ⟨s, hs⟩ : ∃ s : Nat, s = num ((l.drop 13).take 4) := ⟨_, rfl⟩
  rw [← hG] at CN1
  rw [← hM] at CN2
  rw [← hs] at CN3
  have j0 : (n : Int) ≤ 9223372036854775807 := by omega
  have j1 : (17 : Int) ≤ (c : Int) := by omega
  have j2 : (9 : Int) ≤ (c : Int) := by omega
  have j3 : (13 : Int) ≤ (c : Int) := by omega
  have k1 : ¬ 1099511627776 < G := by omega
  have k2 : ¬ 2147483647 < M := by omega
  have k3' : ¬ (65536 : Int) < (s : Int) := by omega
  have w7 : IntKind.i64.wrap (s : Int) = (s : Int) := by rw [IntKind.wrap_i64]; omega
  rw [← hs] at k4 q3
  have k4' : ¬ (n : Int) - 21 < (s : Int) := by omega
  have hs0 := hs
  obtain ⟨N, hN⟩ : ∃ N : Nat, N = s + 21 := ⟨_, rfl⟩
  have w6 : IntKind.i64.wrap ((s : Int) + 21) = (N : Int) := by rw [IntKind.wrap_i64]; omega
  have w8 : IntKind.i64.wrap G = G := by rw [IntKind.wrap_i64]; omega
  have w9 : IntKind.i64.wrap M = M := by rw [IntKind.wrap_i64]; omega
  have i2 : (N : Int) ≤ (c : Int) := by omega
  have i3 : (21 : Int) ≤ (N : Int) := by omega
  have i4 : (21 : Int) ≤ (c : Int) := by omega
  obtain ⟨oo, hAA⟩ : ∃ oo : Nat, (if c = 21 then some (⟨b, o, none⟩ : Addr) else some ⟨b, o + 21, none⟩) = some ⟨b, oo, none⟩ := by
    split
    · exact ⟨_, rfl⟩
    · exact ⟨_, rfl⟩
  have HB2 : Hid (∀ w1, Grew w w1 → Bys w1 (some ⟨b, oo, none⟩) (N - 21) ((l.drop 21).take (N - 21))) := fun w1 hg => by rw [← hAA]; exact bys_cut (t := 21) (T := N) (h.keep hg) (by omega) (by omega) hc
  have HB1 : Hid (∀ w1, Grew w w1 → Bys w1 (some ⟨b, o + 1, none⟩) 16 ((l.drop 1).take 16)) := fun w1 hg => ((h.keep hg).drop (k := 1) (by omega)).take (k := 16) (by omega)
  have hne1 : ¬ c = 1 := by omega
  have hne17 : ¬ c = 17 := by omega
  have CN4 : Hid (∀ w', Grew w w' → Calls Try.prog 73 #[.slice (some ⟨b, o + 17, none⟩) 4 (c - 17)] w' fun e w'' => e = .returned (.int .u64 (num ((l.drop 17).take 4) : Int)) ∧ w' = w'') := fun w' g => refNumber_any (some ⟨b, o + 17, none⟩) 4 (c - 17) ((l.drop 17).take 4) w' (((h.keep g).drop (k := 17) (by omega)).take (k := 4) (by omega)) (by omega)
  have HSUB : Hid (N - 21 = s) := by show _ = _; omega
  have hN9 : N ≤ 70000 := by omega
  have HNO : Hid (num ((l.drop 17).take 4) ≠ crc ((l.drop 1).take 16 ++ (l.drop 21).take (N - 21)) → ∀ w', Grew w w' → RefFirstPost l w (.returned (.tuple #[.int .i64 0, .int .i64 0, .slice none 0 0, .int .i64 0, .bool false])) w') := fun hne w' g => ⟨g, Or.inl ⟨frs_sum hs (Or.inr (by rw [HSUB.out] at hne; exact hne)), rfl⟩⟩
  have HYES : Hid (num ((l.drop 17).take 4) = crc ((l.drop 1).take 16 ++ (l.drop 21).take (N - 21)) → ∀ v2 w', Grew w w' → w'.ownsRow w.heap.size 5 1 v2 (N - 21) (((l.drop 21).take (N - 21)).map byv) → RefFirstPost l w (.returned (.tuple #[.int .i64 G, .int .i64 M, v2, .int .i64 (N : Int), .bool true])) w') :=
    fun he v2 w' g ho => ⟨g, Or.inr ⟨_, _, s, v2, frs_all2 (by omega) h0 (by omega) (by omega) hs.symm (by omega) (by omega) (by rw [HSUB.out] at he; exact he), by rw [hG, hM, hN, Nat.add_comm 21 s], by rw [HSUB.out] at ho; exact ho⟩⟩
  have hcr := crc_lt ((l.drop 1).take 16 ++ (l.drop 21).take (N - 21))
  clear h hc hn hl h21 h0 hu hG hM hs k4 q1 q2 q3 hs0 hN
  generalize (l.drop 1).take 16 = L1 at *
  generalize (l.drop 21).take (N - 21) = L2 at *
  generalize num ((l.drop 17).take 4) = V at *
  go_enter Try.func68, Try.ntmps68
  go_wp2
  go_quiet (first
    | (go_at_call 73; with_reducible exact quiet_same (CN1.out _ (grew_drewN (grew_refl _) _)))
    | (go_at_call 73; with_reducible exact quiet_same (CN2.out _ (grew_drewN (grew_refl _) _)))
    | (go_at_call 73; with_reducible exact quiet_same (CN3.out _ (grew_drewN (grew_refl _) _))))
  have HG2 : Hid (Grew w (w.drewN nq)) := grew_drewN (grew_refl _) _
  generalize w.drewN nq = w2 at HG2 ⊢
  go_wp2
  have HG3 : Hid (Grew w w2.drew) := grew_trans HG2.out (Below.drew (grew_refl _))
  have HS3 : Hid (w.heap.size ≤ w2.drew.heap.size) := HG3.out.size
  go_region_law (first
    | (refine step_append_bytes rfl _ _ rfl w.heap.size (.slice none 0 0) 0 [] rfl (World.ownsRow_nil _ _ _ _) (some ⟨b, o + 1, none⟩) 16 (c - 1) L1 rfl (by intro e; cases e) (HB1.out _ HG3.out) (by omega) HS3.out ?_; intro v4 w4 hv hb; have HV4 := Lib.hid hv; have HG4 := Lib.hid (HG3.out.trans hb); have HS4 := Lib.hid HG4.out.size; clear hv hb)
    | (refine step_append_bytes rfl _ _ rfl w.heap.size v4 (0 + 16) ([] ++ L1) rfl HV4.out (some ⟨b, oo, none⟩) (N - 21) (c - 21) L2 rfl (by intro e; cases e) (HB2.out _ HG4.out) (by omega) HS4.out ?_; intro v5 w5 hv hb; have HV5 := Lib.hid hv; have HG5 := Lib.hid (HG4.out.trans hb); clear hv hb))
  obtain ⟨A7, c7, rfl, hb7, _, _, _, _⟩ := bys_own2 HV5.out
  rw [List.nil_append, Nat.zero_add] at hb7
  have CS : Hid (∀ w', Grew w5 w' → Calls Try.prog 64 #[.slice A7 (0 + 16 + (N - 21)) c7] w' fun e w'' => e = .returned (.int .u32 (crc (L1 ++ L2) : Int)) ∧ w' = w'') := fun w' g => by rw [Nat.zero_add]; exact refSum_any A7 (16 + (N - 21)) c7 (L1 ++ L2) w' (hb7.keep g) (by omega)
  clear hb7 HV4 HV5 HG4 HS4 HG3 HS3 HB1
  have CN5 : Hid (∀ w', Grew w5 w' → Calls Try.prog 73 #[.slice (some ⟨b, o + 17, none⟩) 4 (c - 17)] w' fun e w'' => e = .returned (.int .u64 (V : Int)) ∧ w' = w'') := fun w' g => CN4.out w' (grew_trans HG5.out g)
  have w10 : IntKind.u64.wrap ((crc (L1 ++ L2) : Nat) : Int) = ((crc (L1 ++ L2) : Nat) : Int) := by rw [IntKind.wrap_u64]; omega
  generalize crc (L1 ++ L2) = Z at *
  clear CN1 CN2 CN3 CN4
  by_cases hvz : V = Z
  · have d5 : ((Z : Int) != (V : Int)) = false := by rw [hvz]; simp
    have HY := Lib.hid (HYES.out hvz)
    clear hvz HYES HNO
    go_wp2
    go_quiet (first
      | (go_at_call 64; with_reducible exact quiet_same (CS.out _ (grew_drewN (grew_refl _) _)))
      | (go_at_call 73; with_reducible exact quiet_same (CN5.out _ (grew_drewN (grew_refl _) _))))
    have HG6 : Hid (Grew w (w5.drewN nq)) := grew_trans HG5.out (grew_drewN (grew_refl _) _)
    generalize w5.drewN nq = w6 at HG6 ⊢
    have HS6 := Lib.hid HG6.out.size
    have HB6 := Lib.hid (HB2.out _ HG6.out)
    go_wp2_with (at_builtin; refine (wpList_append_bytes rfl _ _ rfl w.heap.size (.slice none 0 0) 0 [] rfl (World.ownsRow_nil _ _ _ _) (some ⟨b, oo, none⟩) (N - 21) (c - 21) L2 rfl (by intro e; cases e) HB6.out (by omega) HS6.out ?_); intro v7 w7 hv hb; rw [Nat.zero_add, List.nil_append] at hv; have HV7 := Lib.hid hv; have HG7 := Lib.hid (HG6.out.trans hb); clear hv hb)
    (try simp only [Exit.inBlock, Exit.then]); refine bodyPost_ret (results_tmp5 rfl _ _ _) rfl ?_
    exact HY.out _ _ HG7.out HV7.out
  · have d5 : ((Z : Int) != (V : Int)) = true := by simp; omega
    have HN := Lib.hid (HNO.out hvz)
    clear hvz HYES HNO
    go_wp2
    go_quiet (first
      | (go_at_call 64; with_reducible exact quiet_same (CS.out _ (grew_drewN (grew_refl _) _)))
      | (go_at_call 73; with_reducible exact quiet_same (CN5.out _ (grew_drewN (grew_refl _) _))))
    have HG6 : Hid (Grew w (w5.drewN nq)) := grew_trans HG5.out (grew_drewN (grew_refl _) _)
    generalize w5.drewN nq = w6 at HG6 ⊢
    go_wp2
    (try simp only [Exit.inBlock, Exit.then]); refine bodyPost_ret (results_tmp5 rfl _ _ _) rfl ?_
    exact HN.out _ HG6.out
end Go.Proofs.Ythnhhhfjgbgpgaa.NumK
namespace Go.Proofs.Ythnhhhfjgbgpgaa.NumK
open Go.RowKit

set_option maxRecDepth 100000 in
set_option maxHeartbeats 2000000 in
theorem refFirst_any (A : Option Addr) (n c : Nat) (l : List UInt8) (w : World) (h : Bys w A n l) (hA : A = none → c = 0) (hc : n ≤ c) (hn : c ≤ 9223372036854775807) :
    Calls Try.prog 68 #[.slice A n c] w (RefFirstPost l w) := by
  have hl := h.1
  by_cases h21 : n < 21
  · have d1 : (n : Int) < 21 := by omega
    have HP : Hid (RefFirstPost l w (.returned (.tuple #[.int .i64 0, .int .i64 0, .slice none 0 0, .int .i64 0, .bool false])) w) := ⟨grew_refl _, Or.inl ⟨frs_short (by omega), rfl⟩⟩
    clear h hA hc hn hl h21
    go_enter Try.func68, Try.ntmps68
    go_wp2
    (try simp only [Exit.inBlock, Exit.then]); refine bodyPost_ret (results_tmp5 rfl _ _ _) rfl ?_
    exact HP.out
  · obtain ⟨b, o, rfl, _, hcell⟩ := h.2 (by omega)
    have a0 := hcell 0 (by omega)
    rw [Nat.add_zero] at a0
    have d1 : ¬ (n : Int) < 21 := by omega
    by_cases h0 : l.getD 0 0 = 195
    · have hu : (l.getD 0 0).toNat = 195 := by rw [h0]; rfl
      rw [hu] at a0
      have CN1 : Hid (∀ w', Grew w w' → Calls Try.prog 73 #[.slice (some ⟨b, o + 1, none⟩) 8 (c - 1)] w' fun e w'' => e = .returned (.int .u64 (num ((l.drop 1).take 8) : Int)) ∧ w' = w'') := fun w' g => refNumber_any (some ⟨b, o + 1, none⟩) 8 (c - 1) ((l.drop 1).take 8) w' (((h.keep g).drop (k := 1) (by omega)).take (k := 8) (by omega)) (by omega)
      have CN2 : Hid (∀ w', Grew w w' → Calls Try.prog 73 #[.slice (some ⟨b, o + 9, none⟩) 4 (c - 9)] w' fun e w'' => e = .returned (.int .u64 (num ((l.drop 9).take 4) : Int)) ∧ w' = w'') := fun w' g => refNumber_any (some ⟨b, o + 9, none⟩) 4 (c - 9) ((l.drop 9).take 4) w' (((h.keep g).drop (k := 9) (by omega)).take (k := 4) (by omega)) (by omega)
      have CN3 : Hid (∀ w', Grew w w' → Calls Try.prog 73 #[.slice (some ⟨b, o + 13, none⟩) 4 (c - 13)] w' fun e w'' => e = .returned (.int .u64 (num ((l.drop 13).take 4) : Int)) ∧ w' = w'') := fun w' g => refNumber_any (some ⟨b, o + 13, none⟩) 4 (c - 13) ((l.drop 13).take 4) w' (((h.keep g).drop (k := 13) (by omega)).take (k := 4) (by omega)) (by omega)
      obtain ⟨G, hG⟩ : ∃ G : Int, G = ((num ((l.drop 1).take 8) : Nat) : Int) := ⟨_, rfl⟩
      obtain ⟨M, hM⟩ : ∃ M : Int, M = ((num ((l.drop 9).take 4) : Nat) : Int) := ⟨_, rfl⟩
      obtain ⟨s, hs⟩ : ∃ s : Nat, s = num ((l.drop 13).take 4) := ⟨_, rfl⟩
      rw [← hG] at CN1
      rw [← hM] at CN2
      rw [← hs] at CN3
      have j0 : (n : Int) ≤ 9223372036854775807 := by omega
      have j1 : (17 : Int) ≤ (c : Int) := by omega
      have j2 : (9 : Int) ≤ (c : Int) := by omega
      have j3 : (13 : Int) ≤ (c : Int) := by omega
      by_cases k1 : 1099511627776 < G
      · have HP : Hid (∀ w', Grew w w' → RefFirstPost l w (.returned (.tuple #[.int .i64 0, .int .i64 0, .slice none 0 0, .int .i64 0, .bool false])) w') := fun w' g => ⟨g, Or.inl ⟨frs_nums (Or.inl (by omega)), rfl⟩⟩
        clear h hA hc hn hl h21 hcell h0 hu hG hM hs
        go_enter Try.func68, Try.ntmps68
        go_wp2
        go_quiet (first
          | (go_at_call 73; with_reducible exact quiet_same (CN1.out _ (grew_drewN (grew_refl _) _)))
          | (go_at_call 73; with_reducible exact quiet_same (CN2.out _ (grew_drewN (grew_refl _) _)))
          | (go_at_call 73; with_reducible exact quiet_same (CN3.out _ (grew_drewN (grew_refl _) _))))
        go_wp2
        (try simp only [Exit.inBlock, Exit.then]); refine bodyPost_ret (results_tmp5 rfl _ _ _) rfl ?_
        exact HP.out _ (grew_drewN (grew_refl _) _)
      · by_cases k2 : 2147483647 < M
        · have HP : Hid (∀ w', Grew w w' → RefFirstPost l w (.returned (.tuple #[.int .i64 0, .int .i64 0, .slice none 0 0, .int .i64 0, .bool false])) w') := fun w' g => ⟨g, Or.inl ⟨frs_nums (Or.inr (Or.inl (by omega))), rfl⟩⟩
          clear h hA hc hn hl h21 hcell h0 hu hG hM hs
          go_enter Try.func68, Try.ntmps68
          go_wp2
          go_quiet (first
            | (go_at_call 73; with_reducible exact quiet_same (CN1.out _ (grew_drewN (grew_refl _) _)))
            | (go_at_call 73; with_reducible exact quiet_same (CN2.out _ (grew_drewN (grew_refl _) _)))
            | (go_at_call 73; with_reducible exact quiet_same (CN3.out _ (grew_drewN (grew_refl _) _))))
          go_wp2
          (try simp only [Exit.inBlock, Exit.then]); refine bodyPost_ret (results_tmp5 rfl _ _ _) rfl ?_
          exact HP.out _ (grew_drewN (grew_refl _) _)
        · by_cases k3 : 65536 < s
          · have HP : Hid (∀ w', Grew w w' → RefFirstPost l w (.returned (.tuple #[.int .i64 0, .int .i64 0, .slice none 0 0, .int .i64 0, .bool false])) w') := fun w' g => ⟨g, Or.inl ⟨frs_nums (Or.inr (Or.inr (by omega))), rfl⟩⟩
            have k3' : (65536 : Int) < (s : Int) := by omega
            clear h hA hc hn hl h21 hcell h0 hu hG hM hs k3
            go_enter Try.func68, Try.ntmps68
            go_wp2
            go_quiet (first
              | (go_at_call 73; with_reducible exact quiet_same (CN1.out _ (grew_drewN (grew_refl _) _)))
              | (go_at_call 73; with_reducible exact quiet_same (CN2.out _ (grew_drewN (grew_refl _) _)))
              | (go_at_call 73; with_reducible exact quiet_same (CN3.out _ (grew_drewN (grew_refl _) _))))
            go_wp2
            (try simp only [Exit.inBlock, Exit.then]); refine bodyPost_ret (results_tmp5 rfl _ _ _) rfl ?_
            exact HP.out _ (grew_drewN (grew_refl _) _)
          · have k3' : ¬ (65536 : Int) < (s : Int) := by omega
            have w7 : IntKind.i64.wrap (s : Int) = (s : Int) := by rw [IntKind.wrap_i64]; omega
            by_cases k4 : n < 21 + s
            · have HP : Hid (∀ w', Grew w w' → RefFirstPost l w (.returned (.tuple #[.int .i64 0, .int .i64 0, .slice none 0 0, .int .i64 0, .bool false])) w') := fun w' g => ⟨g, Or.inl ⟨frs_sum hs (Or.inl (by omega)), rfl⟩⟩
              have k4' : (n : Int) - 21 < (s : Int) := by omega
              clear h hA hc hn hl h21 hcell h0 hu hG hM hs k3 k4
              go_enter Try.func68, Try.ntmps68
              go_wp2
              go_quiet (first
                | (go_at_call 73; with_reducible exact quiet_same (CN1.out _ (grew_drewN (grew_refl _) _)))
                | (go_at_call 73; with_reducible exact quiet_same (CN2.out _ (grew_drewN (grew_refl _) _)))
                | (go_at_call 73; with_reducible exact quiet_same (CN3.out _ (grew_drewN (grew_refl _) _))))
              go_wp2
              (try simp only [Exit.inBlock, Exit.then]); refine bodyPost_ret (results_tmp5 rfl _ _ _) rfl ?_
              exact HP.out _ (grew_drewN (grew_refl _) _)
            · exact refFirst_ok b o n c l w h hc hn h21 h0 (by omega) (by omega) (by omega) (by omega)
    · have hu : ((l.getD 0 0).toNat : Int) ≠ 195 := by
        intro e
        exact h0 (UInt8.toNat_inj.1 (by show (l.getD 0 0).toNat = 195; omega))
      have HP : Hid (RefFirstPost l w (.returned (.tuple #[.int .i64 0, .int .i64 0, .slice none 0 0, .int .i64 0, .bool false])) w) := ⟨grew_refl _, Or.inl ⟨frs_byte h0, rfl⟩⟩
      generalize (l.getD 0 0).toNat = u at *
      have d2 : ((u : Int) != 195) = true := by simpa using hu
      clear h hA hc hn hl h21 hcell h0 hu
      go_enter Try.func68, Try.ntmps68
      go_wp2
      (try simp only [Exit.inBlock, Exit.then]); refine bodyPost_ret (results_tmp5 rfl _ _ _) rfl ?_
      exact HP.out
end Go.Proofs.Ythnhhhfjgbgpgaa.NumK
