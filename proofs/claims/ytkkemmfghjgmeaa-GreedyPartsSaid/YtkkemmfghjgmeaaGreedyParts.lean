/- The law GreedyParts. -/
import Derived.Test.YtkkemmfghjgmeaaGreedyGrows
import Derived.ArgAppend
namespace Go.Proofs.Ytkkemmfghjgmeaa.NumK
open Go.RowKit

/-! ### an append behind a guard that holds; an append of one made row to another -/
theorem wpList_wanted {P : Program} {ops : Array Oper} {Q : Exit → Act → World → Prop} {a : Act} {w : World} {rest : List Oper} {o : Oper} (hw : Region.wanted o (yielded ops a.tmps) = true)
    (h : wpList P ops Q ({ o with guard := none } :: rest) a w) : wpList P ops Q (o :: rest) a w := by
  have h2 : Region.wanted { o with guard := none } (yielded ops a.tmps) = true := by simp [Region.wanted]
  unfold wpList at h ⊢
  rw [if_pos h2] at h
  rw [if_pos hw]
  exact h

theorem wpList_append_rows {ops : Array Oper} {rest : List Oper} {o : Oper} {a : Act} {w : World} {Q : Exit → Act → World → Prop} (hgd : o.guard = none) (s x : Operand)
    (ho : o.op = .call { callee := .builtin .append, args := #[s, x], argTypes := #[22, 22] })
    (B C n m : Nat) (d e : Nat → Int) (hs : a.eval s = .slice (some ⟨B, 0, none⟩) n n) (hx : a.eval x = .slice (some ⟨C, 0, none⟩) m m) (hB : RowI w B n d) (hC : RowI w C m e) (h63 : n + m ≤ 1000000)
    (h : ∀ A c w', Ints w' A (n + m) ((List.range n).map d ++ (List.range m).map e) → Grew w w' → wpList Try.prog ops Q rest (a.put o.dst (.slice A (n + m) c)) w') : wpList Try.prog ops Q (o :: rest) a w := by
  obtain ⟨i, hi, hz0, hz1, hz2⟩ := info_parts info_i64
  have cell : ∀ (b k : Nat) (f : Nat → Int), RowI w b k f → ∀ j u, ((List.range k).map (fun j => Value.int .i64 (f j)))[j]? = some u → w.cell? ⟨b, 0 + j, none⟩ = some u := by
    intro b k f hf j u hu
    rw [List.getElem?_map] at hu
    obtain ⟨z, hz, rfl⟩ := Option.map_eq_some_iff.1 hu
    have hj : j < k := by have := (List.getElem?_eq_some_iff.1 hz).1; simpa using this
    have hzj : z = j := by simp [hj] at hz; exact hz.symm
    subst hzj
    rw [Nat.zero_add]; exact (hf.2 z hj).1
  refine wpList_append_arg w hgd s x 22 ho 3 i (.int .i64 0) 1 8 Try.underlying22 hi hz0 hz1 hz2 rfl (by decide) B 0 n n ((List.range n).map (fun j => Value.int .i64 (d j))) hs (by simp) (cell B n d hB)
    ⟨C, 0, none⟩ m m ((List.range m).map (fun j => Value.int .i64 (e j))) hx (by simp) (fun j u hu => ?_) (fun u hu => ?_) (fun hr j hj => ?_) (by unfold maxLen; omega) (by omega) (fun hr => ?_) (fun hr v' w' ho' hg => ?_)
  · rw [show (⟨C, 0, none⟩ : Addr).add j = ⟨C, 0 + j, none⟩ from by unfold Addr.add; split <;> simp_all]; exact cell C m e hC j u hu
  · obtain ⟨z, _, rfl⟩ := List.mem_map.1 hu
    rfl
  · simp at hj; omega
  · obtain rfl : m = 0 := by omega
    exact h (some ⟨B, 0, none⟩) n w (by simpa using hB.ints) (grew_refl w)
  · have e1 : (List.range n).map (fun j => Value.int .i64 (d j)) ++ (List.range m).map (fun j => Value.int .i64 (e j)) = ((List.range n).map d ++ (List.range m).map e).map (Value.int .i64) := by simp [Function.comp_def]
    rw [e1] at ho'
    obtain ⟨A, c, rfl, hI, _⟩ := ints_of_own ho'
    exact h A c w' hI ((Below.refl _ w).grown hg (Nat.le_refl _) (fun k hk => by cases hk))

/-! ### what falls on caps in two rows -/
theorem gr_take {T : Int} {l : List Int} {k : Nat} : ∀ j, j ≤ k → gr T (capAt (l.take k)) j = gr T (capAt l) j := by
  refine gr_congr fun j hj => ?_
  unfold capAt
  rw [List.getD_eq_getElem?_getD, List.getD_eq_getElem?_getD, List.getElem?_take, if_pos hj]
theorem gr_drop (T : Int) (l : List Int) (k : Nat) : ∀ j, gr (gr T (capAt l) k) (capAt (l.drop k)) j = gr T (capAt l) (k + j) := by
  intro j
  induction j with
  | zero => rfl
  | succ j ih =>
    have e : capAt (l.drop k) j = capAt l (k + j) := by unfold capAt; rw [List.getD_eq_getElem?_getD, List.getD_eq_getElem?_getD, List.getElem?_drop]
    show gr (gr T (capAt l) k) (capAt (l.drop k)) j - min (capAt (l.drop k) j) (gr (gr T (capAt l) k) (capAt (l.drop k)) j) = gr T (capAt l) (k + j) - min (capAt l (k + j)) (gr T (capAt l) (k + j))
    rw [ih, e]
theorem gp_two {T : Int} {l : List Int} {k n : Nat} (hk : k ≤ n) :
    (List.range k).map (gp T (capAt (l.take k))) ++ (List.range (n - k)).map (gp (gr T (capAt l) k) (capAt (l.drop k))) = (List.range n).map (gp T (capAt l)) := by
  refine List.ext_getElem? fun j => ?_
  by_cases h1 : j < k
  · rw [List.getElem?_append_left (by simpa using h1)]
    have h2 : j < n := by omega
    simp only [List.getElem?_map, List.getElem?_range, h1, h2, Option.map_some]
    have e : capAt (l.take k) j = capAt l j := by unfold capAt; rw [List.getD_eq_getElem?_getD, List.getD_eq_getElem?_getD, List.getElem?_take, if_pos h1]
    unfold gp
    rw [gr_take j (by omega), e]
  · rw [List.getElem?_append_right (by simp; omega)]
    simp only [List.length_map, List.length_range]
    by_cases h2 : j < n
    · have h3 : j - k < n - k := by omega
      simp only [List.getElem?_map, List.getElem?_range, h3, h2, Option.map_some]
      have e : capAt (l.drop k) (j - k) = capAt l j := by unfold capAt; rw [List.getD_eq_getElem?_getD, List.getD_eq_getElem?_getD, List.getElem?_drop, show k + (j - k) = j from by omega]
      unfold gp
      rw [gr_drop, show k + (j - k) = j from by omega, e]
    · rw [List.getElem?_eq_none (by simp; omega), List.getElem?_eq_none (by simp; omega)]

theorem chk_take {T : Int} {l : List Int} (k : Nat) (h : mayB T l = true) : chkE T (l.take k) = 0 := by
  obtain ⟨m1, m2, m3, m4, m5⟩ := mayB_chk h
  exact (mayB_chk (mayB_of m4 m5 (by rw [List.length_take]; omega) (fun x hx => m3 x (List.mem_of_mem_take hx)))).1
theorem chk_drop {T : Int} {l : List Int} (k : Nat) (h : mayB T l = true) (M : Int) (h0 : 0 ≤ M) (h1 : M ≤ 4611686018427387904) : chkE M (l.drop k) = 0 := by
  obtain ⟨m1, m2, m3, m4, m5⟩ := mayB_chk h
  exact (mayB_chk (mayB_of h0 h1 (by rw [List.length_drop]; omega) (fun x hx => m3 x (List.mem_of_mem_drop hx)))).1

theorem Ints.take {w : World} {b o n : Nat} {zs : List Int} (h : Ints w (some ⟨b, o, none⟩) n zs) (k : Nat) (hk : k ≤ n) : Ints w (some ⟨b, o, none⟩) k (zs.take k) := by
  refine ⟨by rw [List.length_take, h.1]; omega, fun h0 => ?_⟩
  obtain ⟨b', o', he, hb, hc⟩ := h.2 (by omega)
  cases he
  refine ⟨b, o, rfl, hb, fun j hj => ?_⟩
  rw [hc j (by omega)]
  simp [List.getD, hj]
theorem Ints.drop {w : World} {b o n : Nat} {zs : List Int} (h : Ints w (some ⟨b, o, none⟩) n zs) (k : Nat) (hk : k ≤ n) : Ints w (some ⟨b, o + k, none⟩) (n - k) (zs.drop k) := by
  refine ⟨by rw [List.length_drop, h.1], fun h0 => ?_⟩
  obtain ⟨b', o', he, hb, hc⟩ := h.2 (by omega)
  cases he
  refine ⟨b, o + k, rfl, hb, fun j hj => ?_⟩
  rw [Nat.add_assoc, hc (k + j) (by omega)]
  simp [List.getD, List.getElem?_drop]

set_option maxRecDepth 100000 in
set_option maxHeartbeats 4000000 in
theorem greedyParts_main (T : Int) (A A1 A2 : Option Addr) (n k c c1 c2 : Nat) (zs : List Int) (at' : Int) (w : World) (hz : Ints w A n zs) (hn : n ≤ 9223372036854775807) (hnc : n ≤ c) (hm1 : mayB T zs = true)
    (hU : (IntKind.u64.wrap at').tmod ((n : Int) + 1) = (k : Int)) (hk : k ≤ n)
    (h1 : Ints w A1 k (zs.take k)) (h2 : Ints w A2 (n - k) (zs.drop k))
    (s1 : ∀ w, (Instr.slice 22 (.slice A n c) none (some (.int .i64 k)) none).run Try.prog w = .ok (.slice A1 k c1) w)
    (s2 : ∀ w, (Instr.slice 22 (.slice A n c) (some (.int .i64 k)) none none).run Try.prog w = .ok (.slice A2 (n - k) c2) w) :
    Calls Try.prog 9 #[.int .i64 T, .slice A n c, .int .i64 at'] w fun e w' => e = .returned (.bool true) ∧ Grew w w' := by
  have C1 := may03_any T A n c zs w hz hn
  obtain ⟨m1, m2, m3, m4, m5⟩ := mayB_chk hm1
  rw [hm1] at C1
  have hl := hz.1
  have hn2 : n ≤ 200 := by omega
  have hgr := gr_bd (c := capAt zs) (n := n) m4 (fun j hj => (m3 _ (by unfold capAt; rw [List.getD_eq_getElem?_getD, List.getElem?_eq_getElem (by omega)]; exact List.getElem_mem _)).1) k hk
  have G1 := Lib.hid (fun w' (g : Grew w w') => greedy_got T A n c zs w' (hz.keep g) hn m1)
  have G2 := Lib.hid (fun w' (g : Grew w w') => greedy_got T A1 k c1 (zs.take k) w' (h1.keep g) (by omega) (chk_take k hm1))
  have G3 := Lib.hid (fun w' (g : Grew w w') => greedy_got (gr T (capAt zs) k) A2 (n - k) c2 (zs.drop k) w' (h2.keep g) (by omega) (chk_drop k hm1 _ hgr.1 (by omega)))
  have E2 : Hid (gr T (capAt (zs.take k)) k = gr T (capAt zs) k) := gr_take k (Nat.le_refl _)
  have E3 : Hid (gr (gr T (capAt zs) k) (capAt (zs.drop k)) (n - k) = gr T (capAt zs) n) := by show _ = _; rw [gr_drop, show k + (n - k) = n from by omega]
  have GP := Lib.hid (gp_two (T := T) (l := zs) hk)
  have hU0 : 0 ≤ IntKind.u64.wrap at' := by rw [IntKind.wrap_u64]; omega
  have u2 : IntKind.u64.wrap ((n : Int) + 1) = (n : Int) + 1 := by rw [IntKind.wrap_u64]; omega
  have k3 : (k : Int) ≤ (n : Int) := by omega
  have k4 : (n : Int) ≤ (c : Int) := by omega
  have CW := fun w => wakes03_any w
  have HK := Lib.hid hk
  clear hz h1 h2 m1 m3 hl hm1 hgr hk
  generalize hW : IntKind.u64.wrap at' = U at *
  generalize hE1 : gr T (capAt zs) n = g1 at *
  have E1 := Lib.hid hE1
  clear hE1
  generalize gr T (capAt zs) k = g2 at *
  go_enter Try.func9, Try.ntmps9
  go_wp2_with (first
    | (go_at_call 18; ((with_reducible refine C1.mono ?_); rintro e w1 ⟨rfl, hg1⟩; have HG1 := Lib.hid hg1; clear hg1))
    | (go_at_call 15; ((with_reducible refine (G1.out _ HG1.out).mono ?_); rintro e w2 ⟨B1, hB1, rfl, hR1, hg2⟩; rw [E1.out]; have HR1 := Lib.hid hR1; have HG2 : Hid (Grew w w2) := grew_trans HG1.out hg2; clear hR1 hg2 hB1))
    | (go_at_call 15; ((with_reducible refine (G2.out _ HG2.out).mono ?_); rintro e w3 ⟨B2, hB2, rfl, hR2, hg3⟩; rw [E2.out]; have HR2 := Lib.hid hR2; have HR1' := Lib.hid (HR1.out.keep hg3); have HG3 : Hid (Grew w w3) := grew_trans HG2.out hg3; clear hR2 hg3 hB2 HR1))
    | (go_at_call 15; ((with_reducible refine (G3.out _ HG3.out).mono ?_); rintro e w4 ⟨B3, hB3, rfl, hR3, hg4⟩; rw [E3.out]; have HR3 := Lib.hid hR3; have HR2' := Lib.hid (HR2.out.keep hg4); have HR1'' := Lib.hid (HR1'.out.keep hg4); have HG4 : Hid (Grew w w4) := grew_trans HG3.out hg4; clear hR3 hg4 hB3 HR2 HR1'))
    | (at_builtin; refine wpList_wanted (by rfl) (wpList_append_rows rfl _ _ rfl B2 B3 k (n - k) _ _ rfl rfl HR2'.out HR3.out (by omega) ?_); intro A5 c5 w5 hI5 hg5; rw [show k + (n - k) = n from by have := HK.out; omega]; rw [GP.out, show k + (n - k) = n from by have := HK.out; omega] at hI5; have HI5 := Lib.hid hI5; have HR9 := Lib.hid (HR1''.out.keep hg5); have HG5 : Hid (Grew w w5) := grew_trans HG4.out hg5; clear hI5 hg5)
    | (go_at_call 13; ((with_reducible refine (keepInts_any A5 (some ⟨B1, 0, none⟩) n n c5 n _ _ w5 HI5.out HR9.out.ints (by omega) (by omega)).mono ?_); rintro e w6 ⟨rfl, hg6⟩; rw [decide_eq_true rfl]; have HG6 : Hid (Grew w w6) := grew_trans HG5.out hg6; clear hg6))
    | (go_at_call 17; ((with_reducible refine (CW _).mono ?_); rintro e w8 ⟨rfl, hg8⟩; have HG9 := Lib.hid hg8; clear hg8)))
  go_ret
  exact ⟨rfl, grew_trans HG6.out HG9.out⟩

theorem greedyParts_walk (T : Int) (A : Option Addr) (n c : Nat) (zs : List Int) (at' : Int) (w : World) (hz : Ints w A n zs) (hA : A = none → c = 0) (hn : n ≤ 9223372036854775807) (hnc : n ≤ c ∧ c ≤ 9223372036854775807) :
    Calls Try.prog 9 #[.int .i64 T, .slice A n c, .int .i64 at'] w fun e w' => e = .returned (.bool true) ∧ Grew w w' := by
  by_cases hm1 : mayB T zs = true
  · obtain ⟨U, hU⟩ : ∃ U, U = IntKind.u64.wrap at' := ⟨_, rfl⟩
    have hU0 : 0 ≤ U := by rw [hU, IntKind.wrap_u64]; omega
    obtain ⟨k, hk⟩ : ∃ k : Nat, U % ((n : Int) + 1) = (k : Int) := ⟨(U % ((n : Int) + 1)).toNat, by have := Int.emod_nonneg U (show (n : Int) + 1 ≠ 0 by omega); omega⟩
    have hkn : k ≤ n := by have := Int.emod_lt_of_pos U (show (0 : Int) < (n : Int) + 1 by omega); omega
    have hkU : (IntKind.u64.wrap at').tmod ((n : Int) + 1) = (k : Int) := by rw [← hU, Int.tmod_eq_emod_of_nonneg hU0]; exact hk
    have sz : ∀ w, (sizeOf 3).run Try.prog w = .ok 1 w := fun w => by kernel_rfl
    have el : Try.prog.elem 22 = 3 := by kernel_rfl
    have ht : Try.prog.underlying 22 = some (.slice (Try.prog.elem 22)) := by rw [el]; exact Try.underlying22
    have S1 : ∀ w, (Instr.slice 22 (.slice A n c) none (some (.int .i64 k)) none).run Try.prog w = .ok (sliced A 0 k c 1) w := fun w => by
      rw [run_slice_h w 22 A n c ht .i64 k (by omega) (by omega), el, sz]; simp [Result.andThen]
    have S2 : ∀ w, (Instr.slice 22 (.slice A n c) (some (.int .i64 k)) none none).run Try.prog w = .ok (sliced A k n c 1) w := fun w => by
      rw [run_slice_l w 22 A n c ht .i64 k (by omega) (by omega), el, sz]; simp [Result.andThen]
    have e1 : sliced A 0 k c 1 = .slice A k c := by
      cases A with
      | none => simp [sliced]
      | some a => simp [sliced, Addr.add]
    rw [e1] at S1
    cases A with
    | none =>
      have hc := hA rfl
      obtain rfl : n = 0 := by omega
      obtain rfl : k = 0 := by omega
      have hl : zs = [] := List.eq_nil_of_length_eq_zero hz.1
      subst hl
      refine greedyParts_main T none none none 0 0 c c (c - 0) [] at' w hz hn hnc.1 hm1 hkU hkn hz hz S1 (fun w => (S2 w).trans ?_)
      simp [sliced]
    | some a =>
      by_cases h0 : n = 0
      · subst h0
        obtain rfl : k = 0 := by omega
        have hl : zs = [] := List.eq_nil_of_length_eq_zero hz.1
        subst hl
        have hI : ∀ A, Ints w A 0 [] := fun A => ints0 w A
        exact greedyParts_main T (some a) (some a) _ 0 0 c c (c - 0) [] at' w hz hn hnc.1 hm1 hkU hkn hz (hI _) S1 (fun w => S2 w)
      · obtain ⟨b, o, he, hb, hc⟩ := hz.2 (by omega)
        cases he
        refine greedyParts_main T (some ⟨b, o, none⟩) (some ⟨b, o, none⟩) _ n k c c (c - k) zs at' w hz hn hnc.1 hm1 hkU hkn (hz.take k hkn) ?_ S1 (fun w => S2 w)
        split
        · next h =>
          have hnk : n = k := by omega
          refine ⟨by rw [List.length_drop, hz.1], fun h0 => by omega⟩
        · have : (Option.map (fun x => x.add (k * 1)) (some (⟨b, o, none⟩ : Addr))) = some ⟨b, o + k, none⟩ := by simp [Addr.add]
          rw [this]
          exact hz.drop k hkn
  · have C1 := may03_any T A n c zs w hz hn
    simp only [Bool.not_eq_true] at hm1
    rw [hm1] at C1
    clear hm1 hz
    go_enter Try.func9, Try.ntmps9
    go_wp2_with (go_at_call 18; ((with_reducible refine C1.mono ?_); rintro e w1 ⟨rfl, hg1⟩; have HG1 := Lib.hid hg1; clear hg1))
    go_ret
    exact ⟨rfl, HG1.out⟩
end Go.Proofs.Ytkkemmfghjgmeaa.NumK
