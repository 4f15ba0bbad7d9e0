/-
  For every slice of trades: entered in their order or the other way round, they lead to the same positions and numbers; more than 60 trades, or great ones, the statement lets by.
-/
import Derived.Test.YtkbmiajgmnfpfaaRX
import Derived.Test.YtkbmiajgmnfpfaaRA2
import Derived.Test.YtkbmiajgmnfpfaaRO
import Derived.Deep.RegionHeld3
import Derived.Deep.CutRange
import Derived.Test.YtkbmiajgmnfpfaaRows
import Derived.WalkKit
import Derived.ProofKit
import Derived.OpenShut
import Derived.Test.YtkbmiajgmnfpfaaRX2
import Derived.ShutString
import Derived.ChangeOld
import Derived.Below
import Derived.Carry
namespace Go.Proofs.Ytkbmiajgmnfpfaa.NumK
open Go.RowKit
set_option linter.unusedVariables false

/-- Two books in blocks of the call's own. -/
structure OrdSt (w wx : World) (a b : Bk) (A1 A2 B1 B2 : Option Addr) (a1 a2 b1 b2 : Nat) : Prop where
  g : Grew w wx
  pa : OwnC wx w.heap.size [.int .i64 a.1, .slice A1 a.2.1.length a1, .slice A2 a.2.2.length a2]
  pb : OwnC wx (w.heap.size + 1) [.int .i64 b.1, .slice B1 b.2.1.length b1, .slice B2 b.2.2.length b2]
  oa : OwnB wx (w.heap.size + 2) a A1 A2 a1 a2
  ob : OwnB wx (w.heap.size + 2) b B1 B2 b1 b2
section
variable {w wx w' : World} {a b e : Bk} {A1 A2 B1 B2 E1 E2 : Option Addr} {a1 a2 b1 b2 e1 e2 : Nat}
theorem OrdSt.keep (h : OrdSt w wx a b A1 A2 B1 B2 a1 a2 b1 b2) (g : Grew wx w') : OrdSt w w' a b A1 A2 B1 B2 a1 a2 b1 b2 := ⟨grew_trans h.g g, h.pa.keep g, h.pb.keep g, h.oa.keep g, h.ob.keep g⟩
theorem OrdSt.putA (h : OrdSt w wx a b A1 A2 B1 B2 a1 a2 b1 b2) (ho : OwnB wx (w.heap.size + 2) e E1 E2 e1 e2) : OrdSt w (putC wx w.heap.size 0 [.int .i64 e.1, .slice E1 e.2.1.length e1, .slice E2 e.2.2.length e2]) e b E1 E2 B1 B2 e1 e2 b1 b2 :=
  ⟨grew_put (w := w) _ (Nat.le_refl _) _ 0 _ h.g, h.pa.all _ rfl, OwnC.putO (by omega) _ 0 _ h.pb, ho.put (by omega) _, h.ob.put (by omega) _⟩
theorem OrdSt.putB (h : OrdSt w wx a b A1 A2 B1 B2 a1 a2 b1 b2) (ho : OwnB wx (w.heap.size + 2) e E1 E2 e1 e2) : OrdSt w (putC wx (w.heap.size + 1) 0 [.int .i64 e.1, .slice E1 e.2.1.length e1, .slice E2 e.2.2.length e2]) a e A1 A2 E1 E2 a1 a2 e1 e2 :=
  ⟨grew_put (w := w) _ (by omega) _ 0 _ h.g, OwnC.putO (by omega) _ 0 _ h.pa, h.pb.all _ rfl, h.oa.put (by omega) _, ho.put (by omega) _⟩
end
theorem EntP.more (l : List Tr) {b : Bk} {i : Nat} (h : EntP (l.take i) b) (hi : i < l.length) (h128 : l.length ≤ 60) : EntP (l.take (i + 1)) (if enterE b (l.getD i tr0) = 0 then enterB b (l.getD i tr0) else b) := by
  have e : l.take (i + 1) = l.take i ++ [l.getD i tr0] := by
    rw [List.take_add_one, List.getElem?_eq_getElem hi]
    simp [List.getD_eq_getElem?_getD, hi]
  rw [e]
  rcases h.next1 (by rw [List.length_take]; omega) (l.getD i tr0) with ⟨h1, h2⟩ | ⟨h1, h2⟩
  · rw [if_pos h1]; exact h2
  · rw [if_neg (by rw [h1]; decide)]; exact h2
theorem rev_at (l : List Tr) {i : Nat} (hi : i < l.length) : l.reverse.getD i tr0 = l.getD (l.length - 1 - i) tr0 := by
  rw [List.getD_eq_getElem?_getD, List.getD_eq_getElem?_getD, List.getElem?_reverse hi]

set_option maxRecDepth 100000 in
set_option maxHeartbeats 8000000 in
theorem bookOrder_walk (A : Option Addr) (n c : Nat) (l : List Tr) (w : World) (h : RowE enTr w A n l) :
    Calls Try.prog 7 #[.slice A n c] w fun e w' => e = .returned (.bool true) ∧ Grew w w' := by
  by_cases h60 : 60 < n
  · have k1 : (n : Int) > 60 := by omega
    clear h
    go_enter Try.func7, Try.ntmps7
    go_wp2
    go_ret
    exact ⟨rfl, grew_refl _⟩
  · have k1 : ¬ (n : Int) > 60 := by omega
    have HL := Lib.hid h.len
    have HI := Lib.hid h
    have CW := fun w' => wakes13_any w'
    clear h
    go_enter Try.func7, Try.ntmps7
    go_upto_region 4 with fail
    have HS0 : Hid (OrdSt w ((w.alloc (.cells #[.int .i64 0, .slice none 0 0, .slice none 0 0] 25)).alloc (.cells #[.int .i64 0, .slice none 0 0, .slice none 0 0] 25)) bk0 bk0 none none none none 0 0 0 0) := ⟨grew_trans (grew_alloc _ _ _) (grew_alloc _ _ _), (OwnC.new w [.int .i64 0, .slice none 0 0, .slice none 0 0] _ _ rfl).keep (grew_alloc _ _ _), OwnC.new _ [.int .i64 0, .slice none 0 0, .slice none 0 0] _ _ (by simp), OwnB.nil _ _, OwnB.nil _ _⟩
    generalize (w.alloc (.cells #[.int .i64 0, .slice none 0 0, .slice none 0 0] 25)).alloc (.cells #[.int .i64 0, .slice none 0 0, .slice none 0 0] 25) = w0 at *
    go_wp2
    go_loopw [5] (fun vi wr => ∃ (i : Nat) (a b : Bk) (A1 A2 B1 B2 : Option Addr) (a1 a2 b1 b2 : Nat), vi = .int .i64 i ∧ i ≤ n ∧ Hid (EntP (l.take i) a) ∧ Hid (EntP (l.reverse.take i) b) ∧ Hid (OrdSt w wr a b A1 A2 B1 B2 a1 a2 b1 b2)) (fun vi _ => n - (intOf vi).toNat)
    case atStart => exact ⟨0, bk0, bk0, none, none, none, none, 0, 0, 0, 0, rfl, Nat.zero_le _, EntP.nil, EntP.nil, HS0.out⟩
    case round =>
      clear HS0
      obtain ⟨i, a, b, A1, A2, B1, B2, a1, a2, b1, b2, rfl, hi, HEA, HEB, HS⟩ := hrel
      by_cases hlt : i < n
      · obtain ⟨bb, o, rfl, hb, hc⟩ := (HI.out.keep HS.out.g).tr hlt
        have HCT : Hid (∀ w', Grew wr w' → CTr w' bb (o + i * 7) (l.getD i tr0)) := fun w' g => (hc i hlt).keep g hb
        have HCU : Hid (∀ w', Grew wr w' → CTr w' bb (o + (n - 1 - i) * 7) (l.getD (n - 1 - i) tr0)) := fun w' g => (hc (n - 1 - i) (by omega)).keep g hb
        have HNA := Lib.hid (HEA.out.more l (by rw [HL.out]; exact hlt) (by rw [HL.out]; omega))
        have HNB := Lib.hid (HEB.out.more l.reverse (by rw [List.length_reverse, HL.out]; exact hlt) (by rw [List.length_reverse, HL.out]; omega))
        rw [rev_at l (by rw [HL.out]; exact hlt), HL.out] at HNB
        have hla := right_lens HEA.out.right
        have hlb := right_lens HEB.out.right
        have CA := fun w' (g : Grew wr w') => enter_any a (l.getD i tr0) A1 A2 _ _ a1 a2 w' (HS.out.oa.in.keep g) ⟨by omega, by omega⟩
        have CB := fun w' (g : Grew wr w') => enter_any b (l.getD (n - 1 - i) tr0) B1 B2 _ _ b1 b2 w' (HS.out.ob.in.keep g) ⟨by omega, by omega⟩
        unfold BookN at CA CB
        clear hc hb
        have i0 : (0 : Int) ≤ (i : Int) := by omega
        have i1 : (i : Int) < (n : Int) := by omega
        obtain ⟨k, hk⟩ : ∃ k, k = n - 1 - i := ⟨_, rfl⟩
        have hw1 : IntKind.i64.wrap ((n : Int) - 1) = (n : Int) - 1 := by rw [IntKind.wrap_i64]; omega
        have hw2 : IntKind.i64.wrap ((n : Int) - 1 - (i : Int)) = (k : Int) := by rw [IntKind.wrap_i64]; omega
        have j0 : (0 : Int) ≤ (k : Int) := by omega
        have j1 : (k : Int) < (n : Int) := by omega
        rw [← hk] at HCU HNB CB
        clear hk
        generalize l.getD i tr0 = ti at *
        generalize l.getD k tr0 = tk at *
        generalize enterE a ti = ea at *
        generalize enterE b tk = eb at *
        generalize enterN a ti = na at *
        generalize enterN b tk = nb at *
        generalize enterB a ti = E at *
        generalize enterB b tk = G at *
        obtain ⟨ax, al, ap⟩ := a
        obtain ⟨bx, bl, bp⟩ := b
        obtain ⟨ex, el, ep⟩ := E
        obtain ⟨fx, fl, fp⟩ := G
        obtain ⟨⟨q1, q2, q3, q4, q5, q6⟩, q7⟩ := ti
        obtain ⟨⟨r1, r2, r3, r4, r5, r6⟩, r7⟩ := tk
        dsimp only [vBk, vTr] at CA CB hla hlb
        obtain ⟨t0, t1, t2, t3, t4, t5, t6⟩ := HCT.out _ (grew_refl _)
        dsimp only at t0 t1 t2 t3 t4 t5 t6
        by_cases hbig : q5 > 65536 ∨ q6 > 1073741824
        · have HG := Lib.hid HS.out.g
          clear CA CB HNA HNB
          by_cases h5 : q5 > 65536
          · go_wp2
            go_ret
            exact ⟨rfl, HG.out⟩
          · have h6 : q6 > 1073741824 := by omega
            go_wp2
            go_ret
            exact ⟨rfl, HG.out⟩
        · have h5 : ¬ q5 > 65536 := by omega
          have h6 : ¬ q6 > 1073741824 := by omega
          clear hbig
          go_upto_region 9 with fail
          clear t0 t1 t2 t3 t4 t5 t6
          have hsz : w.heap.size + 2 ≤ wr.heap.size := by have := HS.out.pb.lt; omega
          go_cut [6, 7, 8] from 17 to 66 (fun s6 s7 s8 wx => ∃ (H : Nat) (E1 E2 : Option Addr) (e1 e2 : Nat), s6 = .pointer (some ⟨H, 0, none⟩) ∧ s8 = .int .i64 ea ∧ OwnC wx H [.int .i64 ex, .slice E1 el.length e1, .slice E2 ep.length e2] ∧ OwnB wx (w.heap.size + 2) (ex, el, ep) E1 E2 e1 e2 ∧ w.heap.size + 1 < H ∧ Grew wr wx)
          case first =>
            clear HNA HNB CB HCU
            refine wp_region_noPanic ?_
            refine wp_region_held_drew (S := fun w' => Grew wr w') (by kernel_rfl) (grew_drew (grew_refl _)) (fun hHeld => ?_)
            (refine wpAnyH_take (i := 0) (oi := { dst := some 38, op := Op.load 25 (Operand.tmp 3), type := 25, pos := "more.go:19", after := #[], guard := none }) (v := ?_) rfl (by kernel_rfl) (by kernel_rfl) (by kernel_rfl) (fun _ _ _ h => h) (Or.inl ⟨by rfl, ?_⟩) (by assumption) ?_; rotate_left; · (intro w hSw; (try dsimp only at hSw); have x0 := (HS.out.pa.keep (hSw)).at 0 (.int .i64 ax) rfl; have x1 := (HS.out.pa.keep (hSw)).at 1 (.slice A1 al.length a1) rfl; have x2 := (HS.out.pa.keep (hSw)).at 2 (.slice A2 ap.length a2) rfl; go_simp; (first | done | with_reducible rfl)))
            try simp only [Act.put, List.setIfInBounds_toArray, List.set_cons_zero, List.set_cons_succ]
            (refine wpAnyH_take (i := 1) (oi := { dst := some 39, op := Op.move (Operand.tmp 0), type := 22, pos := "more.go:19", after := #[], guard := none }) (v := ?_) rfl (by kernel_rfl) (by kernel_rfl) (by kernel_rfl) (fun _ _ _ h => h) (Or.inl ⟨by rfl, ?_⟩) (by assumption) ?_; rotate_left; · (intro w hSw; (try dsimp only at hSw); skip; go_simp; (first | done | with_reducible rfl)))
            try simp only [Act.put, List.setIfInBounds_toArray, List.set_cons_zero, List.set_cons_succ]
            (refine wpAnyH_take (i := 2) (oi := { dst := some 40, op := Op.move (Operand.tmp 5), type := 3, pos := "more.go:19", after := #[], guard := none }) (v := ?_) rfl (by kernel_rfl) (by kernel_rfl) (by kernel_rfl) (fun _ _ _ h => h) (Or.inl ⟨by rfl, ?_⟩) (by assumption) ?_; rotate_left; · (intro w hSw; (try dsimp only at hSw); skip; go_simp; (first | done | with_reducible rfl)))
            try simp only [Act.put, List.setIfInBounds_toArray, List.set_cons_zero, List.set_cons_succ]
            (refine wpAnyH_take (i := 3) (oi := { dst := some 41, op := Op.indexAddr 22 (Operand.tmp 39) (Operand.tmp 40), type := 0, pos := "more.go:19", after := #[{ on := 1, ground := Ground.data }, { on := 2, ground := Ground.data }], guard := none }) (v := ?_) rfl (by kernel_rfl) (by kernel_rfl) (by kernel_rfl) (fun _ _ _ h => h) (Or.inl ⟨by rfl, ?_⟩) (by assumption) ?_; rotate_left; · (intro w hSw; (try dsimp only at hSw); skip; go_simp; (first | done | with_reducible rfl)))
            try simp only [Act.put, List.setIfInBounds_toArray, List.set_cons_zero, List.set_cons_succ]
            (refine wpAnyH_take (i := 4) (oi := { dst := some 42, op := Op.load 49 (Operand.tmp 41), type := 49, pos := "more.go:19", after := #[{ on := 3, ground := Ground.data }], guard := none }) (v := ?_) rfl (by kernel_rfl) (by kernel_rfl) (by kernel_rfl) (fun _ _ _ h => h) (Or.inl ⟨by rfl, ?_⟩) (by assumption) ?_; rotate_left; · (intro w hSw; (try dsimp only at hSw); obtain ⟨z0, z1, z2, z3, z4, z5, z6⟩ := HCT.out _ (hSw); dsimp only at z0 z1 z2 z3 z4 z5 z6; go_simp; (first | done | with_reducible rfl)))
            try simp only [Act.put, List.setIfInBounds_toArray, List.set_cons_zero, List.set_cons_succ]
            refine wpAnyH_ready (rs := [5, 10]) (by kernel_rfl) (by simp) ?_
            refine (AllReadyH.cons (o := { dst := some 43, op := Op.call { callee := Callee.value (Operand.func 25), args := #[Operand.tmp 38, Operand.tmp 42], argTypes := #[25, 49] }, type := 50, pos := "more.go:19", after := #[{ on := 0, ground := Ground.data }, { on := 4, ground := Ground.data }], guard := none }) rfl (fun K hK => ?_) (AllReadyH.cons (o := { dst := some 6, op := Op.alloc 25, type := 0, pos := "more.go:19", after := #[], guard := none }) rfl (fun K hK => ?_) AllReadyH.nil))
            · go_simp
              (go_at_call 25; (with_reducible refine (CA _ ((by repeat (first | exact HG5.out | exact grew_refl _ | refine grew_drew ?_ | refine grew_trans ?_ (grew_alloc _ _ _))))).mono ?_); rintro e w5 ⟨E1, E2, e1, e2, rfl, hb, hg⟩; have HB6 := Lib.hid hb; have HB5 := Lib.hid (hb.mono (b2 := w.heap.size + 2) (Nat.le_trans hsz (show Grew wr _ from (by repeat (first | exact HG5.out | exact grew_refl _ | refine grew_drew ?_ | refine grew_trans ?_ (grew_alloc _ _ _)))).size)); have HR5 := Lib.hid hg; have HG5 : Hid (Grew wr w5) := grew_trans (by repeat (first | exact HG5.out | exact grew_refl _ | refine grew_drew ?_ | refine grew_trans ?_ (grew_alloc _ _ _))) hg; clear hb hg)
              refine hK.out _ _ ?_ (fun hHeld => ?_)
              · first
                | exact (by repeat (first | exact HG5.out | exact grew_refl _ | refine grew_drew ?_ | refine grew_trans ?_ (grew_alloc _ _ _)))
              clear hK K
              try simp only [Act.put, List.setIfInBounds_toArray, List.set_cons_zero, List.set_cons_succ]
              (refine wpAnyH_take (i := 6) (oi := { dst := some 37, op := Op.move (Operand.tmp 43), type := 50, pos := "more.go:19", after := #[{ on := 5, ground := Ground.data }], guard := none }) (v := ?_) rfl (by kernel_rfl) (by kernel_rfl) (by kernel_rfl) (fun _ _ _ h => h) (Or.inl ⟨by rfl, ?_⟩) (by assumption) ?_; rotate_left; · (intro w hSw; (try dsimp only at hSw); skip; go_simp; (first | done | with_reducible rfl)))
              try simp only [Act.put, List.setIfInBounds_toArray, List.set_cons_zero, List.set_cons_succ]
              (refine wpAnyH_take (i := 7) (oi := { dst := some 44, op := Op.extract (Operand.tmp 37) 0, type := 25, pos := "more.go:19", after := #[{ on := 6, ground := Ground.data }], guard := none }) (v := ?_) rfl (by kernel_rfl) (by kernel_rfl) (by kernel_rfl) (fun _ _ _ h => h) (Or.inl ⟨by rfl, ?_⟩) (by assumption) ?_; rotate_left; · (intro w hSw; (try dsimp only at hSw); skip; go_simp; (first | done | with_reducible rfl)))
              try simp only [Act.put, List.setIfInBounds_toArray, List.set_cons_zero, List.set_cons_succ]
              (refine wpAnyH_take (i := 8) (oi := { dst := some 45, op := Op.extract (Operand.tmp 37) 1, type := 3, pos := "more.go:19", after := #[{ on := 6, ground := Ground.data }, { on := 11, ground := Ground.gcOnly Departure.lateStores }], guard := none }) (v := ?_) rfl (by kernel_rfl) (by kernel_rfl) (by kernel_rfl) (fun _ _ _ h => h) (Or.inl ⟨by rfl, ?_⟩) (by assumption) ?_; rotate_left; · (intro w hSw; (try dsimp only at hSw); skip; go_simp; (first | done | with_reducible rfl)))
              try simp only [Act.put, List.setIfInBounds_toArray, List.set_cons_zero, List.set_cons_succ]
              (refine wpAnyH_take (i := 9) (oi := { dst := some 46, op := Op.extract (Operand.tmp 37) 2, type := 32, pos := "more.go:19", after := #[{ on := 6, ground := Ground.data }, { on := 12, ground := Ground.gcOnly Departure.lateStores }], guard := none }) (v := ?_) rfl (by kernel_rfl) (by kernel_rfl) (by kernel_rfl) (fun _ _ _ h => h) (Or.inl ⟨by rfl, ?_⟩) (by assumption) ?_; rotate_left; · (intro w hSw; (try dsimp only at hSw); skip; go_simp; (first | done | with_reducible rfl)))
              try simp only [Act.put, List.setIfInBounds_toArray, List.set_cons_zero, List.set_cons_succ]
              refine wpAnyH_ready (rs := [10]) (by kernel_rfl) (by simp) ?_
              refine (AllReadyH.cons (o := { dst := some 6, op := Op.alloc 25, type := 0, pos := "more.go:19", after := #[], guard := none }) rfl (fun K hK => ?_) AllReadyH.nil)
              go_simp
              refine hK.out _ _ ?_ (fun hHeld => ?_)
              · first
                | exact (by repeat (first | exact HG5.out | exact grew_refl _ | refine grew_drew ?_ | refine grew_trans ?_ (grew_alloc _ _ _)))
              clear hK K
              try simp only [Act.put, List.setIfInBounds_toArray, List.set_cons_zero, List.set_cons_succ]
              refine wpAnyH_ready (rs := [11]) (by kernel_rfl) (by simp) ?_
              refine (AllReadyH.cons (o := { dst := none, op := Op.store 25 (Operand.tmp 6) (Operand.tmp 44), type := 0, pos := "more.go:19", after := #[{ on := 10, ground := Ground.data }, { on := 7, ground := Ground.data }, { on := 5, ground := Ground.chain }, { on := 0, ground := Ground.phase }, { on := 1, ground := Ground.phase }, { on := 2, ground := Ground.phase }, { on := 3, ground := Ground.phase }, { on := 4, ground := Ground.phase }, { on := 5, ground := Ground.phase }, { on := 6, ground := Ground.phase }, { on := 7, ground := Ground.phase }, { on := 8, ground := Ground.textOnly Departure.lateStores }, { on := 9, ground := Ground.textOnly Departure.lateStores }, { on := 10, ground := Ground.phase }], guard := none }) rfl (fun K hK => ?_) AllReadyH.nil)
              first
                | (have HEB9 := (OwnC.new wr [.int .i64 0, .slice none 0 0, .slice none 0 0] 25 _ rfl).keep (grew_trans (grew_drew (grew_refl _)) HR5.out); have c0 : w5.cell? ⟨wr.heap.size, 0, none⟩ = some (.int .i64 0) := HEB9.at 0 _ rfl; have g0 : w5.frozen? ⟨wr.heap.size, 0, none⟩ = false := HEB9.fr 0 (by show 0 < 3; omega); have c1 : w5.cell? ⟨wr.heap.size, 1, none⟩ = some (.slice none 0 0) := HEB9.at 1 _ rfl; have g1 : w5.frozen? ⟨wr.heap.size, 1, none⟩ = false := HEB9.fr 1 (by show 1 < 3; omega); have c2 : w5.cell? ⟨wr.heap.size, 2, none⟩ = some (.slice none 0 0) := HEB9.at 2 _ rfl; have g2 : w5.frozen? ⟨wr.heap.size, 2, none⟩ = false := HEB9.fr 2 (by show 2 < 3; omega); clear HEB9; have HKEEP : Grew wr ((((w5).setCell ⟨wr.heap.size, 0, none⟩ (.int .i64 ex)).setCell ⟨wr.heap.size, 1, none⟩ (.slice E1 el.length e1)).setCell ⟨wr.heap.size, 2, none⟩ (.slice E2 ep.length e2)) := grew_set (grew_set (grew_set (HG5.out) (p := ⟨wr.heap.size, 0, none⟩) (.int .i64 ex) (by show _ ≤ wr.heap.size; omega)) (p := ⟨wr.heap.size, 1, none⟩) (.slice E1 el.length e1) (by show _ ≤ wr.heap.size; omega)) (p := ⟨wr.heap.size, 2, none⟩) (.slice E2 ep.length e2) (by show _ ≤ wr.heap.size; omega))
                | (have HKEEP := grew_trans HG5.out (grew_alloc w5 #[.int .i64 ex, .slice E1 el.length e1, .slice E2 ep.length e2] 25))
              go_simp
              refine hK.out _ _ ?_ (fun hHeld => ?_)
              · first
                | exact HKEEP
              clear hK K
              try simp only [Act.put, List.setIfInBounds_toArray, List.set_cons_zero, List.set_cons_succ]
              (refine wpAnyH_take (i := 12) (oi := { dst := some 7, op := Op.assign (Operand.tmp 45), type := 3, pos := "more.go:19", after := #[{ on := 8, ground := Ground.data }, { on := 11, ground := Ground.chain }, { on := 0, ground := Ground.phase }, { on := 1, ground := Ground.phase }, { on := 2, ground := Ground.phase }, { on := 3, ground := Ground.phase }, { on := 4, ground := Ground.phase }, { on := 5, ground := Ground.phase }, { on := 6, ground := Ground.phase }, { on := 7, ground := Ground.phase }, { on := 8, ground := Ground.phase }, { on := 9, ground := Ground.textOnly Departure.lateStores }, { on := 10, ground := Ground.phase }, { on := 11, ground := Ground.phase }], guard := none }) (v := ?_) rfl (by kernel_rfl) (by kernel_rfl) (by kernel_rfl) (fun _ _ _ h => h) (Or.inl ⟨by rfl, ?_⟩) (by assumption) ?_; rotate_left; · (intro w hSw; (try dsimp only at hSw); skip; go_simp; (first | done | with_reducible rfl)))
              try simp only [Act.put, List.setIfInBounds_toArray, List.set_cons_zero, List.set_cons_succ]
              (refine wpAnyH_take (i := 13) (oi := { dst := some 8, op := Op.assign (Operand.tmp 46), type := 32, pos := "more.go:19", after := #[{ on := 9, ground := Ground.data }, { on := 12, ground := Ground.chain }, { on := 0, ground := Ground.phase }, { on := 1, ground := Ground.phase }, { on := 2, ground := Ground.phase }, { on := 3, ground := Ground.phase }, { on := 4, ground := Ground.phase }, { on := 5, ground := Ground.phase }, { on := 6, ground := Ground.phase }, { on := 7, ground := Ground.phase }, { on := 8, ground := Ground.phase }, { on := 9, ground := Ground.phase }, { on := 10, ground := Ground.phase }, { on := 11, ground := Ground.phase }, { on := 12, ground := Ground.phase }], guard := none }) (v := ?_) rfl (by kernel_rfl) (by kernel_rfl) (by kernel_rfl) (fun _ _ _ h => h) (Or.inl ⟨by rfl, ?_⟩) (by assumption) ?_; rotate_left; · (intro w hSw; (try dsimp only at hSw); skip; go_simp; (first | done | with_reducible rfl)))
              try simp only [Act.put, List.setIfInBounds_toArray, List.set_cons_zero, List.set_cons_succ]
              refine wpAnyH_done (by kernel_rfl) ?_ _
              clear hHeld
              first
                | (have HEB9 := (OwnC.new wr [.int .i64 0, .slice none 0 0, .slice none 0 0] 25 _ rfl).keep (grew_trans (grew_drew (grew_refl _)) HR5.out); have hlt9 := ((OwnC.new wr [.int .i64 0, .slice none 0 0, .slice none 0 0] 25 _ rfl).keep (grew_drew (grew_refl _))).lt; have hbt : ∀ x, E1 = some x → x.block ≠ wr.heap.size := (fun x hx => Nat.ne_of_gt (Nat.lt_of_lt_of_le hlt9 (HB6.out.t.block x hx).1)); have hbp : ∀ x, E2 = some x → x.block ≠ wr.heap.size := (fun x hx => Nat.ne_of_gt (Nat.lt_of_lt_of_le hlt9 (HB6.out.p.block x hx).1)); have HA : Hid (OwnC ((((w5).setCell ⟨wr.heap.size, 0, none⟩ (.int .i64 ex)).setCell ⟨wr.heap.size, 1, none⟩ (.slice E1 el.length e1)).setCell ⟨wr.heap.size, 2, none⟩ (.slice E2 ep.length e2)) (wr.heap.size) [.int .i64 ex, .slice E1 el.length e1, .slice E2 ep.length e2] ∧ OwnB ((((w5).setCell ⟨wr.heap.size, 0, none⟩ (.int .i64 ex)).setCell ⟨wr.heap.size, 1, none⟩ (.slice E1 el.length e1)).setCell ⟨wr.heap.size, 2, none⟩ (.slice E2 ep.length e2)) (w.heap.size + 2) (ex, el, ep) E1 E2 e1 e2 ∧ Grew wr ((((w5).setCell ⟨wr.heap.size, 0, none⟩ (.int .i64 ex)).setCell ⟨wr.heap.size, 1, none⟩ (.slice E1 el.length e1)).setCell ⟨wr.heap.size, 2, none⟩ (.slice E2 ep.length e2)) ∧ w.heap.size + 1 < wr.heap.size) := ⟨OwnC.set (OwnC.set (OwnC.set (HEB9) 0 (.int .i64 ex) (by show 0 < 3; omega)) 1 (.slice E1 el.length e1) (by show 1 < 3; omega)) 2 (.slice E2 ep.length e2) (by show 2 < 3; omega), OwnB.setO (OwnB.setO (OwnB.setO (HB5.out) hbt hbp wr.heap.size 0 (.int .i64 ex) rfl) hbt hbp wr.heap.size 1 (.slice E1 el.length e1) rfl) hbt hbp wr.heap.size 2 (.slice E2 ep.length e2) rfl, grew_set (grew_set (grew_set (HG5.out) (p := ⟨wr.heap.size, 0, none⟩) (.int .i64 ex) (by show _ ≤ wr.heap.size; omega)) (p := ⟨wr.heap.size, 1, none⟩) (.slice E1 el.length e1) (by show _ ≤ wr.heap.size; omega)) (p := ⟨wr.heap.size, 2, none⟩) (.slice E2 ep.length e2) (by show _ ≤ wr.heap.size; omega), by omega⟩; clear HEB9 hlt9 hbt hbp; generalize (((w5).setCell ⟨wr.heap.size, 0, none⟩ (.int .i64 ex)).setCell ⟨wr.heap.size, 1, none⟩ (.slice E1 el.length e1)).setCell ⟨wr.heap.size, 2, none⟩ (.slice E2 ep.length e2) = wT at *; generalize wr.heap.size = T at *)
                | (have hs5 := HG5.out.size; have HA : Hid (OwnC (w5.alloc (.cells #[.int .i64 ex, .slice E1 el.length e1, .slice E2 ep.length e2] 25)) (w5.heap.size) [.int .i64 ex, .slice E1 el.length e1, .slice E2 ep.length e2] ∧ OwnB (w5.alloc (.cells #[.int .i64 ex, .slice E1 el.length e1, .slice E2 ep.length e2] 25)) (w.heap.size + 2) (ex, el, ep) E1 E2 e1 e2 ∧ Grew wr (w5.alloc (.cells #[.int .i64 ex, .slice E1 el.length e1, .slice E2 ep.length e2] 25)) ∧ w.heap.size + 1 < w5.heap.size) := ⟨OwnC.new w5 [.int .i64 ex, .slice E1 el.length e1, .slice E2 ep.length e2] _ _ rfl, HB5.out.keep (grew_alloc _ _ _), grew_trans HG5.out (grew_alloc _ _ _), by omega⟩; generalize w5.alloc (.cells #[.int .i64 ex, .slice E1 el.length e1, .slice E2 ep.length e2] 25) = wT at *; generalize w5.heap.size = T at *)
              clear HKEEP
              apply_assumption
              go_wp2
              go_meet
              exact ⟨_, _, _, _, _, rfl, rfl, HA.out.1, HA.out.2.1, HA.out.2.2.2, HA.out.2.2.1⟩
            · go_simp
              refine hK.out _ _ ?_ (fun hHeld => ?_)
              · first
                | exact (by repeat (first | exact HG5.out | exact grew_refl _ | refine grew_drew ?_ | refine grew_trans ?_ (grew_alloc _ _ _)))
              clear hK K
              try simp only [Act.put, List.setIfInBounds_toArray, List.set_cons_zero, List.set_cons_succ]
              refine wpAnyH_ready (rs := [5]) (by kernel_rfl) (by simp) ?_
              refine (AllReadyH.cons (o := { dst := some 43, op := Op.call { callee := Callee.value (Operand.func 25), args := #[Operand.tmp 38, Operand.tmp 42], argTypes := #[25, 49] }, type := 50, pos := "more.go:19", after := #[{ on := 0, ground := Ground.data }, { on := 4, ground := Ground.data }], guard := none }) rfl (fun K hK => ?_) AllReadyH.nil)
              go_simp
              (go_at_call 25; (with_reducible refine (CA _ ((by repeat (first | exact HG5.out | exact grew_refl _ | refine grew_drew ?_ | refine grew_trans ?_ (grew_alloc _ _ _))))).mono ?_); rintro e w5 ⟨E1, E2, e1, e2, rfl, hb, hg⟩; have HB6 := Lib.hid hb; have HB5 := Lib.hid (hb.mono (b2 := w.heap.size + 2) (Nat.le_trans hsz (show Grew wr _ from (by repeat (first | exact HG5.out | exact grew_refl _ | refine grew_drew ?_ | refine grew_trans ?_ (grew_alloc _ _ _)))).size)); have HR5 := Lib.hid hg; have HG5 : Hid (Grew wr w5) := grew_trans (by repeat (first | exact HG5.out | exact grew_refl _ | refine grew_drew ?_ | refine grew_trans ?_ (grew_alloc _ _ _))) hg; clear hb hg)
              refine hK.out _ _ ?_ (fun hHeld => ?_)
              · first
                | exact (by repeat (first | exact HG5.out | exact grew_refl _ | refine grew_drew ?_ | refine grew_trans ?_ (grew_alloc _ _ _)))
              clear hK K
              try simp only [Act.put, List.setIfInBounds_toArray, List.set_cons_zero, List.set_cons_succ]
              (refine wpAnyH_take (i := 6) (oi := { dst := some 37, op := Op.move (Operand.tmp 43), type := 50, pos := "more.go:19", after := #[{ on := 5, ground := Ground.data }], guard := none }) (v := ?_) rfl (by kernel_rfl) (by kernel_rfl) (by kernel_rfl) (fun _ _ _ h => h) (Or.inl ⟨by rfl, ?_⟩) (by assumption) ?_; rotate_left; · (intro w hSw; (try dsimp only at hSw); skip; go_simp; (first | done | with_reducible rfl)))
              try simp only [Act.put, List.setIfInBounds_toArray, List.set_cons_zero, List.set_cons_succ]
              (refine wpAnyH_take (i := 7) (oi := { dst := some 44, op := Op.extract (Operand.tmp 37) 0, type := 25, pos := "more.go:19", after := #[{ on := 6, ground := Ground.data }], guard := none }) (v := ?_) rfl (by kernel_rfl) (by kernel_rfl) (by kernel_rfl) (fun _ _ _ h => h) (Or.inl ⟨by rfl, ?_⟩) (by assumption) ?_; rotate_left; · (intro w hSw; (try dsimp only at hSw); skip; go_simp; (first | done | with_reducible rfl)))
              try simp only [Act.put, List.setIfInBounds_toArray, List.set_cons_zero, List.set_cons_succ]
              (refine wpAnyH_take (i := 8) (oi := { dst := some 45, op := Op.extract (Operand.tmp 37) 1, type := 3, pos := "more.go:19", after := #[{ on := 6, ground := Ground.data }, { on := 11, ground := Ground.gcOnly Departure.lateStores }], guard := none }) (v := ?_) rfl (by kernel_rfl) (by kernel_rfl) (by kernel_rfl) (fun _ _ _ h => h) (Or.inl ⟨by rfl, ?_⟩) (by assumption) ?_; rotate_left; · (intro w hSw; (try dsimp only at hSw); skip; go_simp; (first | done | with_reducible rfl)))
              try simp only [Act.put, List.setIfInBounds_toArray, List.set_cons_zero, List.set_cons_succ]
              (refine wpAnyH_take (i := 9) (oi := { dst := some 46, op := Op.extract (Operand.tmp 37) 2, type := 32, pos := "more.go:19", after := #[{ on := 6, ground := Ground.data }, { on := 12, ground := Ground.gcOnly Departure.lateStores }], guard := none }) (v := ?_) rfl (by kernel_rfl) (by kernel_rfl) (by kernel_rfl) (fun _ _ _ h => h) (Or.inl ⟨by rfl, ?_⟩) (by assumption) ?_; rotate_left; · (intro w hSw; (try dsimp only at hSw); skip; go_simp; (first | done | with_reducible rfl)))
              try simp only [Act.put, List.setIfInBounds_toArray, List.set_cons_zero, List.set_cons_succ]
              refine wpAnyH_ready (rs := [11]) (by kernel_rfl) (by simp) ?_
              refine (AllReadyH.cons (o := { dst := none, op := Op.store 25 (Operand.tmp 6) (Operand.tmp 44), type := 0, pos := "more.go:19", after := #[{ on := 10, ground := Ground.data }, { on := 7, ground := Ground.data }, { on := 5, ground := Ground.chain }, { on := 0, ground := Ground.phase }, { on := 1, ground := Ground.phase }, { on := 2, ground := Ground.phase }, { on := 3, ground := Ground.phase }, { on := 4, ground := Ground.phase }, { on := 5, ground := Ground.phase }, { on := 6, ground := Ground.phase }, { on := 7, ground := Ground.phase }, { on := 8, ground := Ground.textOnly Departure.lateStores }, { on := 9, ground := Ground.textOnly Departure.lateStores }, { on := 10, ground := Ground.phase }], guard := none }) rfl (fun K hK => ?_) AllReadyH.nil)
              first
                | (have HEB9 := (OwnC.new wr [.int .i64 0, .slice none 0 0, .slice none 0 0] 25 _ rfl).keep (grew_trans (grew_drew (grew_refl _)) HR5.out); have c0 : w5.cell? ⟨wr.heap.size, 0, none⟩ = some (.int .i64 0) := HEB9.at 0 _ rfl; have g0 : w5.frozen? ⟨wr.heap.size, 0, none⟩ = false := HEB9.fr 0 (by show 0 < 3; omega); have c1 : w5.cell? ⟨wr.heap.size, 1, none⟩ = some (.slice none 0 0) := HEB9.at 1 _ rfl; have g1 : w5.frozen? ⟨wr.heap.size, 1, none⟩ = false := HEB9.fr 1 (by show 1 < 3; omega); have c2 : w5.cell? ⟨wr.heap.size, 2, none⟩ = some (.slice none 0 0) := HEB9.at 2 _ rfl; have g2 : w5.frozen? ⟨wr.heap.size, 2, none⟩ = false := HEB9.fr 2 (by show 2 < 3; omega); clear HEB9; have HKEEP : Grew wr ((((w5).setCell ⟨wr.heap.size, 0, none⟩ (.int .i64 ex)).setCell ⟨wr.heap.size, 1, none⟩ (.slice E1 el.length e1)).setCell ⟨wr.heap.size, 2, none⟩ (.slice E2 ep.length e2)) := grew_set (grew_set (grew_set (HG5.out) (p := ⟨wr.heap.size, 0, none⟩) (.int .i64 ex) (by show _ ≤ wr.heap.size; omega)) (p := ⟨wr.heap.size, 1, none⟩) (.slice E1 el.length e1) (by show _ ≤ wr.heap.size; omega)) (p := ⟨wr.heap.size, 2, none⟩) (.slice E2 ep.length e2) (by show _ ≤ wr.heap.size; omega))
                | (have HKEEP := grew_trans HG5.out (grew_alloc w5 #[.int .i64 ex, .slice E1 el.length e1, .slice E2 ep.length e2] 25))
              go_simp
              refine hK.out _ _ ?_ (fun hHeld => ?_)
              · first
                | exact HKEEP
              clear hK K
              try simp only [Act.put, List.setIfInBounds_toArray, List.set_cons_zero, List.set_cons_succ]
              (refine wpAnyH_take (i := 12) (oi := { dst := some 7, op := Op.assign (Operand.tmp 45), type := 3, pos := "more.go:19", after := #[{ on := 8, ground := Ground.data }, { on := 11, ground := Ground.chain }, { on := 0, ground := Ground.phase }, { on := 1, ground := Ground.phase }, { on := 2, ground := Ground.phase }, { on := 3, ground := Ground.phase }, { on := 4, ground := Ground.phase }, { on := 5, ground := Ground.phase }, { on := 6, ground := Ground.phase }, { on := 7, ground := Ground.phase }, { on := 8, ground := Ground.phase }, { on := 9, ground := Ground.textOnly Departure.lateStores }, { on := 10, ground := Ground.phase }, { on := 11, ground := Ground.phase }], guard := none }) (v := ?_) rfl (by kernel_rfl) (by kernel_rfl) (by kernel_rfl) (fun _ _ _ h => h) (Or.inl ⟨by rfl, ?_⟩) (by assumption) ?_; rotate_left; · (intro w hSw; (try dsimp only at hSw); skip; go_simp; (first | done | with_reducible rfl)))
              try simp only [Act.put, List.setIfInBounds_toArray, List.set_cons_zero, List.set_cons_succ]
              (refine wpAnyH_take (i := 13) (oi := { dst := some 8, op := Op.assign (Operand.tmp 46), type := 32, pos := "more.go:19", after := #[{ on := 9, ground := Ground.data }, { on := 12, ground := Ground.chain }, { on := 0, ground := Ground.phase }, { on := 1, ground := Ground.phase }, { on := 2, ground := Ground.phase }, { on := 3, ground := Ground.phase }, { on := 4, ground := Ground.phase }, { on := 5, ground := Ground.phase }, { on := 6, ground := Ground.phase }, { on := 7, ground := Ground.phase }, { on := 8, ground := Ground.phase }, { on := 9, ground := Ground.phase }, { on := 10, ground := Ground.phase }, { on := 11, ground := Ground.phase }, { on := 12, ground := Ground.phase }], guard := none }) (v := ?_) rfl (by kernel_rfl) (by kernel_rfl) (by kernel_rfl) (fun _ _ _ h => h) (Or.inl ⟨by rfl, ?_⟩) (by assumption) ?_; rotate_left; · (intro w hSw; (try dsimp only at hSw); skip; go_simp; (first | done | with_reducible rfl)))
              try simp only [Act.put, List.setIfInBounds_toArray, List.set_cons_zero, List.set_cons_succ]
              refine wpAnyH_done (by kernel_rfl) ?_ _
              clear hHeld
              first
                | (have HEB9 := (OwnC.new wr [.int .i64 0, .slice none 0 0, .slice none 0 0] 25 _ rfl).keep (grew_trans (grew_drew (grew_refl _)) HR5.out); have hlt9 := ((OwnC.new wr [.int .i64 0, .slice none 0 0, .slice none 0 0] 25 _ rfl).keep (grew_drew (grew_refl _))).lt; have hbt : ∀ x, E1 = some x → x.block ≠ wr.heap.size := (fun x hx => Nat.ne_of_gt (Nat.lt_of_lt_of_le hlt9 (HB6.out.t.block x hx).1)); have hbp : ∀ x, E2 = some x → x.block ≠ wr.heap.size := (fun x hx => Nat.ne_of_gt (Nat.lt_of_lt_of_le hlt9 (HB6.out.p.block x hx).1)); have HA : Hid (OwnC ((((w5).setCell ⟨wr.heap.size, 0, none⟩ (.int .i64 ex)).setCell ⟨wr.heap.size, 1, none⟩ (.slice E1 el.length e1)).setCell ⟨wr.heap.size, 2, none⟩ (.slice E2 ep.length e2)) (wr.heap.size) [.int .i64 ex, .slice E1 el.length e1, .slice E2 ep.length e2] ∧ OwnB ((((w5).setCell ⟨wr.heap.size, 0, none⟩ (.int .i64 ex)).setCell ⟨wr.heap.size, 1, none⟩ (.slice E1 el.length e1)).setCell ⟨wr.heap.size, 2, none⟩ (.slice E2 ep.length e2)) (w.heap.size + 2) (ex, el, ep) E1 E2 e1 e2 ∧ Grew wr ((((w5).setCell ⟨wr.heap.size, 0, none⟩ (.int .i64 ex)).setCell ⟨wr.heap.size, 1, none⟩ (.slice E1 el.length e1)).setCell ⟨wr.heap.size, 2, none⟩ (.slice E2 ep.length e2)) ∧ w.heap.size + 1 < wr.heap.size) := ⟨OwnC.set (OwnC.set (OwnC.set (HEB9) 0 (.int .i64 ex) (by show 0 < 3; omega)) 1 (.slice E1 el.length e1) (by show 1 < 3; omega)) 2 (.slice E2 ep.length e2) (by show 2 < 3; omega), OwnB.setO (OwnB.setO (OwnB.setO (HB5.out) hbt hbp wr.heap.size 0 (.int .i64 ex) rfl) hbt hbp wr.heap.size 1 (.slice E1 el.length e1) rfl) hbt hbp wr.heap.size 2 (.slice E2 ep.length e2) rfl, grew_set (grew_set (grew_set (HG5.out) (p := ⟨wr.heap.size, 0, none⟩) (.int .i64 ex) (by show _ ≤ wr.heap.size; omega)) (p := ⟨wr.heap.size, 1, none⟩) (.slice E1 el.length e1) (by show _ ≤ wr.heap.size; omega)) (p := ⟨wr.heap.size, 2, none⟩) (.slice E2 ep.length e2) (by show _ ≤ wr.heap.size; omega), by omega⟩; clear HEB9 hlt9 hbt hbp; generalize (((w5).setCell ⟨wr.heap.size, 0, none⟩ (.int .i64 ex)).setCell ⟨wr.heap.size, 1, none⟩ (.slice E1 el.length e1)).setCell ⟨wr.heap.size, 2, none⟩ (.slice E2 ep.length e2) = wT at *; generalize wr.heap.size = T at *)
                | (have hs5 := HG5.out.size; have HA : Hid (OwnC (w5.alloc (.cells #[.int .i64 ex, .slice E1 el.length e1, .slice E2 ep.length e2] 25)) (w5.heap.size) [.int .i64 ex, .slice E1 el.length e1, .slice E2 ep.length e2] ∧ OwnB (w5.alloc (.cells #[.int .i64 ex, .slice E1 el.length e1, .slice E2 ep.length e2] 25)) (w.heap.size + 2) (ex, el, ep) E1 E2 e1 e2 ∧ Grew wr (w5.alloc (.cells #[.int .i64 ex, .slice E1 el.length e1, .slice E2 ep.length e2] 25)) ∧ w.heap.size + 1 < w5.heap.size) := ⟨OwnC.new w5 [.int .i64 ex, .slice E1 el.length e1, .slice E2 ep.length e2] _ _ rfl, HB5.out.keep (grew_alloc _ _ _), grew_trans HG5.out (grew_alloc _ _ _), by omega⟩; generalize w5.alloc (.cells #[.int .i64 ex, .slice E1 el.length e1, .slice E2 ep.length e2] 25) = wT at *; generalize w5.heap.size = T at *)
              clear HKEEP
              apply_assumption
              go_wp2
              go_meet
              exact ⟨_, _, _, _, _, rfl, rfl, HA.out.1, HA.out.2.1, HA.out.2.2.2, HA.out.2.2.1⟩
          case rest =>
            obtain ⟨H, E1, E2, e1, e2, rfl, rfl, m1, m2, hH, m3⟩ := hcut
            have HE := Lib.hid m1
            have HOE := Lib.hid m2
            have HGX := Lib.hid m3
            clear m1 m2 m3 CA
            have hsz : w.heap.size + 2 ≤ wc.heap.size := Nat.le_trans hsz HGX.out.size
            generalize wc = wd at *
            go_upto_region 10 with fail
            go_cut [9, 10, 11] from 17 to 66 (fun s9 s10 s11 wx => ∃ (H2 : Nat) (F1 F2 : Option Addr) (f1 f2 : Nat), s9 = .pointer (some ⟨H2, 0, none⟩) ∧ s11 = .int .i64 eb ∧ OwnC wx H2 [.int .i64 fx, .slice F1 fl.length f1, .slice F2 fp.length f2] ∧ OwnB wx (w.heap.size + 2) (fx, fl, fp) F1 F2 f1 f2 ∧ w.heap.size + 1 < H2 ∧ Grew wd wx)
            case first =>
              clear HNA HNB HCT HE HOE
              refine wp_region_noPanic ?_
              refine wp_region_held_drew (S := fun w' => Grew wd w') (by kernel_rfl) (grew_drew (grew_refl _)) (fun hHeld => ?_)
              (refine wpAnyH_take (i := 0) (oi := { dst := some 48, op := Op.load 25 (Operand.tmp 4), type := 25, pos := "more.go:20", after := #[], guard := none }) (v := ?_) rfl (by kernel_rfl) (by kernel_rfl) (by kernel_rfl) (fun _ _ _ h => h) (Or.inl ⟨by rfl, ?_⟩) (by assumption) ?_; rotate_left; · (intro w hSw; (try dsimp only at hSw); have x0 := (HS.out.pb.keep (grew_trans HGX.out hSw)).at 0 (.int .i64 bx) rfl; have x1 := (HS.out.pb.keep (grew_trans HGX.out hSw)).at 1 (.slice B1 bl.length b1) rfl; have x2 := (HS.out.pb.keep (grew_trans HGX.out hSw)).at 2 (.slice B2 bp.length b2) rfl; go_simp; (first | done | with_reducible rfl)))
              try simp only [Act.put, List.setIfInBounds_toArray, List.set_cons_zero, List.set_cons_succ]
              (refine wpAnyH_take (i := 1) (oi := { dst := some 49, op := Op.move (Operand.tmp 0), type := 22, pos := "more.go:20", after := #[], guard := none }) (v := ?_) rfl (by kernel_rfl) (by kernel_rfl) (by kernel_rfl) (fun _ _ _ h => h) (Or.inl ⟨by rfl, ?_⟩) (by assumption) ?_; rotate_left; · (intro w hSw; (try dsimp only at hSw); skip; go_simp; (first | done | with_reducible rfl)))
              try simp only [Act.put, List.setIfInBounds_toArray, List.set_cons_zero, List.set_cons_succ]
              (refine wpAnyH_take (i := 2) (oi := { dst := some 50, op := Op.move (Operand.tmp 0), type := 22, pos := "more.go:20", after := #[], guard := none }) (v := ?_) rfl (by kernel_rfl) (by kernel_rfl) (by kernel_rfl) (fun _ _ _ h => h) (Or.inl ⟨by rfl, ?_⟩) (by assumption) ?_; rotate_left; · (intro w hSw; (try dsimp only at hSw); skip; go_simp; (first | done | with_reducible rfl)))
              try simp only [Act.put, List.setIfInBounds_toArray, List.set_cons_zero, List.set_cons_succ]
              (refine wpAnyH_take (i := 3) (oi := { dst := some 51, op := Op.call { callee := Callee.builtin Builtin.len, args := #[Operand.tmp 50], argTypes := #[22] }, type := 3, pos := "more.go:20", after := #[{ on := 2, ground := Ground.data }], guard := none }) (v := ?_) rfl (by kernel_rfl) (by kernel_rfl) (by kernel_rfl) (fun _ _ _ h => h) (Or.inl ⟨by rfl, ?_⟩) (by assumption) ?_; rotate_left; · (intro w hSw; (try dsimp only at hSw); skip; go_simp; (first | done | with_reducible rfl)))
              try simp only [Act.put, List.setIfInBounds_toArray, List.set_cons_zero, List.set_cons_succ]
              (refine wpAnyH_take (i := 4) (oi := { dst := some 52, op := Op.binOp BinOp.sub 3 (Operand.tmp 51) (Operand.const (Value.int IntKind.i64 1)) 3, type := 3, pos := "more.go:20", after := #[{ on := 3, ground := Ground.data }], guard := none }) (v := ?_) rfl (by kernel_rfl) (by kernel_rfl) (by kernel_rfl) (fun _ _ _ h => h) (Or.inl ⟨by rfl, ?_⟩) (by assumption) ?_; rotate_left; · (intro w hSw; (try dsimp only at hSw); skip; go_simp; (first | done | with_reducible rfl)))
              try simp only [Act.put, List.setIfInBounds_toArray, List.set_cons_zero, List.set_cons_succ]
              (refine wpAnyH_take (i := 5) (oi := { dst := some 53, op := Op.move (Operand.tmp 5), type := 3, pos := "more.go:20", after := #[], guard := none }) (v := ?_) rfl (by kernel_rfl) (by kernel_rfl) (by kernel_rfl) (fun _ _ _ h => h) (Or.inl ⟨by rfl, ?_⟩) (by assumption) ?_; rotate_left; · (intro w hSw; (try dsimp only at hSw); skip; go_simp; (first | done | with_reducible rfl)))
              try simp only [Act.put, List.setIfInBounds_toArray, List.set_cons_zero, List.set_cons_succ]
              (refine wpAnyH_take (i := 6) (oi := { dst := some 54, op := Op.binOp BinOp.sub 3 (Operand.tmp 52) (Operand.tmp 53) 3, type := 3, pos := "more.go:20", after := #[{ on := 4, ground := Ground.data }, { on := 5, ground := Ground.data }], guard := none }) (v := ?_) rfl (by kernel_rfl) (by kernel_rfl) (by kernel_rfl) (fun _ _ _ h => h) (Or.inl ⟨by rfl, ?_⟩) (by assumption) ?_; rotate_left; · (intro w hSw; (try dsimp only at hSw); skip; go_simp; (first | done | with_reducible rfl)))
              try simp only [Act.put, List.setIfInBounds_toArray, List.set_cons_zero, List.set_cons_succ]
              (refine wpAnyH_take (i := 7) (oi := { dst := some 55, op := Op.indexAddr 22 (Operand.tmp 49) (Operand.tmp 54), type := 0, pos := "more.go:20", after := #[{ on := 1, ground := Ground.data }, { on := 6, ground := Ground.data }], guard := none }) (v := ?_) rfl (by kernel_rfl) (by kernel_rfl) (by kernel_rfl) (fun _ _ _ h => h) (Or.inl ⟨by rfl, ?_⟩) (by assumption) ?_; rotate_left; · (intro w hSw; (try dsimp only at hSw); skip; go_simp; (first | done | with_reducible rfl)))
              try simp only [Act.put, List.setIfInBounds_toArray, List.set_cons_zero, List.set_cons_succ]
              (refine wpAnyH_take (i := 8) (oi := { dst := some 56, op := Op.load 49 (Operand.tmp 55), type := 49, pos := "more.go:20", after := #[{ on := 7, ground := Ground.data }], guard := none }) (v := ?_) rfl (by kernel_rfl) (by kernel_rfl) (by kernel_rfl) (fun _ _ _ h => h) (Or.inl ⟨by rfl, ?_⟩) (by assumption) ?_; rotate_left; · (intro w hSw; (try dsimp only at hSw); obtain ⟨z0, z1, z2, z3, z4, z5, z6⟩ := HCU.out _ (grew_trans HGX.out hSw); dsimp only at z0 z1 z2 z3 z4 z5 z6; go_simp; (first | done | with_reducible rfl)))
              try simp only [Act.put, List.setIfInBounds_toArray, List.set_cons_zero, List.set_cons_succ]
              refine wpAnyH_ready (rs := [9, 14]) (by kernel_rfl) (by simp) ?_
              refine (AllReadyH.cons (o := { dst := some 57, op := Op.call { callee := Callee.value (Operand.func 25), args := #[Operand.tmp 48, Operand.tmp 56], argTypes := #[25, 49] }, type := 50, pos := "more.go:20", after := #[{ on := 0, ground := Ground.data }, { on := 8, ground := Ground.data }], guard := none }) rfl (fun K hK => ?_) (AllReadyH.cons (o := { dst := some 9, op := Op.alloc 25, type := 0, pos := "more.go:20", after := #[], guard := none }) rfl (fun K hK => ?_) AllReadyH.nil))
              · go_simp
                (go_at_call 25; (with_reducible refine (CB _ (grew_trans HGX.out (by repeat (first | exact HG5.out | exact grew_refl _ | refine grew_drew ?_ | refine grew_trans ?_ (grew_alloc _ _ _))))).mono ?_); rintro e w5 ⟨F1, F2, f1, f2, rfl, hb, hg⟩; have HB6 := Lib.hid hb; have HB5 := Lib.hid (hb.mono (b2 := w.heap.size + 2) (Nat.le_trans hsz (show Grew wd _ from (by repeat (first | exact HG5.out | exact grew_refl _ | refine grew_drew ?_ | refine grew_trans ?_ (grew_alloc _ _ _)))).size)); have HR5 := Lib.hid hg; have HG5 : Hid (Grew wd w5) := grew_trans (by repeat (first | exact HG5.out | exact grew_refl _ | refine grew_drew ?_ | refine grew_trans ?_ (grew_alloc _ _ _))) hg; clear hb hg)
                refine hK.out _ _ ?_ (fun hHeld => ?_)
                · first
                  | exact (by repeat (first | exact HG5.out | exact grew_refl _ | refine grew_drew ?_ | refine grew_trans ?_ (grew_alloc _ _ _)))
                clear hK K
                try simp only [Act.put, List.setIfInBounds_toArray, List.set_cons_zero, List.set_cons_succ]
                (refine wpAnyH_take (i := 10) (oi := { dst := some 47, op := Op.move (Operand.tmp 57), type := 50, pos := "more.go:20", after := #[{ on := 9, ground := Ground.data }], guard := none }) (v := ?_) rfl (by kernel_rfl) (by kernel_rfl) (by kernel_rfl) (fun _ _ _ h => h) (Or.inl ⟨by rfl, ?_⟩) (by assumption) ?_; rotate_left; · (intro w hSw; (try dsimp only at hSw); skip; go_simp; (first | done | with_reducible rfl)))
                try simp only [Act.put, List.setIfInBounds_toArray, List.set_cons_zero, List.set_cons_succ]
                (refine wpAnyH_take (i := 11) (oi := { dst := some 58, op := Op.extract (Operand.tmp 47) 0, type := 25, pos := "more.go:20", after := #[{ on := 10, ground := Ground.data }], guard := none }) (v := ?_) rfl (by kernel_rfl) (by kernel_rfl) (by kernel_rfl) (fun _ _ _ h => h) (Or.inl ⟨by rfl, ?_⟩) (by assumption) ?_; rotate_left; · (intro w hSw; (try dsimp only at hSw); skip; go_simp; (first | done | with_reducible rfl)))
                try simp only [Act.put, List.setIfInBounds_toArray, List.set_cons_zero, List.set_cons_succ]
                (refine wpAnyH_take (i := 12) (oi := { dst := some 59, op := Op.extract (Operand.tmp 47) 1, type := 3, pos := "more.go:20", after := #[{ on := 10, ground := Ground.data }, { on := 15, ground := Ground.gcOnly Departure.lateStores }], guard := none }) (v := ?_) rfl (by kernel_rfl) (by kernel_rfl) (by kernel_rfl) (fun _ _ _ h => h) (Or.inl ⟨by rfl, ?_⟩) (by assumption) ?_; rotate_left; · (intro w hSw; (try dsimp only at hSw); skip; go_simp; (first | done | with_reducible rfl)))
                try simp only [Act.put, List.setIfInBounds_toArray, List.set_cons_zero, List.set_cons_succ]
                (refine wpAnyH_take (i := 13) (oi := { dst := some 60, op := Op.extract (Operand.tmp 47) 2, type := 32, pos := "more.go:20", after := #[{ on := 10, ground := Ground.data }, { on := 16, ground := Ground.gcOnly Departure.lateStores }], guard := none }) (v := ?_) rfl (by kernel_rfl) (by kernel_rfl) (by kernel_rfl) (fun _ _ _ h => h) (Or.inl ⟨by rfl, ?_⟩) (by assumption) ?_; rotate_left; · (intro w hSw; (try dsimp only at hSw); skip; go_simp; (first | done | with_reducible rfl)))
                try simp only [Act.put, List.setIfInBounds_toArray, List.set_cons_zero, List.set_cons_succ]
                refine wpAnyH_ready (rs := [14]) (by kernel_rfl) (by simp) ?_
                refine (AllReadyH.cons (o := { dst := some 9, op := Op.alloc 25, type := 0, pos := "more.go:20", after := #[], guard := none }) rfl (fun K hK => ?_) AllReadyH.nil)
                go_simp
                refine hK.out _ _ ?_ (fun hHeld => ?_)
                · first
                  | exact (by repeat (first | exact HG5.out | exact grew_refl _ | refine grew_drew ?_ | refine grew_trans ?_ (grew_alloc _ _ _)))
                clear hK K
                try simp only [Act.put, List.setIfInBounds_toArray, List.set_cons_zero, List.set_cons_succ]
                refine wpAnyH_ready (rs := [15]) (by kernel_rfl) (by simp) ?_
                refine (AllReadyH.cons (o := { dst := none, op := Op.store 25 (Operand.tmp 9) (Operand.tmp 58), type := 0, pos := "more.go:20", after := #[{ on := 14, ground := Ground.data }, { on := 11, ground := Ground.data }, { on := 9, ground := Ground.chain }, { on := 0, ground := Ground.phase }, { on := 1, ground := Ground.phase }, { on := 2, ground := Ground.phase }, { on := 3, ground := Ground.phase }, { on := 4, ground := Ground.phase }, { on := 5, ground := Ground.phase }, { on := 6, ground := Ground.phase }, { on := 7, ground := Ground.phase }, { on := 8, ground := Ground.phase }, { on := 9, ground := Ground.phase }, { on := 10, ground := Ground.phase }, { on := 11, ground := Ground.phase }, { on := 12, ground := Ground.textOnly Departure.lateStores }, { on := 13, ground := Ground.textOnly Departure.lateStores }, { on := 14, ground := Ground.phase }], guard := none }) rfl (fun K hK => ?_) AllReadyH.nil)
                first
                  | (have HEB9 := (OwnC.new wd [.int .i64 0, .slice none 0 0, .slice none 0 0] 25 _ rfl).keep (grew_trans (grew_drew (grew_refl _)) HR5.out); have c0 : w5.cell? ⟨wd.heap.size, 0, none⟩ = some (.int .i64 0) := HEB9.at 0 _ rfl; have g0 : w5.frozen? ⟨wd.heap.size, 0, none⟩ = false := HEB9.fr 0 (by show 0 < 3; omega); have c1 : w5.cell? ⟨wd.heap.size, 1, none⟩ = some (.slice none 0 0) := HEB9.at 1 _ rfl; have g1 : w5.frozen? ⟨wd.heap.size, 1, none⟩ = false := HEB9.fr 1 (by show 1 < 3; omega); have c2 : w5.cell? ⟨wd.heap.size, 2, none⟩ = some (.slice none 0 0) := HEB9.at 2 _ rfl; have g2 : w5.frozen? ⟨wd.heap.size, 2, none⟩ = false := HEB9.fr 2 (by show 2 < 3; omega); clear HEB9; have HKEEP : Grew wd ((((w5).setCell ⟨wd.heap.size, 0, none⟩ (.int .i64 fx)).setCell ⟨wd.heap.size, 1, none⟩ (.slice F1 fl.length f1)).setCell ⟨wd.heap.size, 2, none⟩ (.slice F2 fp.length f2)) := grew_set (grew_set (grew_set (HG5.out) (p := ⟨wd.heap.size, 0, none⟩) (.int .i64 fx) (by show _ ≤ wd.heap.size; omega)) (p := ⟨wd.heap.size, 1, none⟩) (.slice F1 fl.length f1) (by show _ ≤ wd.heap.size; omega)) (p := ⟨wd.heap.size, 2, none⟩) (.slice F2 fp.length f2) (by show _ ≤ wd.heap.size; omega))
                  | (have HKEEP := grew_trans HG5.out (grew_alloc w5 #[.int .i64 fx, .slice F1 fl.length f1, .slice F2 fp.length f2] 25))
                go_simp
                refine hK.out _ _ ?_ (fun hHeld => ?_)
                · first
                  | exact HKEEP
                clear hK K
                try simp only [Act.put, List.setIfInBounds_toArray, List.set_cons_zero, List.set_cons_succ]
                (refine wpAnyH_take (i := 16) (oi := { dst := some 10, op := Op.assign (Operand.tmp 59), type := 3, pos := "more.go:20", after := #[{ on := 12, ground := Ground.data }, { on := 15, ground := Ground.chain }, { on := 0, ground := Ground.phase }, { on := 1, ground := Ground.phase }, { on := 2, ground := Ground.phase }, { on := 3, ground := Ground.phase }, { on := 4, ground := Ground.phase }, { on := 5, ground := Ground.phase }, { on := 6, ground := Ground.phase }, { on := 7, ground := Ground.phase }, { on := 8, ground := Ground.phase }, { on := 9, ground := Ground.phase }, { on := 10, ground := Ground.phase }, { on := 11, ground := Ground.phase }, { on := 12, ground := Ground.phase }, { on := 13, ground := Ground.textOnly Departure.lateStores }, { on := 14, ground := Ground.phase }, { on := 15, ground := Ground.phase }], guard := none }) (v := ?_) rfl (by kernel_rfl) (by kernel_rfl) (by kernel_rfl) (fun _ _ _ h => h) (Or.inl ⟨by rfl, ?_⟩) (by assumption) ?_; rotate_left; · (intro w hSw; (try dsimp only at hSw); skip; go_simp; (first | done | with_reducible rfl)))
                try simp only [Act.put, List.setIfInBounds_toArray, List.set_cons_zero, List.set_cons_succ]
                (refine wpAnyH_take (i := 17) (oi := { dst := some 11, op := Op.assign (Operand.tmp 60), type := 32, pos := "more.go:20", after := #[{ on := 13, ground := Ground.data }, { on := 16, ground := Ground.chain }, { on := 0, ground := Ground.phase }, { on := 1, ground := Ground.phase }, { on := 2, ground := Ground.phase }, { on := 3, ground := Ground.phase }, { on := 4, ground := Ground.phase }, { on := 5, ground := Ground.phase }, { on := 6, ground := Ground.phase }, { on := 7, ground := Ground.phase }, { on := 8, ground := Ground.phase }, { on := 9, ground := Ground.phase }, { on := 10, ground := Ground.phase }, { on := 11, ground := Ground.phase }, { on := 12, ground := Ground.phase }, { on := 13, ground := Ground.phase }, { on := 14, ground := Ground.phase }, { on := 15, ground := Ground.phase }, { on := 16, ground := Ground.phase }], guard := none }) (v := ?_) rfl (by kernel_rfl) (by kernel_rfl) (by kernel_rfl) (fun _ _ _ h => h) (Or.inl ⟨by rfl, ?_⟩) (by assumption) ?_; rotate_left; · (intro w hSw; (try dsimp only at hSw); skip; go_simp; (first | done | with_reducible rfl)))
                try simp only [Act.put, List.setIfInBounds_toArray, List.set_cons_zero, List.set_cons_succ]
                refine wpAnyH_done (by kernel_rfl) ?_ _
                clear hHeld
                first
                  | (have HEB9 := (OwnC.new wd [.int .i64 0, .slice none 0 0, .slice none 0 0] 25 _ rfl).keep (grew_trans (grew_drew (grew_refl _)) HR5.out); have hlt9 := ((OwnC.new wd [.int .i64 0, .slice none 0 0, .slice none 0 0] 25 _ rfl).keep (grew_drew (grew_refl _))).lt; have hbt : ∀ x, F1 = some x → x.block ≠ wd.heap.size := (fun x hx => Nat.ne_of_gt (Nat.lt_of_lt_of_le hlt9 (HB6.out.t.block x hx).1)); have hbp : ∀ x, F2 = some x → x.block ≠ wd.heap.size := (fun x hx => Nat.ne_of_gt (Nat.lt_of_lt_of_le hlt9 (HB6.out.p.block x hx).1)); have HA : Hid (OwnC ((((w5).setCell ⟨wd.heap.size, 0, none⟩ (.int .i64 fx)).setCell ⟨wd.heap.size, 1, none⟩ (.slice F1 fl.length f1)).setCell ⟨wd.heap.size, 2, none⟩ (.slice F2 fp.length f2)) (wd.heap.size) [.int .i64 fx, .slice F1 fl.length f1, .slice F2 fp.length f2] ∧ OwnB ((((w5).setCell ⟨wd.heap.size, 0, none⟩ (.int .i64 fx)).setCell ⟨wd.heap.size, 1, none⟩ (.slice F1 fl.length f1)).setCell ⟨wd.heap.size, 2, none⟩ (.slice F2 fp.length f2)) (w.heap.size + 2) (fx, fl, fp) F1 F2 f1 f2 ∧ Grew wd ((((w5).setCell ⟨wd.heap.size, 0, none⟩ (.int .i64 fx)).setCell ⟨wd.heap.size, 1, none⟩ (.slice F1 fl.length f1)).setCell ⟨wd.heap.size, 2, none⟩ (.slice F2 fp.length f2)) ∧ w.heap.size + 1 < wd.heap.size) := ⟨OwnC.set (OwnC.set (OwnC.set (HEB9) 0 (.int .i64 fx) (by show 0 < 3; omega)) 1 (.slice F1 fl.length f1) (by show 1 < 3; omega)) 2 (.slice F2 fp.length f2) (by show 2 < 3; omega), OwnB.setO (OwnB.setO (OwnB.setO (HB5.out) hbt hbp wd.heap.size 0 (.int .i64 fx) rfl) hbt hbp wd.heap.size 1 (.slice F1 fl.length f1) rfl) hbt hbp wd.heap.size 2 (.slice F2 fp.length f2) rfl, grew_set (grew_set (grew_set (HG5.out) (p := ⟨wd.heap.size, 0, none⟩) (.int .i64 fx) (by show _ ≤ wd.heap.size; omega)) (p := ⟨wd.heap.size, 1, none⟩) (.slice F1 fl.length f1) (by show _ ≤ wd.heap.size; omega)) (p := ⟨wd.heap.size, 2, none⟩) (.slice F2 fp.length f2) (by show _ ≤ wd.heap.size; omega), by omega⟩; clear HEB9 hlt9 hbt hbp; generalize (((w5).setCell ⟨wd.heap.size, 0, none⟩ (.int .i64 fx)).setCell ⟨wd.heap.size, 1, none⟩ (.slice F1 fl.length f1)).setCell ⟨wd.heap.size, 2, none⟩ (.slice F2 fp.length f2) = wT at *; generalize wd.heap.size = T at *)
                  | (have hs5 := HG5.out.size; have HA : Hid (OwnC (w5.alloc (.cells #[.int .i64 fx, .slice F1 fl.length f1, .slice F2 fp.length f2] 25)) (w5.heap.size) [.int .i64 fx, .slice F1 fl.length f1, .slice F2 fp.length f2] ∧ OwnB (w5.alloc (.cells #[.int .i64 fx, .slice F1 fl.length f1, .slice F2 fp.length f2] 25)) (w.heap.size + 2) (fx, fl, fp) F1 F2 f1 f2 ∧ Grew wd (w5.alloc (.cells #[.int .i64 fx, .slice F1 fl.length f1, .slice F2 fp.length f2] 25)) ∧ w.heap.size + 1 < w5.heap.size) := ⟨OwnC.new w5 [.int .i64 fx, .slice F1 fl.length f1, .slice F2 fp.length f2] _ _ rfl, HB5.out.keep (grew_alloc _ _ _), grew_trans HG5.out (grew_alloc _ _ _), by omega⟩; generalize w5.alloc (.cells #[.int .i64 fx, .slice F1 fl.length f1, .slice F2 fp.length f2] 25) = wT at *; generalize w5.heap.size = T at *)
                clear HKEEP
                apply_assumption
                go_wp2
                go_meet
                exact ⟨_, _, _, _, _, rfl, rfl, HA.out.1, HA.out.2.1, HA.out.2.2.2, HA.out.2.2.1⟩
              · go_simp
                refine hK.out _ _ ?_ (fun hHeld => ?_)
                · first
                  | exact (by repeat (first | exact HG5.out | exact grew_refl _ | refine grew_drew ?_ | refine grew_trans ?_ (grew_alloc _ _ _)))
                clear hK K
                try simp only [Act.put, List.setIfInBounds_toArray, List.set_cons_zero, List.set_cons_succ]
                refine wpAnyH_ready (rs := [9]) (by kernel_rfl) (by simp) ?_
                refine (AllReadyH.cons (o := { dst := some 57, op := Op.call { callee := Callee.value (Operand.func 25), args := #[Operand.tmp 48, Operand.tmp 56], argTypes := #[25, 49] }, type := 50, pos := "more.go:20", after := #[{ on := 0, ground := Ground.data }, { on := 8, ground := Ground.data }], guard := none }) rfl (fun K hK => ?_) AllReadyH.nil)
                go_simp
                (go_at_call 25; (with_reducible refine (CB _ (grew_trans HGX.out (by repeat (first | exact HG5.out | exact grew_refl _ | refine grew_drew ?_ | refine grew_trans ?_ (grew_alloc _ _ _))))).mono ?_); rintro e w5 ⟨F1, F2, f1, f2, rfl, hb, hg⟩; have HB6 := Lib.hid hb; have HB5 := Lib.hid (hb.mono (b2 := w.heap.size + 2) (Nat.le_trans hsz (show Grew wd _ from (by repeat (first | exact HG5.out | exact grew_refl _ | refine grew_drew ?_ | refine grew_trans ?_ (grew_alloc _ _ _)))).size)); have HR5 := Lib.hid hg; have HG5 : Hid (Grew wd w5) := grew_trans (by repeat (first | exact HG5.out | exact grew_refl _ | refine grew_drew ?_ | refine grew_trans ?_ (grew_alloc _ _ _))) hg; clear hb hg)
                refine hK.out _ _ ?_ (fun hHeld => ?_)
                · first
                  | exact (by repeat (first | exact HG5.out | exact grew_refl _ | refine grew_drew ?_ | refine grew_trans ?_ (grew_alloc _ _ _)))
                clear hK K
                try simp only [Act.put, List.setIfInBounds_toArray, List.set_cons_zero, List.set_cons_succ]
                (refine wpAnyH_take (i := 10) (oi := { dst := some 47, op := Op.move (Operand.tmp 57), type := 50, pos := "more.go:20", after := #[{ on := 9, ground := Ground.data }], guard := none }) (v := ?_) rfl (by kernel_rfl) (by kernel_rfl) (by kernel_rfl) (fun _ _ _ h => h) (Or.inl ⟨by rfl, ?_⟩) (by assumption) ?_; rotate_left; · (intro w hSw; (try dsimp only at hSw); skip; go_simp; (first | done | with_reducible rfl)))
                try simp only [Act.put, List.setIfInBounds_toArray, List.set_cons_zero, List.set_cons_succ]
                (refine wpAnyH_take (i := 11) (oi := { dst := some 58, op := Op.extract (Operand.tmp 47) 0, type := 25, pos := "more.go:20", after := #[{ on := 10, ground := Ground.data }], guard := none }) (v := ?_) rfl (by kernel_rfl) (by kernel_rfl) (by kernel_rfl) (fun _ _ _ h => h) (Or.inl ⟨by rfl, ?_⟩) (by assumption) ?_; rotate_left; · (intro w hSw; (try dsimp only at hSw); skip; go_simp; (first | done | with_reducible rfl)))
                try simp only [Act.put, List.setIfInBounds_toArray, List.set_cons_zero, List.set_cons_succ]
                (refine wpAnyH_take (i := 12) (oi := { dst := some 59, op := Op.extract (Operand.tmp 47) 1, type := 3, pos := "more.go:20", after := #[{ on := 10, ground := Ground.data }, { on := 15, ground := Ground.gcOnly Departure.lateStores }], guard := none }) (v := ?_) rfl (by kernel_rfl) (by kernel_rfl) (by kernel_rfl) (fun _ _ _ h => h) (Or.inl ⟨by rfl, ?_⟩) (by assumption) ?_; rotate_left; · (intro w hSw; (try dsimp only at hSw); skip; go_simp; (first | done | with_reducible rfl)))
                try simp only [Act.put, List.setIfInBounds_toArray, List.set_cons_zero, List.set_cons_succ]
                (refine wpAnyH_take (i := 13) (oi := { dst := some 60, op := Op.extract (Operand.tmp 47) 2, type := 32, pos := "more.go:20", after := #[{ on := 10, ground := Ground.data }, { on := 16, ground := Ground.gcOnly Departure.lateStores }], guard := none }) (v := ?_) rfl (by kernel_rfl) (by kernel_rfl) (by kernel_rfl) (fun _ _ _ h => h) (Or.inl ⟨by rfl, ?_⟩) (by assumption) ?_; rotate_left; · (intro w hSw; (try dsimp only at hSw); skip; go_simp; (first | done | with_reducible rfl)))
                try simp only [Act.put, List.setIfInBounds_toArray, List.set_cons_zero, List.set_cons_succ]
                refine wpAnyH_ready (rs := [15]) (by kernel_rfl) (by simp) ?_
                refine (AllReadyH.cons (o := { dst := none, op := Op.store 25 (Operand.tmp 9) (Operand.tmp 58), type := 0, pos := "more.go:20", after := #[{ on := 14, ground := Ground.data }, { on := 11, ground := Ground.data }, { on := 9, ground := Ground.chain }, { on := 0, ground := Ground.phase }, { on := 1, ground := Ground.phase }, { on := 2, ground := Ground.phase }, { on := 3, ground := Ground.phase }, { on := 4, ground := Ground.phase }, { on := 5, ground := Ground.phase }, { on := 6, ground := Ground.phase }, { on := 7, ground := Ground.phase }, { on := 8, ground := Ground.phase }, { on := 9, ground := Ground.phase }, { on := 10, ground := Ground.phase }, { on := 11, ground := Ground.phase }, { on := 12, ground := Ground.textOnly Departure.lateStores }, { on := 13, ground := Ground.textOnly Departure.lateStores }, { on := 14, ground := Ground.phase }], guard := none }) rfl (fun K hK => ?_) AllReadyH.nil)
                first
                  | (have HEB9 := (OwnC.new wd [.int .i64 0, .slice none 0 0, .slice none 0 0] 25 _ rfl).keep (grew_trans (grew_drew (grew_refl _)) HR5.out); have c0 : w5.cell? ⟨wd.heap.size, 0, none⟩ = some (.int .i64 0) := HEB9.at 0 _ rfl; have g0 : w5.frozen? ⟨wd.heap.size, 0, none⟩ = false := HEB9.fr 0 (by show 0 < 3; omega); have c1 : w5.cell? ⟨wd.heap.size, 1, none⟩ = some (.slice none 0 0) := HEB9.at 1 _ rfl; have g1 : w5.frozen? ⟨wd.heap.size, 1, none⟩ = false := HEB9.fr 1 (by show 1 < 3; omega); have c2 : w5.cell? ⟨wd.heap.size, 2, none⟩ = some (.slice none 0 0) := HEB9.at 2 _ rfl; have g2 : w5.frozen? ⟨wd.heap.size, 2, none⟩ = false := HEB9.fr 2 (by show 2 < 3; omega); clear HEB9; have HKEEP : Grew wd ((((w5).setCell ⟨wd.heap.size, 0, none⟩ (.int .i64 fx)).setCell ⟨wd.heap.size, 1, none⟩ (.slice F1 fl.length f1)).setCell ⟨wd.heap.size, 2, none⟩ (.slice F2 fp.length f2)) := grew_set (grew_set (grew_set (HG5.out) (p := ⟨wd.heap.size, 0, none⟩) (.int .i64 fx) (by show _ ≤ wd.heap.size; omega)) (p := ⟨wd.heap.size, 1, none⟩) (.slice F1 fl.length f1) (by show _ ≤ wd.heap.size; omega)) (p := ⟨wd.heap.size, 2, none⟩) (.slice F2 fp.length f2) (by show _ ≤ wd.heap.size; omega))
                  | (have HKEEP := grew_trans HG5.out (grew_alloc w5 #[.int .i64 fx, .slice F1 fl.length f1, .slice F2 fp.length f2] 25))
                go_simp
                refine hK.out _ _ ?_ (fun hHeld => ?_)
                · first
                  | exact HKEEP
                clear hK K
                try simp only [Act.put, List.setIfInBounds_toArray, List.set_cons_zero, List.set_cons_succ]
                (refine wpAnyH_take (i := 16) (oi := { dst := some 10, op := Op.assign (Operand.tmp 59), type := 3, pos := "more.go:20", after := #[{ on := 12, ground := Ground.data }, { on := 15, ground := Ground.chain }, { on := 0, ground := Ground.phase }, { on := 1, ground := Ground.phase }, { on := 2, ground := Ground.phase }, { on := 3, ground := Ground.phase }, { on := 4, ground := Ground.phase }, { on := 5, ground := Ground.phase }, { on := 6, ground := Ground.phase }, { on := 7, ground := Ground.phase }, { on := 8, ground := Ground.phase }, { on := 9, ground := Ground.phase }, { on := 10, ground := Ground.phase }, { on := 11, ground := Ground.phase }, { on := 12, ground := Ground.phase }, { on := 13, ground := Ground.textOnly Departure.lateStores }, { on := 14, ground := Ground.phase }, { on := 15, ground := Ground.phase }], guard := none }) (v := ?_) rfl (by kernel_rfl) (by kernel_rfl) (by kernel_rfl) (fun _ _ _ h => h) (Or.inl ⟨by rfl, ?_⟩) (by assumption) ?_; rotate_left; · (intro w hSw; (try dsimp only at hSw); skip; go_simp; (first | done | with_reducible rfl)))
                try simp only [Act.put, List.setIfInBounds_toArray, List.set_cons_zero, List.set_cons_succ]
                (refine wpAnyH_take (i := 17) (oi := { dst := some 11, op := Op.assign (Operand.tmp 60), type := 32, pos := "more.go:20", after := #[{ on := 13, ground := Ground.data }, { on := 16, ground := Ground.chain }, { on := 0, ground := Ground.phase }, { on := 1, ground := Ground.phase }, { on := 2, ground := Ground.phase }, { on := 3, ground := Ground.phase }, { on := 4, ground := Ground.phase }, { on := 5, ground := Ground.phase }, { on := 6, ground := Ground.phase }, { on := 7, ground := Ground.phase }, { on := 8, ground := Ground.phase }, { on := 9, ground := Ground.phase }, { on := 10, ground := Ground.phase }, { on := 11, ground := Ground.phase }, { on := 12, ground := Ground.phase }, { on := 13, ground := Ground.phase }, { on := 14, ground := Ground.phase }, { on := 15, ground := Ground.phase }, { on := 16, ground := Ground.phase }], guard := none }) (v := ?_) rfl (by kernel_rfl) (by kernel_rfl) (by kernel_rfl) (fun _ _ _ h => h) (Or.inl ⟨by rfl, ?_⟩) (by assumption) ?_; rotate_left; · (intro w hSw; (try dsimp only at hSw); skip; go_simp; (first | done | with_reducible rfl)))
                try simp only [Act.put, List.setIfInBounds_toArray, List.set_cons_zero, List.set_cons_succ]
                refine wpAnyH_done (by kernel_rfl) ?_ _
                clear hHeld
                first
                  | (have HEB9 := (OwnC.new wd [.int .i64 0, .slice none 0 0, .slice none 0 0] 25 _ rfl).keep (grew_trans (grew_drew (grew_refl _)) HR5.out); have hlt9 := ((OwnC.new wd [.int .i64 0, .slice none 0 0, .slice none 0 0] 25 _ rfl).keep (grew_drew (grew_refl _))).lt; have hbt : ∀ x, F1 = some x → x.block ≠ wd.heap.size := (fun x hx => Nat.ne_of_gt (Nat.lt_of_lt_of_le hlt9 (HB6.out.t.block x hx).1)); have hbp : ∀ x, F2 = some x → x.block ≠ wd.heap.size := (fun x hx => Nat.ne_of_gt (Nat.lt_of_lt_of_le hlt9 (HB6.out.p.block x hx).1)); have HA : Hid (OwnC ((((w5).setCell ⟨wd.heap.size, 0, none⟩ (.int .i64 fx)).setCell ⟨wd.heap.size, 1, none⟩ (.slice F1 fl.length f1)).setCell ⟨wd.heap.size, 2, none⟩ (.slice F2 fp.length f2)) (wd.heap.size) [.int .i64 fx, .slice F1 fl.length f1, .slice F2 fp.length f2] ∧ OwnB ((((w5).setCell ⟨wd.heap.size, 0, none⟩ (.int .i64 fx)).setCell ⟨wd.heap.size, 1, none⟩ (.slice F1 fl.length f1)).setCell ⟨wd.heap.size, 2, none⟩ (.slice F2 fp.length f2)) (w.heap.size + 2) (fx, fl, fp) F1 F2 f1 f2 ∧ Grew wd ((((w5).setCell ⟨wd.heap.size, 0, none⟩ (.int .i64 fx)).setCell ⟨wd.heap.size, 1, none⟩ (.slice F1 fl.length f1)).setCell ⟨wd.heap.size, 2, none⟩ (.slice F2 fp.length f2)) ∧ w.heap.size + 1 < wd.heap.size) := ⟨OwnC.set (OwnC.set (OwnC.set (HEB9) 0 (.int .i64 fx) (by show 0 < 3; omega)) 1 (.slice F1 fl.length f1) (by show 1 < 3; omega)) 2 (.slice F2 fp.length f2) (by show 2 < 3; omega), OwnB.setO (OwnB.setO (OwnB.setO (HB5.out) hbt hbp wd.heap.size 0 (.int .i64 fx) rfl) hbt hbp wd.heap.size 1 (.slice F1 fl.length f1) rfl) hbt hbp wd.heap.size 2 (.slice F2 fp.length f2) rfl, grew_set (grew_set (grew_set (HG5.out) (p := ⟨wd.heap.size, 0, none⟩) (.int .i64 fx) (by show _ ≤ wd.heap.size; omega)) (p := ⟨wd.heap.size, 1, none⟩) (.slice F1 fl.length f1) (by show _ ≤ wd.heap.size; omega)) (p := ⟨wd.heap.size, 2, none⟩) (.slice F2 fp.length f2) (by show _ ≤ wd.heap.size; omega), by omega⟩; clear HEB9 hlt9 hbt hbp; generalize (((w5).setCell ⟨wd.heap.size, 0, none⟩ (.int .i64 fx)).setCell ⟨wd.heap.size, 1, none⟩ (.slice F1 fl.length f1)).setCell ⟨wd.heap.size, 2, none⟩ (.slice F2 fp.length f2) = wT at *; generalize wd.heap.size = T at *)
                  | (have hs5 := HG5.out.size; have HA : Hid (OwnC (w5.alloc (.cells #[.int .i64 fx, .slice F1 fl.length f1, .slice F2 fp.length f2] 25)) (w5.heap.size) [.int .i64 fx, .slice F1 fl.length f1, .slice F2 fp.length f2] ∧ OwnB (w5.alloc (.cells #[.int .i64 fx, .slice F1 fl.length f1, .slice F2 fp.length f2] 25)) (w.heap.size + 2) (fx, fl, fp) F1 F2 f1 f2 ∧ Grew wd (w5.alloc (.cells #[.int .i64 fx, .slice F1 fl.length f1, .slice F2 fp.length f2] 25)) ∧ w.heap.size + 1 < w5.heap.size) := ⟨OwnC.new w5 [.int .i64 fx, .slice F1 fl.length f1, .slice F2 fp.length f2] _ _ rfl, HB5.out.keep (grew_alloc _ _ _), grew_trans HG5.out (grew_alloc _ _ _), by omega⟩; generalize w5.alloc (.cells #[.int .i64 fx, .slice F1 fl.length f1, .slice F2 fp.length f2] 25) = wT at *; generalize w5.heap.size = T at *)
                clear HKEEP
                apply_assumption
                go_wp2
                go_meet
                exact ⟨_, _, _, _, _, rfl, rfl, HA.out.1, HA.out.2.1, HA.out.2.2.2, HA.out.2.2.1⟩
            case rest =>
              obtain ⟨H2, F1, F2, f1, f2, rfl, rfl, m1, m2, hH2, m3⟩ := hcut
              have HF := Lib.hid m1
              have HOF := Lib.hid m2
              have HSX := Lib.hid (HS.out.keep (grew_trans HGX.out m3))
              have HE2 := Lib.hid (HE.out.keep m3)
              have HOE2 := Lib.hid (HOE.out.keep m3)
              clear m1 m2 m3 CB HCT HCU HS HE HOE HGX hw1 hw2
              generalize wc = wy at *
              by_cases za : ea = 0
              · subst za
                rw [if_pos rfl] at HNA
                have h0 : wy.cell? ⟨H, 0, none⟩ = some (.int .i64 ex) := HE2.out.at 0 _ rfl
                have h1 : wy.cell? ⟨H, 1, none⟩ = some (.slice E1 el.length e1) := HE2.out.at 1 _ rfl
                have h2 : wy.cell? ⟨H, 2, none⟩ = some (.slice E2 ep.length e2) := HE2.out.at 2 _ rfl
                have p0 : wy.cell? ⟨w.heap.size, 0, none⟩ = some (.int .i64 ax) := HSX.out.pa.at 0 _ rfl
                have p1 : wy.cell? ⟨w.heap.size, 1, none⟩ = some (.slice A1 al.length a1) := HSX.out.pa.at 1 _ rfl
                have p2 : wy.cell? ⟨w.heap.size, 2, none⟩ = some (.slice A2 ap.length a2) := HSX.out.pa.at 2 _ rfl
                have pf0 : wy.frozen? ⟨w.heap.size, 0, none⟩ = false := HSX.out.pa.fr 0 (by show 0 < 3; omega)
                have pf1 : wy.frozen? ⟨w.heap.size, 1, none⟩ = false := HSX.out.pa.fr 1 (by show 1 < 3; omega)
                have pf2 : wy.frozen? ⟨w.heap.size, 2, none⟩ = false := HSX.out.pa.fr 2 (by show 2 < 3; omega)
                go_upto_region 13 with fail
                change Code.wp _ _ _ _ (putC wy w.heap.size 0 [.int .i64 ex, .slice E1 el.length e1, .slice E2 ep.length e2])
                clear h0 h1 h2 p0 p1 p2 pf0 pf1 pf2
                have HSY := Lib.hid (HSX.out.putA HOE2.out)
                have HF2 : Hid (OwnC (putC wy w.heap.size 0 [.int .i64 ex, .slice E1 el.length e1, .slice E2 ep.length e2]) H2 [.int .i64 fx, .slice F1 fl.length f1, .slice F2 fp.length f2]) := OwnC.putO (by omega) [.int .i64 ex, .slice E1 el.length e1, .slice E2 ep.length e2] 0 _ HF.out
                have HOF2 : Hid (OwnB (putC wy w.heap.size 0 [.int .i64 ex, .slice E1 el.length e1, .slice E2 ep.length e2]) (w.heap.size + 2) (fx, fl, fp) F1 F2 f1 f2) := HOF.out.put (by omega) [.int .i64 ex, .slice E1 el.length e1, .slice E2 ep.length e2]
                dsimp only at HSY
                generalize (putC wy w.heap.size 0 [.int .i64 ex, .slice E1 el.length e1, .slice E2 ep.length e2]) = wz at *
                clear HSX HE2 HOE2 HF HOF
                by_cases zb : eb = 0
                · subst zb
                  rw [if_pos rfl] at HNB
                  have h0 : wz.cell? ⟨H2, 0, none⟩ = some (.int .i64 fx) := HF2.out.at 0 _ rfl
                  have h1 : wz.cell? ⟨H2, 1, none⟩ = some (.slice F1 fl.length f1) := HF2.out.at 1 _ rfl
                  have h2 : wz.cell? ⟨H2, 2, none⟩ = some (.slice F2 fp.length f2) := HF2.out.at 2 _ rfl
                  have p0 : wz.cell? ⟨w.heap.size + 1, 0, none⟩ = some (.int .i64 bx) := HSY.out.pb.at 0 _ rfl
                  have p1 : wz.cell? ⟨w.heap.size + 1, 1, none⟩ = some (.slice B1 bl.length b1) := HSY.out.pb.at 1 _ rfl
                  have p2 : wz.cell? ⟨w.heap.size + 1, 2, none⟩ = some (.slice B2 bp.length b2) := HSY.out.pb.at 2 _ rfl
                  have pf0 : wz.frozen? ⟨w.heap.size + 1, 0, none⟩ = false := HSY.out.pb.fr 0 (by show 0 < 3; omega)
                  have pf1 : wz.frozen? ⟨w.heap.size + 1, 1, none⟩ = false := HSY.out.pb.fr 1 (by show 1 < 3; omega)
                  have pf2 : wz.frozen? ⟨w.heap.size + 1, 2, none⟩ = false := HSY.out.pb.fr 2 (by show 2 < 3; omega)
                  have HSZ := Lib.hid (HSY.out.putB HOF2.out)
                  dsimp only at HSZ
                  go_wp2
                  go_roundw
                  case rel => exact ⟨i + 1, (ex, el, ep), (fx, fl, fp), E1, E2, F1, F2, e1, e2, f1, f2, by go_num, by omega, HNA.out, HNB.out, HSZ.out⟩
                  case measure => simp only [intOf]; omega
                · rw [if_neg zb] at HNB
                  have d1 : (eb == 0) = false := by simpa using zb
                  go_wp2
                  go_roundw
                  case rel => exact ⟨i + 1, (ex, el, ep), (bx, bl, bp), E1, E2, B1, B2, e1, e2, b1, b2, by go_num, by omega, HNA.out, HNB.out, HSY.out⟩
                  case measure => simp only [intOf]; omega
              · rw [if_neg za] at HNA
                have d0 : (ea == 0) = false := by simpa using za
                by_cases zb : eb = 0
                · subst zb
                  rw [if_pos rfl] at HNB
                  have h0 : wy.cell? ⟨H2, 0, none⟩ = some (.int .i64 fx) := HF.out.at 0 _ rfl
                  have h1 : wy.cell? ⟨H2, 1, none⟩ = some (.slice F1 fl.length f1) := HF.out.at 1 _ rfl
                  have h2 : wy.cell? ⟨H2, 2, none⟩ = some (.slice F2 fp.length f2) := HF.out.at 2 _ rfl
                  have p0 : wy.cell? ⟨w.heap.size + 1, 0, none⟩ = some (.int .i64 bx) := HSX.out.pb.at 0 _ rfl
                  have p1 : wy.cell? ⟨w.heap.size + 1, 1, none⟩ = some (.slice B1 bl.length b1) := HSX.out.pb.at 1 _ rfl
                  have p2 : wy.cell? ⟨w.heap.size + 1, 2, none⟩ = some (.slice B2 bp.length b2) := HSX.out.pb.at 2 _ rfl
                  have pf0 : wy.frozen? ⟨w.heap.size + 1, 0, none⟩ = false := HSX.out.pb.fr 0 (by show 0 < 3; omega)
                  have pf1 : wy.frozen? ⟨w.heap.size + 1, 1, none⟩ = false := HSX.out.pb.fr 1 (by show 1 < 3; omega)
                  have pf2 : wy.frozen? ⟨w.heap.size + 1, 2, none⟩ = false := HSX.out.pb.fr 2 (by show 2 < 3; omega)
                  have HSZ := Lib.hid (HSX.out.putB HOF.out)
                  dsimp only at HSZ
                  go_wp2
                  go_roundw
                  case rel => exact ⟨i + 1, (ax, al, ap), (fx, fl, fp), A1, A2, F1, F2, a1, a2, f1, f2, by go_num, by omega, HNA.out, HNB.out, HSZ.out⟩
                  case measure => simp only [intOf]; omega
                · rw [if_neg zb] at HNB
                  have d1 : (eb == 0) = false := by simpa using zb
                  go_wp2
                  go_roundw
                  case rel => exact ⟨i + 1, (ax, al, ap), (bx, bl, bp), A1, A2, B1, B2, a1, a2, b1, b2, by go_num, by omega, HNA.out, HNB.out, HSX.out⟩
                  case measure => simp only [intOf]; omega
      · obtain rfl : i = n := by omega
        rw [List.take_of_length_le (by rw [HL.out]; exact Nat.le_refl _)] at HEA
        rw [List.take_of_length_le (by rw [List.length_reverse, HL.out]; exact Nat.le_refl _)] at HEB
        obtain ⟨m1, m2⟩ := ent_rev HEA.out HEB.out
        have hla := right_lens HEA.out.right
        obtain ⟨ax, al, ap⟩ := a
        obtain ⟨bx, bl, bp⟩ := b
        dsimp only at m1 m2 hla
        subst m1 m2
        have hge : ¬ (i : Int) < (i : Int) := by omega
        clear HEA HEB
        have HG := Lib.hid HS.out.g
        have x2 : wr.cell? ⟨w.heap.size, 2, none⟩ = some (.slice A2 ap.length a2) := HS.out.pa.at 2 _ rfl
        have y2 : wr.cell? ⟨w.heap.size + 1, 2, none⟩ = some (.slice B2 ap.length b2) := HS.out.pb.at 2 _ rfl
        have CP := keepPoss_yes A2 B2 ap.length a2 b2 ap wr HS.out.oa.in.p HS.out.ob.in.p (by omega)
        have HXY : Hid (∀ w', Grew wr w' → w'.cell? ⟨w.heap.size, 0, none⟩ = some (.int .i64 ax) ∧ w'.cell? ⟨w.heap.size + 1, 0, none⟩ = some (.int .i64 ax)) := fun w' g => ⟨(HS.out.pa.keep g).at 0 _ rfl, (HS.out.pb.keep g).at 0 _ rfl⟩
        go_wp2_with (first
          | (go_at_call 27; ((with_reducible refine CP.mono ?_); rintro e w3 ⟨rfl, hg⟩; obtain ⟨x0, y0⟩ := HXY.out _ hg; have HG3 := Lib.hid (grew_trans HG.out hg); clear hg))
          | (go_at_call 23; ((with_reducible refine (CW _).mono ?_); rintro e w4 ⟨rfl, hg⟩; have HG4 := Lib.hid (grew_trans HG3.out hg); clear hg)))
        go_ret
        exact ⟨rfl, HG4.out⟩
end Go.Proofs.Ytkbmiajgmnfpfaa.NumK
namespace Go.Proofs.Ytkbmiajgmnfpfaa.bookOrder
open Go.ChangeShapes Go.WideShapes Go.ChangeAt Go.RowKit
set_option linter.unusedVariables false

theorem own : ownKnob Try.prog.godebug = none := by kernel_rfl
theorem laidOut : laidOutB Try.prog = true := by kernel_rfl

set_option maxRecDepth 100000 in
theorem lifted (os : Os) (started : os.Started) (H : Type) (enc : TypeId × Value → H) :
    ReturnsInHanded {} Try.checked os 7 .any (Rows.bookOrderSpec.pre6 enc Try.prog Try.f7 Rows.bookOrderRow.domain false) (Rows.bookOrderSpec.post enc Try.prog Try.f7 false true false false) := by
  refine returnsInHanded_of_change (C := Try.checked) own started (by kernel_rfl) Try.func7
    (ChangeSpec.witness6 (enc := enc) (C := Try.checked) false ⟨#[], #[.slice none 0 0], []⟩ 8 (by kernel_rfl) (by kernel_rfl) (by kernel_rfl) (by kernel_rfl)) ?_
  intro W base args ds gs before hval0 hW hcnd _
  have hval : ∀ (j : Nat) t v, Try.f7.params[j]? = some t → args[j]? = some v → Value.okWide Try.prog W .any base t v := hval0
  have hW' := hW
  obtain ⟨p, q, hA0, hV, rfl, hfz, hnd⟩ := hW
  have hA : DataW.TrodAll enc Try.prog W 0 (fun _ => true) true Try.f7.params.toList args.toList ds p := hA0
  skip
  rw [Try.params7] at hA hval
  obtain ⟨v0, vs0, d0, ds0, p0, q0, hargs, rfl, rfl, h0, r0⟩ := trodAll_cons hA
  obtain ⟨rfl, rfl, rfl⟩ := trodAll_nil r0
  obtain rfl : args = #[v0] := by cases args; simp_all
  obtain ⟨rfl, rfl⟩ := trodVars_none hV
  have k0 := h0
  have lt0 : ∀ x ∈ p0, x.block < W.heap.size := by obtain ⟨m, hm⟩ := k0; exact DataW.trod_lt m _ _ _ hm
  obtain ⟨A0, len0, cap0, l0, rfl, ro0, n0, c0, m0⟩ := NumK.arg_slice Try.underlying22 NumK.opens_trades (hval 0 22 v0 rfl rfl) h0
  clear hA0 hval0
  refine (NumK.bookOrder_walk A0 len0 cap0 l0 W (NumK.trs_of ro0)).mono fun e W' ⟨he, bel⟩ => ?_
  subst he
  exact ⟨_, rfl, _, _, _, [], _, [], hW', trodAll_mk1 (shut_bool Try.underlying4 _), (trodAll_cons_mk (Below.trod laidOut (by kernel_rfl) (of_decide_eq_true (by kernel_rfl)) k0 bel lt0) trodAll_mk0), rfl, bel.frame _, fun h => by cases h⟩

theorem over : Rows.bookOrderRow.holds Try.pinned (OpenSpec.ofChange Rows.bookOrderSpec) :=
  OpenClaim.holds_of_wide 7 Try.f7 rfl rfl rfl rfl rfl rfl rfl ⟨rfl, rfl, rfl, rfl, rfl⟩ rfl rfl rfl rfl rfl (by kernel_rfl) Try.func7 (by kernel_rfl)
    (of_decide_eq_true (by kernel_rfl)) (by unfold Func.isWrapper; first | (rw [if_pos (by decide +kernel)]; kernel_rfl) | (rw [if_neg (by decide +kernel)]; exact ⟨rfl, rfl⟩))
    (fun os started H enc _ => lifted os started H enc)

/-! ### the statement -/
theorem proved : Rows.BookOrderSaid := over
end Go.Proofs.Ytkbmiajgmnfpfaa.bookOrder
