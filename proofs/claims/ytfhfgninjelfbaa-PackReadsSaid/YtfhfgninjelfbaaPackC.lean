/- pack: a Writer's Int, Mark, Text. -/
import Derived.Test.YtfhfgninjelfbaaPackB
import Derived.Test.YtfhfgninjelfbaaMem
namespace Go.Proofs.Ytfhfgninjelfbaa.NumK
open Go.RowKit

theorem AddPost.then {q : Nat} {st : Option (List UInt8)} {xs ys : List UInt8} {w w1 w' : World} {e1 e : Ending} (h1 : AddPost q st xs w e1 w1) (h2 : AddPost q (st.map (· ++ xs)) ys w1 e w') : AddPost q st (xs ++ ys) w e w' := by
  refine ⟨h2.1, ?_, h1.2.2.trans h2.2.2⟩
  have := h2.2.1
  cases st with
  | none => exact this
  | some l => simpa using this
theorem AddPost.grew {q : Nat} {st : Option (List UInt8)} {xs : List UInt8} {w w1 w' : World} {e : Ending} (g : Grew w w1) (h : AddPost q st xs w1 e w') : AddPost q st xs w e w' :=
  ⟨h.1, h.2.1, ((Turn.refl q w).grew g).trans h.2.2⟩

def IntsIn (zs : List Int) : Prop := ∀ z ∈ zs, -9223372036854775808 ≤ z ∧ z ≤ 9223372036854775807
theorem IntsIn.at {zs : List Int} (h : IntsIn zs) {k : Nat} (hk : k < zs.length) : -9223372036854775808 ≤ zs.getD k 0 ∧ zs.getD k 0 ≤ 9223372036854775807 :=
  h _ (by rw [List.getD_eq_getElem?_getD, List.getElem?_eq_getElem hk]; exact List.getElem_mem _)
theorem encL_take {zs : List Int} {k : Nat} (hk : k < zs.length) : encL (zs.take (k + 1)) = encL (zs.take k) ++ encI (zs.getD k 0) := by
  rw [List.take_succ_eq_append_getElem hk, encL_snoc]
  simp [List.getD, hk]
theorem encL_take_len {zs : List Int} (h : IntsIn zs) (k : Nat) : (encL (zs.take k)).length ≤ 10 * k := by
  have := encL_len (zs.take k) (fun n hn => h n (List.mem_of_mem_take hn))
  have := List.length_take_le k zs
  omega

set_option maxRecDepth 100000 in
set_option maxHeartbeats 1000000 in
theorem wInt_any (q : Nat) (st : Option (List UInt8)) (A : Option Addr) (n c : Nat) (zs : List Int) (w : World) (hW : WR w q st) (hz : Ints w A n zs) (hi : IntsIn zs) (hl : wLen st ≤ 1000000000) (hn : n ≤ 1000) :
    Calls Try.prog 28 #[.pointer (some ⟨q, 0, none⟩), .slice A n c] w (AddPost q st (encL zs) w) := by
  have HW := Lib.hid hW
  have HZ := Lib.hid hz
  have HI := Lib.hid hi
  have HL := Lib.hid hl
  clear hW hz hi hl
  go_enter Try.func28, Try.ntmps28
  go_wp2
  go_loopw [4, 6, 9] (fun v4 v6 v9 wr => ∃ k : Nat, v9 = .int .i64 k ∧ k ≤ n ∧ Hid (wr.ownsRow w.heap.size 5 1 v4 (encL (zs.take k)).length ((encL (zs.take k)).map byv)) ∧ Hid (Grew w wr)) (fun _ _ v9 _ => n - (intOf v9).toNat)
  case atStart => exact ⟨0, rfl, Nat.zero_le _, World.ownsRow_nil _ _ _ _, grew_refl _⟩
  case round =>
    obtain ⟨k, rfl, hk, HO, HG⟩ := hrel
    by_cases hlt : k < n
    · obtain ⟨b, o, rfl, hb, hc⟩ := (HZ.out.keep HG.out).2 (by omega)
      have hcell := hc k hlt
      have hlen := HZ.out.1
      obtain ⟨y1, y2⟩ := HI.out.at (k := k) (by omega)
      have HT := Lib.hid (encL_take (zs := zs) (k := k) (by omega))
      have HB := Lib.hid (encL_take_len HI.out k)
      clear hc hlen
      generalize zs.getD k 0 = y at *
      have HC := Lib.hid (appendInt_any y y1 y2 w.heap.size u4 (encL (zs.take k)).length (encL (zs.take k)) wr HO.out HG.out.size (by have := HB.out; omega))
      clear y1 y2
      go_wp2_with (go_at_call 41; ((with_reducible refine HC.out.mono ?_); rintro e w1 ⟨v', rfl, ho', hb'⟩; have HO' := Lib.hid ho'; have HB' := Lib.hid hb'; clear ho' hb'))
      go_roundw
      case rel =>
        refine ⟨k + 1, by go_num, by omega, ?_, HG.out.trans HB'.out⟩
        have := HO'.out
        rw [HT.out, List.length_append]
        exact this
      case measure => simp only [intOf]; omega
    · obtain rfl : k = n := by omega
      have hE : zs.take k = zs := List.take_of_length_le (by rw [HZ.out.1]; omega)
      have ho := HO.out
      rw [hE] at ho
      have hB := encL_take_len HI.out k
      rw [hE] at hB
      obtain ⟨A2, c2, rfl, hb2, hA2, hF⟩ := bys_of_own ho
      have HC := Lib.hid (add_any q st A2 (encL zs).length c2 (encL zs) wr (HW.out.keep HG.out) hb2 ((hF w (Nat.le_refl _)).past HW.out.1) HL.out (by omega))
      clear hE ho hB hb2 hA2 hF
      go_wp2_with (go_at_call 42; ((with_reducible refine HC.out.mono ?_); rintro e w1 hp; have HP := Lib.hid (AddPost.grew HG.out hp); obtain ⟨rfl, _⟩ := hp))
      go_end0
      exact HP.out

set_option maxHeartbeats 1000000 in
theorem wMark_any (q : Nat) (st : Option (List UInt8)) (b : Bool) (w : World) (hW : WR w q st) (hl : wLen st ≤ 1000000000) :
    Calls Try.prog 29 #[.pointer (some ⟨q, 0, none⟩), .bool b] w (AddPost q st (encM b) w) := by
  have C : ∀ (x : Int) (u : UInt8), x = (u.toNat : Int) → Calls Try.prog 42 #[.pointer (some ⟨q, 0, none⟩), .slice (some ⟨w.heap.size, 0, none⟩) 1 1] (w.alloc (.cells #[.int .u8 x] 5)) (AddPost q st [u] (w.alloc (.cells #[.int .u8 x] 5))) :=
    fun x u hx => add_any q st _ 1 1 [u] _ (hW.keep (grew_alloc _ _ _)) (bys1 w u _ x hx) (fun a ha => by cases ha; exact hW.1) hl (by omega)
  have HC := Lib.hid C
  clear C hW hl
  cases b with
  | true =>
    have HX := Lib.hid (HC.out 1 1 rfl)
    clear HC
    go_enter Try.func29, Try.ntmps29
    go_wp2_with (go_at_call 42; ((with_reducible refine HX.out.mono ?_); rintro e w1 hp; have HP := Lib.hid (AddPost.grew (grew_alloc _ _ _) hp); obtain ⟨rfl, _⟩ := hp))
    go_end0
    exact HP.out
  | false =>
    have HX := Lib.hid (HC.out 0 0 rfl)
    clear HC
    go_enter Try.func29, Try.ntmps29
    go_wp2_with (go_at_call 42; ((with_reducible refine HX.out.mono ?_); rintro e w1 hp; have HP := Lib.hid (AddPost.grew (grew_alloc _ _ _) hp); obtain ⟨rfl, _⟩ := hp))
    go_end0
    exact HP.out

/-- A text too long is recorded. -/
theorem text_world {q : Nat} {st : Option (List UInt8)} {w : World} (hW : WR w q st) :
    WR (((w.setCell ⟨q, 0, none⟩ (.pointer none)).setCell ⟨q, 1, none⟩ (.int .i64 0)).setCell ⟨q, 2, none⟩ (.int .i64 5)) q none ∧
    Turn q w (((w.setCell ⟨q, 0, none⟩ (.pointer none)).setCell ⟨q, 1, none⟩ (.int .i64 0)).setCell ⟨q, 2, none⟩ (.int .i64 5)) := by
  obtain ⟨hq, a, sz, e, h0, h1, h2, f0, f1, f2, _⟩ := hW
  have hT := ((((Turn.refl q w).setCell 0 (.pointer none)).setCell 1 (.int .i64 0)).setCell 2 (.int .i64 5))
  have n1 : (w.setCell ⟨q, 0, none⟩ (.pointer none)).cell? ⟨q, 1, none⟩ = some (.int .i64 sz) := (World.cell?_setCell_other _ _ _ _ (by intro e; simp only [Addr.mk.injEq] at e; omega)).trans h1
  have n2 : ((w.setCell ⟨q, 0, none⟩ (.pointer none)).setCell ⟨q, 1, none⟩ (.int .i64 0)).cell? ⟨q, 2, none⟩ = some (.int .i64 e) :=
    (World.cell?_setCell_other _ _ _ _ (by intro e; simp only [Addr.mk.injEq] at e; omega)).trans ((World.cell?_setCell_other _ _ _ _ (by intro e; simp only [Addr.mk.injEq] at e; omega)).trans h2)
  refine ⟨⟨Nat.lt_of_lt_of_le hq hT.size, none, 0, 5, ?_, ?_, World.cell?_setCell_same _ _ _ n2, by simp only [World.frozen?_setCell]; exact f0, by simp only [World.frozen?_setCell]; exact f1, by simp only [World.frozen?_setCell]; exact f2, rfl⟩, hT⟩
  · rw [World.cell?_setCell_other _ _ _ _ (by intro e; simp only [Addr.mk.injEq] at e; omega), World.cell?_setCell_other _ _ _ _ (by intro e; simp only [Addr.mk.injEq] at e; omega)]
    exact World.cell?_setCell_same _ _ _ h0
  · rw [World.cell?_setCell_other _ _ _ _ (by intro e; simp only [Addr.mk.injEq] at e; omega)]
    exact World.cell?_setCell_same _ _ _ n1

def TextPost (q : Nat) (st : Option (List UInt8)) (t : List UInt8) (w : World) (e : Ending) (w' : World) : Prop :=
  e = .returned (.tuple #[]) ∧ WR w' q (if t.length ≤ 65536 then st.map (· ++ encT t) else none) ∧ Turn q w w'

theorem wLen_map {st : Option (List UInt8)} {xs : List UInt8} {b : Nat} (h : wLen st ≤ b) : wLen (st.map (· ++ xs)) ≤ b + xs.length := by
  cases st with
  | none => simp [wLen]
  | some l => simp [wLen] at *; omega

theorem text_add {q n : Nat} {st : Option (List UInt8)} {t : List UInt8} {w w1 w2 : World} {e : Ending} {v : Value} (hP : AddPost q st (encL [(n : Int)]) w e w1) (_ : WR w q st) (hl : wLen st ≤ 900000000) (hE : (encI (n : Int)).length ≤ 10) (hlen : t.length = n) (hn : n ≤ 65536)
    (ho : w2.ownsRow w1.heap.size 5 1 v n (t.map byv)) (hG : Below w1.heap.size w1 w2) :
    ∃ A c, v = .slice A n c ∧ Calls Try.prog 42 #[.pointer (some ⟨q, 0, none⟩), .slice A n c] w2 (AddPost q (st.map (· ++ encL [(n : Int)])) t w2) := by
  obtain ⟨A, c, rfl, hb, hA, hF⟩ := bys_of_own ho
  have hw : WR w2 q (st.map (· ++ encL [(n : Int)])) := hP.2.1.keep hG
  have h1 : (encL [(n : Int)]).length ≤ 10 := by simpa [encL] using hE
  have h2 := wLen_map (xs := encL [(n : Int)]) hl
  exact ⟨A, c, rfl, add_any q _ A n c t w2 hw hb ((hF w1 (Nat.le_refl _)).past hP.2.1.1) (by omega) (by omega)⟩

set_option maxHeartbeats 1000000 in
theorem wText_any (q : Nat) (st : Option (List UInt8)) (A : Option Addr) (n c : Nat) (t : List UInt8) (w : World) (hW : WR w q st) (ht : Bys w A n t) (hA : A = none → c = 0) (hAq : 0 < n → ∀ a, A = some a → a.block ≠ q) (hn : n ≤ 9223372036854775807) (hl : wLen st ≤ 900000000) :
    Calls Try.prog 30 #[.pointer (some ⟨q, 0, none⟩), .slice A n c] w (TextPost q st t w) := by
  have hlen := ht.1
  by_cases h : 65536 < n
  · have HP : Hid (TextPost q st t w (.returned (.tuple #[])) (((w.setCell ⟨q, 0, none⟩ (.pointer none)).setCell ⟨q, 1, none⟩ (.int .i64 0)).setCell ⟨q, 2, none⟩ (.int .i64 5))) := by
      obtain ⟨g1, g2⟩ := text_world hW
      exact ⟨rfl, by rw [if_neg (by omega)]; exact g1, g2⟩
    obtain ⟨hq, a, sz, e, h0, h1, h2, f0, f1, f2, _⟩ := hW
    clear ht hA hAq hlen
    have d : decide ((n : Int) > 65536) = true := decide_eq_true (by omega)
    go_enter Try.func30, Try.ntmps30
    go_wp2
    go_end0
    exact HP.out
  · have hn2 : n ≤ 65536 := by omega
    have HT := Lib.hid ht
    have HA := Lib.hid hA
    have HQ := Lib.hid hAq
    have HW := Lib.hid hW
    have HL := Lib.hid hl
    have HE : Hid ((encI (n : Int)).length ≤ 10) := encI_len (n := (n : Int)) (by omega) (by omega)
    have HLEN := Lib.hid hlen
    have HC : Hid (Calls Try.prog 28 #[.pointer (some ⟨q, 0, none⟩), .slice (some ⟨w.heap.size, 0, none⟩) 1 1] (w.alloc (.cells #[.int .i64 n] 3)) (AddPost q st (encL [(n : Int)]) (w.alloc (.cells #[.int .i64 n] 3)))) :=
      wInt_any q st _ 1 1 [(n : Int)] _ (hW.keep (grew_alloc _ _ _)) (ints1 w n _) (by intro z hz; simp at hz; omega) (by omega) (by omega)
    have d : ¬ ((n : Int) > 65536) := by omega
    clear ht hA hAq hW hl hlen
    go_enter Try.func30, Try.ntmps30
    go_wp2_with (first
      | (go_at_call 28; ((with_reducible refine HC.out.mono ?_); rintro e w1 hp; have HP := Lib.hid (AddPost.grew (grew_alloc _ _ _) hp); obtain ⟨rfl, _⟩ := hp))
      | (at_builtin; refine (wpList_append_bytes rfl _ _ rfl w1.heap.size (.slice none 0 0) 0 [] rfl (World.ownsRow_nil _ _ _ _) A n c t rfl HA.out (HT.out.turn HP.out.2.2 HQ.out) (by omega) (Nat.le_refl _) ?_); intro v' w2 ho' hb'; rw [Nat.zero_add, List.nil_append] at ho'; have HO := Lib.hid ho'; have HG := Lib.hid hb'; clear ho' hb'; have HX := Lib.hid (text_add HP.out HW.out HL.out HE.out HLEN.out hn2 HO.out HG.out); obtain ⟨A2, c2, hv, hx⟩ := HX.out; subst hv; have HY := Lib.hid hx; clear hx HX)
      | (go_at_call 42; ((with_reducible refine HY.out.mono ?_); rintro e w3 hp; have HZ := Lib.hid hp; obtain ⟨rfl, _⟩ := hp)))
    go_end0
    have hf := AddPost.then HP.out (AddPost.grew HG.out HZ.out)
    refine ⟨rfl, ?_, hf.2.2⟩
    rw [if_pos (by rw [HLEN.out]; omega)]
    have := hf.2.1
    unfold encT
    rw [HLEN.out]
    simpa [encL] using this
end Go.Proofs.Ytfhfgninjelfbaa.NumK
