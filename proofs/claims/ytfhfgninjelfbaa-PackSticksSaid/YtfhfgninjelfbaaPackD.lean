/- pack: a Writer's Bytes. -/
import Derived.Test.YtfhfgninjelfbaaPackC
import Derived.StillTailTactics
namespace Go.Proofs.Ytfhfgninjelfbaa.NumK
open Go.RowKit

theorem zeros_u8 (n : Nat) : madeCells #[.int .u8 0] n = (List.replicate n (Value.int .u8 0) ++ ([] : List UInt8).map byv).toArray := by
  apply Array.ext
  · simp [madeCells]
  · intro i h1 h2
    simp [madeCells, Nat.mod_one]

/-- The row all behind some copies: zeros, then what was copied. -/
def row8 (k : Nat) (l2 : List UInt8) : List Value := List.replicate k (Value.int .u8 0) ++ l2.map byv
theorem row8_splice (k n : Nat) (bs l2 : List UInt8) (hb : bs.length = n) : splice (row8 (k + n) l2) k (bs.map byv) = row8 k (bs ++ l2) := by
  unfold splice row8
  rw [List.length_map, hb]
  have e1 : (List.replicate (k + n) (Value.int .u8 0) ++ l2.map byv).take k = List.replicate k (Value.int .u8 0) := by
    rw [List.take_append_of_le_length (by simp), List.take_replicate]; congr 1; omega
  have e2 : (List.replicate (k + n) (Value.int .u8 0) ++ l2.map byv).drop (k + n) = l2.map byv := by
    rw [List.drop_append_of_le_length (by simp)]; simp
  rw [e1, e2, List.map_append]

/-- What Bytes tells. -/
def BytesPost (st : Option (List UInt8)) (w : World) (e : Ending) (w' : World) : Prop :=
  Grew w w' ∧ match st with
  | none => e = .returned (.tuple #[.slice none 0 0, .int .i64 5])
  | some l => ∃ B, w.heap.size ≤ B ∧ e = .returned (.tuple #[.slice (some ⟨B, 0, none⟩) l.length l.length, .int .i64 0]) ∧ Bys w' (some ⟨B, 0, none⟩) l.length l ∧ WrB w' B l.length

theorem bytes_done {l l2 : List UInt8} {w wr : World} (hl : l = l2) (hR : wr.heap[w.heap.size]? = some (.cells (row8 0 l2).toArray 5 (0, 0))) (hG : Grew w wr) :
    BytesPost (some l) w (.returned (.tuple #[.slice (some ⟨w.heap.size, 0, none⟩) l.length l.length, .int .i64 0])) wr := by
  subst hl
  have hc : ∀ k, k < l.length → wr.cell? ⟨w.heap.size, k, none⟩ = some (.int .u8 ((l.getD k 0).toNat : Int)) := fun k hk => by
    rw [cell_of_row wr w.heap.size k _ _ (0, 0) hR]
    simp [row8, byv, List.getD, hk]
  refine ⟨hG, w.heap.size, Nat.le_refl _, rfl, ⟨rfl, fun _ => ⟨w.heap.size, 0, rfl, own_at_lt hR, fun j hj => by rw [Nat.zero_add]; exact hc j hj⟩⟩, own_at_lt hR, fun k hk => ⟨⟨_, hc k hk⟩, ?_⟩⟩
  unfold World.frozen?
  simp [hR]

set_option maxRecDepth 100000 in
set_option maxHeartbeats 1000000 in
theorem wBytes_any (q : Nat) (st : Option (List UInt8)) (w : World) (hW : WR w q st) (hl : wLen st ≤ 1000000000) :
    Calls Try.prog 13 #[.pointer (some ⟨q, 0, none⟩)] w (BytesPost st w) := by
  obtain ⟨hq, a, sz, e, h0, h1, h2, f0, f1, f2, h⟩ := hW
  cases st with
  | none =>
    subst h
    clear f0 f1 f2
    go_enter Try.func13, Try.ntmps13
    go_wp2
    go_quiet (fail)
    have HG : Hid (Grew w (w.drewN nq)) := grew_drewN (grew_refl _) _
    generalize w.drewN nq = w2 at HG ⊢
    go_wp2
    go_ret2
    exact ⟨HG.out, rfl⟩
  | some l =>
    obtain ⟨rfl, rfl, hC⟩ := h
    have hl2 : l.length ≤ 1000000000 := hl
    have HC := Lib.hid hC
    clear hC hl f0 f1 f2
    have hmk := fun w => run_u8s w l.length (by omega)
    go_enter Try.func13, Try.ntmps13
    go_wp2
    have HR0 : Hid ((w.alloc (.cells (madeCells #[.int .u8 0] l.length) 5)).heap[w.heap.size]? = some (.cells (row8 l.length []).toArray 5 (0, 0))) := by
      show _ = _
      rw [heap_alloc_new, zeros_u8]; rfl
    have HG0 : Hid (Grew w (w.alloc (.cells (madeCells #[.int .u8 0] l.length) 5))) := grew_alloc _ _ _
    have hL : ∃ L, L = l.length := ⟨_, rfl⟩
    obtain ⟨L, hL⟩ := hL
    rw [← hL] at hmk hl2 HR0 HG0
    rw [← hL]
    have HL := Lib.hid hL
    clear hmk hL
    generalize w.alloc (.cells (madeCells #[.int .u8 0] L) 5) = w0 at *
    go_loopw [5, 6] (fun v5 v6 wr => ∃ (a : Option Addr) (l1 l2 : List UInt8), v6 = .pointer a ∧ v5 = .int .i64 l1.length ∧ Hid (l = l1 ++ l2) ∧ Hid (Chain w q a l1) ∧ Hid (wr.heap[w.heap.size]? = some (.cells (row8 l1.length l2).toArray 5 (0, 0))) ∧ Hid (Grew w wr)) (fun _ v6 _ => match v6 with | .pointer (some x) => x.block + 1 | _ => 0)
    case atStart => exact ⟨a, l, [], rfl, by rw [HL.out], by simp [Hid], HC, by rw [← HL.out]; exact HR0, HG0⟩
    case round =>
      obtain ⟨a, l1, l2, rfl, rfl, HD, HK, HR, HG⟩ := hrel
      cases a with
      | none =>
        have hn : l1 = [] := by have := HK.out; cases this; rfl
        subst hn
        have HP := Lib.hid (bytes_done (l := l) (by simpa using HD.out) HR.out HG.out)
        rw [← HL.out] at HP
        clear HD HK HR
        go_wp2
        go_ret2
        exact HP.out
      | some ad =>
        have hk := HK.out
        cases hk with
        | @cons p before A n c l' bs gq gp g0 g1 gb gA glt gh =>
          have c0 : wr.cell? ⟨p, 0, none⟩ = some (.pointer before) := (grew_cell HG.out (p := ⟨p, 0, none⟩) gp).trans g0
          have c1 : wr.cell? ⟨p, 1, none⟩ = some (.slice A n c) := (grew_cell HG.out (p := ⟨p, 1, none⟩) gp).trans g1
          have hbl := gb.1
          have HB := Lib.hid (gb.keep HG.out)
          have HK2 := Lib.hid gh
          have HLT := Lib.hid glt
          have HG00 := Lib.hid g0
          have HD2 : Hid (l = l' ++ (bs ++ l2)) := by show _ = _; rw [HD.out, List.append_assoc]
          have hk : ∃ k, k = l'.length := ⟨_, rfl⟩
          obtain ⟨k, hk⟩ := hk
          have e1 : (l' ++ bs).length = k + n := by rw [List.length_append, hk, hbl]
          have hkn : k + n ≤ L := by rw [HL.out, HD.out]; simp; omega
          have hkL : Hid (L = k + n + l2.length) := by show _ = _; rw [HL.out, HD.out]; simp; omega
          rw [e1] at HR ⊢
          have HR2 := HR
          have HBL := Lib.hid hbl
          have HKL := Lib.hid hk
          have i1 : (0 : Int) ≤ (k : Int) := by omega
          have i2 : (k : Int) ≤ (L : Int) := by omega
          have hcast : ((k + n : Nat) : Int) = (k : Int) + n := by omega
          have hp0 : w.heap.size ≠ p := by omega
          have HP0 := Lib.hid hp0
          have HPlt := Lib.hid gp
          rw [hcast]
          clear HK HD HR g0 g1 gb gA glt gh hbl hk e1 hkn gq gp hcast hp0 HR0 HG0 HC
          have HIF : Hid (0 < n → (if L = k then some (⟨w.heap.size, 0, none⟩ : Addr) else some ⟨w.heap.size, k, none⟩) = some ⟨w.heap.size, k, none⟩) := fun h => if_neg (by have := HKL.out; have := hkL.out; omega)
          have HSL := Lib.hid (row8_splice k n bs l2 HBL.out)
          have HRD : Hid (wr.drew.heap[w.heap.size]? = some (.cells (row8 (k + n) l2).toArray 5 (0, 0))) := HR2
          have HGD : Hid (Grew w wr.drew) := Below.drew HG.out
          have HCD : Hid (∀ o, wr.drew.cell? ⟨p, o, none⟩ = wr.cell? ⟨p, o, none⟩) := fun o => rfl
          go_wp2_with fail
          go_still_tail 7, (by kernel_rfl)
          change wpList _ _ _ _ _ wr.drew
          have HBD : Hid (Bys wr.drew A n bs) := HB.out.keep (Below.drew (grew_refl _))
          clear HR2 HB
          refine wpList_copy_splice (by rfl) _ _ _ _ (by rfl) 5 Try.underlying31 (by kernel_rfl) _ _ _ _ _ _ (by rfl) (by rfl) w.heap.size k (row8 (k + n) l2) 5 HRD.out (bs.map byv) ?_ ?_ ?_ ?_ w.heap.size w HGD.out (Nat.le_refl _) ?_
          · have := HBL.out; have := hkL.out; simp [Nat.min_def]; split <;> omega
          · intro hp
            have hn : 0 < n := by simpa [HBL.out] using hp
            obtain ⟨b, o, e, _, hc⟩ := HBD.out.2 hn
            refine ⟨HIF.out hn, ⟨b, o, none⟩, e, fun j v hj => ?_⟩
            rw [List.getElem?_map] at hj
            obtain ⟨z, hz, rfl⟩ := Option.map_eq_some_iff.1 hj
            have hjn : j < n := by rw [← HBL.out]; exact (List.getElem?_eq_some_iff.1 hz).1
            rw [addr_add, hc j hjn]
            simp [List.getD, hz, byv]
          · have := HBL.out; simp [row8]; omega
          · intro v hv
            obtain ⟨z, _, rfl⟩ := List.mem_map.1 hv
            rfl
          · intro w2 HR3 hG3
            have HG3 := Lib.hid hG3
            have d0 : w2.cell? ⟨p, 0, none⟩ = some (.pointer before) := (grew_cell HG3.out (p := ⟨p, 0, none⟩) HPlt.out).trans HG00.out
            clear hG3
            go_wp2
            go_roundw
            case rel => exact ⟨before, l', bs ++ l2, rfl, by rw [← HKL.out], HD2, HK2, by have := HR3.out; rw [HSL.out, HKL.out] at this; exact this, HG3⟩
            case measure =>
              cases before with
              | none => simp
              | some x => have := HLT.out x rfl; simp; omega
    
end Go.Proofs.Ytfhfgninjelfbaa.NumK
