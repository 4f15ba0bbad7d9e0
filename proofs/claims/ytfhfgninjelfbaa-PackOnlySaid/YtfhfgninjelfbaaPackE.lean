/- pack: a Reader's fail, take, octet. -/
import Derived.Test.YtfhfgninjelfbaaPackA
namespace Go.Proofs.Ytfhfgninjelfbaa.NumK
open Go.RowKit

/-- The Reader in block p. -/
def RD (w : World) (p : Nat) (s : RS) : Prop :=
  p < w.heap.size ∧ s.ok ∧ s.l.length ≤ 1000000000 ∧ w.cell? ⟨p, 0, none⟩ = some (.string ⟨s.l.toArray⟩) ∧ w.cell? ⟨p, 1, none⟩ = some (.int .i64 s.e) ∧ w.frozen? ⟨p, 0, none⟩ = false ∧ w.frozen? ⟨p, 1, none⟩ = false
theorem RD.keep {w w' : World} {p : Nat} {s : RS} (h : RD w p s) (g : Grew w w') : RD w' p s := by
  obtain ⟨hp, ho, hl, h0, h1, f0, f1⟩ := h
  exact ⟨Nat.lt_of_lt_of_le hp g.size, ho, hl, (grew_cell g (p := ⟨p, 0, none⟩) hp).trans h0, (grew_cell g (p := ⟨p, 1, none⟩) hp).trans h1, (Below.frozen g (p := ⟨p, 0, none⟩) hp).trans f0, (Below.frozen g (p := ⟨p, 1, none⟩) hp).trans f1⟩
theorem RD.turn {w w' : World} {p b : Nat} {s : RS} (h : RD w p s) (g : Turn b w w') (hn : p ≠ b) : RD w' p s := by
  obtain ⟨hp, ho, hl, h0, h1, f0, f1⟩ := h
  exact ⟨Nat.lt_of_lt_of_le hp g.size, ho, hl, (g.cell (p := ⟨p, 0, none⟩) hp hn).trans h0, (g.cell (p := ⟨p, 1, none⟩) hp hn).trans h1, (g.frozen (p := ⟨p, 0, none⟩) hp hn).trans f0, (g.frozen (p := ⟨p, 1, none⟩) hp hn).trans f1⟩
/-- Both fields anew. -/
theorem RD.set {w : World} {p : Nat} {s : RS} (h : RD w p s) (s' : RS) (ho : s'.ok) (hl : s'.l.length ≤ 1000000000) :
    RD ((w.setCell ⟨p, 0, none⟩ (.string ⟨s'.l.toArray⟩)).setCell ⟨p, 1, none⟩ (.int .i64 s'.e)) p s' := by
  obtain ⟨hp, _, _, h0, h1, f0, f1⟩ := h
  have n1 : (w.setCell ⟨p, 0, none⟩ (.string ⟨s'.l.toArray⟩)).cell? ⟨p, 1, none⟩ = some (.int .i64 s.e) := (World.cell?_setCell_other _ _ _ _ (by intro e; simp only [Addr.mk.injEq] at e; omega)).trans h1
  refine ⟨by simp [World.setCell]; exact hp, ho, hl, ?_, World.cell?_setCell_same _ _ _ n1, by simp only [World.frozen?_setCell]; exact f0, by simp only [World.frozen?_setCell]; exact f1⟩
  rw [World.cell?_setCell_other _ _ _ _ (by intro e; simp only [Addr.mk.injEq] at e; omega)]
  exact World.cell?_setCell_same _ _ _ h0
theorem RD.set0 {w : World} {p : Nat} {s : RS} (h : RD w p s) (l : List UInt8) (ho : s.e = 0) (hl : l.length ≤ 1000000000) :
    RD (w.setCell ⟨p, 0, none⟩ (.string ⟨l.toArray⟩)) p ⟨l, 0⟩ := by
  obtain ⟨hp, _, _, h0, h1, f0, f1⟩ := h
  refine ⟨by simp [World.setCell]; exact hp, fun h => absurd rfl h, hl, World.cell?_setCell_same _ _ _ h0, ?_, by simp only [World.frozen?_setCell]; exact f0, by simp only [World.frozen?_setCell]; exact f1⟩
  rw [World.cell?_setCell_other _ _ _ _ (by intro e; simp only [Addr.mk.injEq] at e; omega), h1, ho]

/-- What a call on the Reader leaves. -/
def RPost (p : Nat) (v : Value) (s' : RS) (w : World) (e : Ending) (w' : World) : Prop := e = .returned v ∧ RD w' p s' ∧ Turn p w w'

def rFail (s : RS) (x : Int) : RS := if s.e = 0 then .fail x else s
theorem fail_any (p : Nat) (s : RS) (x : Int) (w : World) (h : RD w p s) :
    Calls Try.prog 37 #[.pointer (some ⟨p, 0, none⟩), .int .i64 x] w (RPost p (.tuple #[]) (rFail s x) w) := by
  have hs := h.set (.fail x) (fun _ => rfl) (by simp [RS.fail])
  obtain ⟨hp, ho, hl, h0, h1, f0, f1⟩ := id h
  by_cases he : s.e = 0
  · have HP : Hid (RPost p (.tuple #[]) (rFail s x) w (.returned (.tuple #[])) ((w.setCell ⟨p, 0, none⟩ (.string ⟨(RS.fail x).l.toArray⟩)).setCell ⟨p, 1, none⟩ (.int .i64 (RS.fail x).e))) := by
      refine ⟨rfl, ?_, ((Turn.refl p w).setCell 0 _).setCell 1 _⟩
      unfold rFail; rw [if_pos he]; exact hs
    rw [he] at h1
    clear hs h ho hl
    go_enter Try.func37, Try.ntmps37
    go_wp2
    go_end0
    exact HP.out
  · have HP : Hid (RPost p (.tuple #[]) (rFail s x) w (.returned (.tuple #[])) w) := by
      refine ⟨rfl, ?_, Turn.refl p w⟩
      unfold rFail; rw [if_neg he]; exact h
    have d : (s.e == 0) = false := by simpa using he
    clear hs h ho hl
    go_enter Try.func37, Try.ntmps37
    go_wp2
    go_end0
    exact HP.out

/-- A text cut. -/
theorem cut_lo (l : List UInt8) (k : Nat) : (⟨l.toArray⟩ : ByteArray).extract 0 k = ⟨(l.take k).toArray⟩ := by
  apply ByteArray.ext
  rw [ByteArray.data_extract]
  simp
theorem cut_hi (l : List UInt8) (k : Nat) : (⟨l.toArray⟩ : ByteArray).extract k l.length = ⟨(l.drop k).toArray⟩ := by
  apply ByteArray.ext
  rw [ByteArray.data_extract]
  apply Array.ext
  · simp
  · intro i h1 h2
    simp

def takeS (s : RS) (n : Int) : List UInt8 := if s.e = 0 ∧ n ≤ s.l.length then s.l.take n.toNat else []
def takeR (s : RS) (n : Int) : RS := if s.e = 0 then (if n ≤ s.l.length then ⟨s.l.drop n.toNat, 0⟩ else .fail 4) else s
theorem take_any (p : Nat) (s : RS) (n : Int) (w : World) (h : RD w p s) (hn : s.e = 0 → 0 ≤ n) :
    Calls Try.prog 40 #[.pointer (some ⟨p, 0, none⟩), .int .i64 n] w (RPost p (.string ⟨(takeS s n).toArray⟩) (takeR s n) w) := by
  obtain ⟨hp, ho, hl, h0, h1, f0, f1⟩ := id h
  have HD := Lib.hid h
  clear h
  by_cases he : s.e = 0
  · have hn0 := hn he
    have HE := Lib.hid he
    rw [he] at h1
    clear ho hn he
    by_cases hc : n ≤ s.l.length
    · obtain ⟨k, rfl⟩ := Int.eq_ofNat_of_zero_le hn0
      have HS : Hid (takeS s k = s.l.take k) := by show _ = _; unfold takeS; rw [if_pos ⟨HE.out, hc⟩]; rfl
      have HR : Hid (takeR s k = ⟨s.l.drop k, 0⟩) := by show _ = _; unfold takeR; rw [if_pos HE.out, if_pos hc]; rfl
      have HW := Lib.hid (HD.out.set0 (s.l.drop k) HE.out (by simp; omega))
      rw [HS.out, HR.out]
      have x0 := cut_lo s.l k
      have x1 := cut_hi s.l k
      go_enter Try.func40, Try.ntmps40
      go_wp2
      go_ret
      exact ⟨rfl, HW.out, (Turn.refl p w).setCell 0 _⟩
    · have HS : Hid (takeS s n = []) := by show _ = _; unfold takeS; rw [if_neg (fun h => hc h.2)]
      have HR : Hid (takeR s n = rFail s 4) := by show _ = _; unfold takeR rFail; rw [if_pos HE.out, if_neg hc, if_pos HE.out]
      have C := fail_any p s 4 w HD.out
      rw [HS.out, HR.out]
      go_enter Try.func40, Try.ntmps40
      go_wp2_with (go_at_call 37; ((with_reducible refine C.mono ?_); rintro e w1 hp; have HP := Lib.hid hp; obtain ⟨rfl, _⟩ := hp))
      go_ret
      exact ⟨rfl, HP.out.2⟩
  · have d : (s.e != 0) = true := by simpa using he
    have HS : Hid (takeS s n = []) := by show _ = _; unfold takeS; rw [if_neg (fun h => he h.1)]
    have HR : Hid (takeR s n = s) := by show _ = _; unfold takeR; rw [if_neg he]
    rw [HS.out, HR.out]
    clear ho hn he
    go_enter Try.func40, Try.ntmps40
    go_wp2
    go_ret
    exact ⟨rfl, HD.out, Turn.refl p w⟩

/-- The next byte, 0 where there is none. -/
def octV (s : RS) : UInt8 := if s.e = 0 then s.l.headD 0 else 0
def octR (s : RS) : RS := if s.e = 0 then (match s.l with | [] => .fail 4 | _ :: r => ⟨r, 0⟩) else s
theorem octet_any (p : Nat) (s : RS) (w : World) (h : RD w p s) :
    Calls Try.prog 35 #[.pointer (some ⟨p, 0, none⟩)] w (RPost p (.int .u8 (octV s).toNat) (octR s) w) := by
  have C := take_any p s 1 w h (fun _ => by omega)
  have hR : takeR s 1 = octR s := by
    unfold takeR octR
    split
    · cases s.l with
      | nil => rfl
      | cons c r => rw [if_pos (by simp; omega)]; rfl
    · rfl
  rw [hR] at C
  cases hl : takeS s 1 with
  | nil =>
    have hV : octV s = 0 := by
      unfold octV
      unfold takeS at hl
      split
      · rename_i he
        cases hs : s.l with
        | nil => rfl
        | cons c r => rw [if_pos ⟨he, by rw [hs]; simp; omega⟩, hs] at hl; simp at hl
      · rfl
    rw [hl] at C
    rw [hV]
    clear hl hV hR h
    go_enter Try.func35, Try.ntmps35
    go_wp2_with (go_at_call 40; ((with_reducible refine C.mono ?_); rintro e w1 hp; have HP := Lib.hid hp; obtain ⟨rfl, _⟩ := hp))
    go_ret
    exact ⟨rfl, HP.out.2⟩
  | cons c r =>
    have hV : octV s = c ∧ r = [] := by
      unfold octV
      unfold takeS at hl
      split at hl
      · rename_i he
        rw [if_pos he.1]
        cases hs : s.l with
        | nil => rw [hs] at hl; simp at hl
        | cons c' r' => rw [hs] at hl; simp at hl; exact ⟨hl.1, hl.2⟩
      · cases hl
    obtain ⟨hV, rfl⟩ := hV
    rw [hl] at C
    rw [hV]
    clear hl hV hR h
    go_enter Try.func35, Try.ntmps35
    go_wp2_with (go_at_call 40; ((with_reducible refine C.mono ?_); rintro e w1 hp; have HP := Lib.hid hp; obtain ⟨rfl, _⟩ := hp))
    go_ret
    exact ⟨rfl, HP.out.2⟩
end Go.Proofs.Ytfhfgninjelfbaa.NumK
