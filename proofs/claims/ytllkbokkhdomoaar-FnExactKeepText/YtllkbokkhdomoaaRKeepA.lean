/-
  Contracts of the program's passes over a row of bytes: blankOut makes one byte's value a blank in place, joinBlanks hands back a new row with blanks joined; rows of at most 200 bytes.
-/
import Derived.Test.YtllkbokkhdomoaaRKeepPlain
import Derived.WalkSmall
import Derived.Laws.IdiomStrings
import Derived.Maps.AppendAt
namespace Go.Proofs.YtllkbokkhdomoaaR
open Go.ChangeShapes Go.WideShapes Go.ChangeAt Go.RowKit
set_option linter.unusedVariables false

/-- A byte in a cell. -/
def encU (c : UInt8) : Value := .int .u8 (c.toNat : Int)
/-- Block g begins with the bytes l, and they may be written. -/
def BRow (w : World) (g : Nat) (l : List UInt8) : Prop :=
  g < w.heap.size ∧ (∀ j, j < l.length → w.cell? ⟨g, j, none⟩ = some (.int .u8 ((l.getD j 0).toNat : Int))) ∧ (∀ j, j < l.length → w.frozen? ⟨g, j, none⟩ = false)
theorem BRow.below {w w' : World} {B g : Nat} {l : List UInt8} (h : BRow w g l) (hb : Below B w w') (hg : g < B) : BRow w' g l :=
  ⟨Nat.lt_of_lt_of_le h.1 hb.size, fun j hj => (hb.cell (p := ⟨g, j, none⟩) hg).trans (h.2.1 j hj), fun j hj => (hb.frozen (p := ⟨g, j, none⟩) hg).trans (h.2.2 j hj)⟩
theorem BRow.drew {w : World} {g : Nat} {l : List UInt8} (h : BRow w g l) : BRow w.drew g l := h
theorem BRow.set {w : World} {g k : Nat} {l : List UInt8} (h : BRow w g l) (hk : k < l.length) (c : UInt8) (z : Int) (hz : z = (c.toNat : Int)) : BRow (w.setCell ⟨g, k, none⟩ (.int .u8 z)) g (l.set k c) := by
  refine ⟨by simpa using h.1, fun j hj => ?_, fun j hj => ?_⟩
  · have hj' : j < l.length := by simpa using hj
    by_cases e : k = j
    · subst e
      rw [World.cell?_setCell_same _ _ _ (h.2.1 k hk), hz]
      simp [List.getD_eq_getElem?_getD, hk]
    · rw [World.cell?_setCell_other _ _ _ _ (fun x => e (by cases x; rfl)), h.2.1 j hj']
      simp [List.getD_eq_getElem?_getD, e]
  · rw [World.frozen?_setCell]
    exact h.2.2 j (by simpa using hj)
theorem brow_new (w : World) (s : ByteArray) (cap : Nat) (lo : Nat) (hlo : s.size ≤ lo) : BRow (w.alloc (.cells (bytesRow s cap) 5 (lo, lo + 1))) w.heap.size s.data.toList := by
  refine ⟨by simp, fun j hj => ?_, fun j hj => ?_⟩
  · have hj' : j < s.data.size := by simpa using hj
    rw [World.cell?_alloc_mark, bytesRow_at s cap j hj']
    have e : s.data.toList.getD j 0 = s.data[j] := by rw [List.getD_eq_getElem?_getD, List.getElem?_eq_getElem hj]; rfl
    rw [e]
  · have hj' : j < s.size := by simpa using hj
    rw [World.frozen?_alloc_mark]
    simp
    omega
theorem BRow.back {w : World} {g : Nat} {l : List UInt8} (h : BRow w g l) (cap : Nat) : (convert 29 9 (.slice (some ⟨g, 0, none⟩) l.length cap)).run Try.prog w = .ok (.string ⟨l.toArray⟩) w :=
  run_convert_bytes_back w 29 9 5 ⟨g, 0, none⟩ cap l Try.underlying29 Try.underlying5 Try.underlying9 (fun j hj => by
    have hadd : (⟨g, 0, none⟩ : Addr).add j = ⟨g, j, none⟩ := by unfold Addr.add; split <;> simp_all
    rw [hadd, h.2.1 j hj]
    simp [List.getD_eq_getElem?_getD, hj])
theorem own_back {w : World} {B n : Nat} {v : Value} {l : List UInt8} (hn : n = l.length) (h : w.ownsRow B 5 1 v n (l.map encU)) :
    (convert 29 9 v).run Try.prog w = .ok (.string ⟨l.toArray⟩) w := by
  subst hn
  rcases h.2 with ⟨rfl, hl⟩ | ⟨g, cap, cur, rfl, _, hg, _, _, _, ht⟩
  · have e : l = [] := List.eq_nil_of_length_eq_zero hl
    subst e
    show (convert 29 9 (.slice none 0 0)).run Try.prog w = _
    rw [run_convert_bytes_string w 29 9 5 none 0 0 Try.underlying29 Try.underlying5 Try.underlying9]
    rfl
  · refine run_convert_bytes_back w 29 9 5 ⟨g, 0, none⟩ cap l Try.underlying29 Try.underlying5 Try.underlying9 (fun j hj => ?_)
    exact h.cells (g := g) rfl j _ (by simp [hj, encU])
theorem Try.infoU8 : (Try.prog.info? 5).map (fun i => (i.zero, i.size, i.bytes)) = some (some (.int .u8 0), 1, 1) := by kernel_rfl
theorem one_u8 (z : Int) : ∀ u ∈ [Value.int .u8 z], u.oneCell' = true := by
  intro u hu
  rw [List.mem_singleton] at hu
  subst hu
  rfl
theorem own_lo {w : World} {B e n size : Nat} {v : Value} {xs : List Value} (h : w.ownsRow B e size v n xs) : ∀ k, v.ownBlock = some k → B ≤ k := fun k hk => (h.lt k hk).1
theorem blk_yes {g : Nat} {c : UInt8} (h : c.toNat = g) : blk g c = 32 := by simp [blk, h]
theorem blk_no {g : Nat} {c : UInt8} (h : ¬ c.toNat = g) : blk g c = c := by simp [blk, h]

set_option maxHeartbeats 2000000 in
theorem blankOut_any (g cap gone : Nat) (l : List UInt8) (n : Nat) (w : World) (hn : n = l.length) (hl : n ≤ 200) (hB : BRow w g l) :
    Calls Try.prog 11 #[.slice (some ⟨g, 0, none⟩) n cap, .int .u8 gone] w fun e w' => (∃ v, e = .returned v) ∧ BRow w' g (l.map (blk gone)) ∧ Below g w w' := by
  have HN : Hid (n = l.length) := hn
  clear hn
  go_enter Try.func11, Try.ntmps11
  go_wp2
  go_loopw [8] (fun i wr => ∃ k : Nat, k ≤ n ∧ i = .int .i64 k ∧ BRow wr g (mapTo (blk gone) l k) ∧ Below g w wr) (fun i _ => n - (intOf i).toNat)
  case atStart => exact ⟨0, Nat.zero_le _, rfl, by rw [mapTo_zero]; exact hB, Below.refl _ _⟩
  case round =>
    obtain ⟨k, hk, rfl, hR, hbw⟩ := hrel
    clear hB
    by_cases hlt : k < n
    · have hkl : k < (mapTo (blk gone) l k).length := by rw [mapTo_len, ← HN.out]; exact hlt
      have hc := hR.2.1 k hkl
      have hf := hR.2.2 k hkl
      rw [mapTo_at _ _ _ (by rw [← HN.out]; exact hlt)] at hc
      by_cases he : (l.getD k 0).toNat = gone
      · have R := hR.set hkl 32 32 rfl
        rw [← blk_yes he, ← mapTo_next _ _ _ (by rw [← HN.out]; exact hlt)] at R
        have R2 := hbw.setCell (p := ⟨g, k, none⟩) (Nat.le_refl _) (.int .u8 32)
        clear hR hbw
        rw [he] at hc
        go_wp2
        go_roundw
        case rel => exact ⟨k + 1, by omega, by go_num, R, R2⟩
        case measure => simp [intOf]; omega
      · have R := hR
        rw [← mapTo_same (blk gone) l k (by rw [← HN.out]; exact hlt) (blk_no he)] at R
        obtain ⟨z, hz⟩ : ∃ z, z = (l.getD k 0).toNat := ⟨_, rfl⟩
        rw [← hz] at hc he
        have he' : ¬ (z : Int) = (gone : Int) := by omega
        have hb' : ((z : Int) == (gone : Int)) = false := by simpa using he'
        clear hR hz
        go_wp2
        go_roundw
        case rel => exact ⟨k + 1, by omega, by go_num, R, hbw⟩
        case measure => simp [intOf]; omega
    · have e : k = n := by omega
      subst e
      rw [HN.out, mapTo_all] at hR
      go_wp2
      go_end0
      exact ⟨⟨_, rfl⟩, hR, hbw⟩
end Go.Proofs.YtllkbokkhdomoaaR
