/-
  The program's onOneLine: a text with '/' in the place of each line break.
-/
import Derived.Test.YtbnnpgkeggjodaaDoorPtP
import Derived.Test.YtbnnpgkeggjodaaDoorCpA
namespace Go.Proofs.YtbnnpgkeggjodaaDoor
open Go.ChangeShapes Go.WideShapes Go.ChangeAt Go.RowKit
set_option linter.unusedVariables false

def slB (c : UInt8) : UInt8 := if c.toNat = 10 then 47 else c
theorem slB_yes {c : UInt8} (h : c.toNat = 10) : slB c = 47 := by simp [slB, h]
theorem slB_no {c : UInt8} (h : ¬ c.toNat = 10) : slB c = c := by simp [slB, h]
def slM (l : List UInt8) (k : Nat) : List UInt8 := (l.take k).map slB ++ l.drop k
theorem slM_zero (l : List UInt8) : slM l 0 = l := by simp [slM]
theorem slM_all (l : List UInt8) : slM l l.length = l.map slB := by simp [slM]
theorem slM_len (l : List UInt8) (k : Nat) : (slM l k).length = l.length := by
  simp only [slM, List.length_append, List.length_map, List.length_take, List.length_drop]; omega
theorem slM_at (l : List UInt8) (k : Nat) (h : k < l.length) : (slM l k).getD k 0 = l.getD k 0 := by
  simp only [slM, List.getD_eq_getElem?_getD]
  rw [List.getElem?_append_right (by simp; omega)]
  simp only [List.length_map, List.length_take, List.getElem?_drop]
  rw [show k + (k - min k l.length) = k by omega]
theorem slM_next (l : List UInt8) (k : Nat) (h : k < l.length) : slM l (k + 1) = (slM l k).set k (slB (l.getD k 0)) := by
  have e : l.getD k 0 = l[k] := by simp [List.getD_eq_getElem?_getD, h]
  simp only [slM]
  rw [List.set_append_right _ _ (by simp; omega), List.take_succ_eq_append_getElem h, List.map_append, List.append_assoc, e]
  congr 1
  simp only [List.length_map, List.length_take]
  rw [show k - min k l.length = 0 by omega, List.drop_eq_getElem_cons h]
  rfl
theorem slM_same (l : List UInt8) (k : Nat) (h : k < l.length) (hf : ¬ (l.getD k 0).toNat = 10) : slM l (k + 1) = slM l k := by
  rw [slM_next l k h, slB_no hf]
  apply List.ext_getElem?
  intro j
  rw [List.getElem?_set]
  by_cases e : k = j
  · subst e
    have h1 := slM_at l k h
    have h2 := slM_len l k
    rw [List.getD_eq_getElem?_getD] at h1
    rw [if_pos rfl, if_pos (by omega), ← h1, List.getElem?_eq_getElem (by omega)]
    simp
  · rw [if_neg e]
theorem sl_len (t : ByteArray) : t.data.toList.length = t.size := rfl
theorem slT_take (t : ByteArray) : ∀ k, k ≤ t.size → slT t k = ⟨((t.data.toList.take k).map slB).toArray⟩
  | 0, _ => by rw [slT]; simp
  | k + 1, h => by
    have hk : k < t.data.toList.length := by have := sl_len t; omega
    have e : t.data.getD k 0 = t.data.toList[k] := by
      have hk2 : k < t.data.size := hk
      rw [Array.getD_eq_getD_getElem?, Array.getElem?_eq_getElem hk2]
      rfl
    have e2 : (if t.data.getD k 0 = 10 then (47 : UInt8) else t.data.getD k 0) = slB (t.data.toList[k]) := by
      rw [e]
      unfold slB
      by_cases h10 : t.data.toList[k] = 10
      · rw [if_pos h10, if_pos (by rw [h10]; rfl)]
      · rw [if_neg h10, if_neg (fun h' : t.data.toList[k].toNat = 10 => h10 (UInt8.toNat_inj.1 h'))]
    rw [slT, slT_take t k (by omega), e2, List.take_succ_eq_append_getElem hk, List.map_append]
    apply ByteArray.ext
    simp
theorem slT_all (t : ByteArray) : (⟨(t.data.toList.map slB).toArray⟩ : ByteArray) = slT t t.size := by
  rw [slT_take t t.size (Nat.le_refl _), List.take_of_length_le (Nat.le_of_eq (sl_len t))]
set_option maxHeartbeats 2000000 in
theorem onOneLine_any (s : ByteArray) (w : World) (hs : s.size ≤ 1048576) :
    Calls Tryd.prog 21 #[.string s] w fun e w' => e = .returned (.string (slT s s.size)) ∧ Below w.heap.size w w' := by
  have hl : s.data.toList.length = s.size := sl_len s
  have HT : Hid ((⟨(s.data.toList.map slB).toArray⟩ : ByteArray) = slT s s.size) := slT_all s
  have C := fun W => copied_any s s.size W rfl hs
  generalize slT s s.size = r at HT ⊢
  generalize s.data.toList = l at hl HT C
  generalize s.size = n at hl C hs
  have HN : Hid (l.length = n) := hl
  clear hl
  go_enter Tryd.func21, Tryd.ntmps21
  go_wp2_with fail
  refine (C _).mono ?_
  rintro e w1 ⟨rfl, l1, b1⟩
  clear C
  go_wp2_with fail
  go_loopw [10] (fun i wr => ∃ k : Nat, k ≤ n ∧ i = .int .i64 k ∧ CRow wr w.heap.size (slM l k) ∧ Below w.heap.size w wr) (fun i _ => n - (intOf i).toNat)
  case atStart => exact ⟨0, Nat.zero_le _, rfl, by rw [slM_zero]; exact l1, b1⟩
  case round =>
    clear l1 b1
    obtain ⟨k, hk, rfl, hR, hbw⟩ := hrel
    by_cases hlt : k < n
    · have hkl : k < l.length := by rw [HN.out]; exact hlt
      have hc := hR.cell (k := k) (by rw [slM_len]; exact hkl)
      have hf := hR.frozen k
      rw [slM_at _ _ hkl] at hc
      by_cases he : (l.getD k 0).toNat = 10
      · have R := hR.set (k := k) 47 47 rfl
        rw [← slB_yes he, ← slM_next _ _ hkl] at R
        have R2 := hbw.setCell (p := ⟨w.heap.size, k, none⟩) (Nat.le_refl _) (.int .u8 47)
        have HR : Hid (_ ∧ _) := And.intro R R2
        clear hR hbw R R2
        rw [he] at hc
        go_wp2
        go_roundw
        case rel => exact ⟨k + 1, by omega, by go_num, HR.out.1, HR.out.2⟩
        case measure => simp [intOf]; omega
      · have R := hR
        rw [← slM_same l k hkl he] at R
        obtain ⟨z, hz⟩ : ∃ z, z = (l.getD k 0).toNat := ⟨_, rfl⟩
        rw [← hz] at hc he
        have he' : ¬ (z : Int) = (10 : Int) := by omega
        have hb' : ((z : Int) == (10 : Int)) = false := by simpa using he'
        have HR : Hid (_) := R
        clear hR hz R
        go_wp2
        go_roundw
        case rel => exact ⟨k + 1, by omega, by go_num, HR.out, hbw⟩
        case measure => simp [intOf]; omega
    · obtain rfl : k = n := by omega
      have e2 : slM l k = l.map slB := by rw [← HN.out]; exact slM_all l
      rw [e2] at hR
      have hK := hR.back k k (by rw [List.length_map]; exact HN.out.symm)
      rw [HT.out] at hK
      clear hR e2
      go_wp2
      go_ret
      exact ⟨rfl, hbw⟩
end Go.Proofs.YtbnnpgkeggjodaaDoor
