/-
  What the model has of a style by a name, for all eighteen names at once.
-/
import Derived.Test.YtdgagjnkbmckoaaGreatDoorTxtI
import Derived.Test.YtdgagjnkbmckoaaGreatDoorGet
import Derived.Test.YtdgagjnkbmckoaaGreatDoorNames
namespace Go.Proofs.YtdgagjnkbmckoaaGreatDoor
open Go.ChangeShapes Go.WideShapes Go.ChangeAt Go.RowKit
set_option linter.unusedVariables false

def getN (s : St) (k : Nat) : Int := ([s.sh, s.fl, s.cl, 0, 0, 0, 0, 0, 0, 0, 0, 0, 0, s.wh, s.al, 0, 0, 0] : List Int).getD k 0
def getZ (s : St) (k : Nat) : Sz := ([⟨false, false, 0⟩, ⟨false, false, 0⟩, ⟨false, false, 0⟩, s.w, s.h, ⟨false, false, s.mn⟩, ⟨false, false, s.mx⟩, ⟨false, false, s.mt⟩, s.mr, ⟨false, false, s.mb⟩, s.ml, ⟨false, false, s.bo⟩, ⟨false, false, s.pa⟩, ⟨false, false, 0⟩, ⟨false, false, 0⟩, ⟨false, false, s.lh⟩, ⟨false, false, s.ri⟩, ⟨false, false, s.dn⟩] : List Sz).getD k ⟨false, false, 0⟩
def isW (k : Nat) : Bool := ([true, true, true, false, false, false, false, false, false, false, false, false, false, true, true, false, false, false] : List Bool).getD k false
def wl (k : Nat) : List ByteArray := ([[⟨#[]⟩, ⟨#[98, 108, 111, 99, 107]⟩, ⟨#[105, 110, 108, 105, 110, 101]⟩, ⟨#[110, 111, 110, 101]⟩], [⟨#[110, 111, 110, 101]⟩, ⟨#[108, 101, 102, 116]⟩, ⟨#[114, 105, 103, 104, 116]⟩], [⟨#[110, 111, 110, 101]⟩, ⟨#[108, 101, 102, 116]⟩, ⟨#[114, 105, 103, 104, 116]⟩, ⟨#[98, 111, 116, 104]⟩], [], [], [], [], [], [], [], [], [], [], [⟨#[]⟩, ⟨#[110, 111, 114, 109, 97, 108]⟩, ⟨#[110, 111, 119, 114, 97, 112]⟩, ⟨#[112, 114, 101]⟩, ⟨#[112, 114, 101, 45, 119, 114, 97, 112]⟩, ⟨#[112, 114, 101, 45, 108, 105, 110, 101]⟩], [⟨#[]⟩, ⟨#[108, 101, 102, 116]⟩, ⟨#[114, 105, 103, 104, 116]⟩, ⟨#[99, 101, 110, 116, 101, 114]⟩], [], [], []] : List (List ByteArray)).getD k []
theorem get_any (s : St) (k : Nat) (hk : k < 18) (w : World) :
    Calls Tryz.prog 20 #[.agg #[.int .i64 s.sh, .int .i64 s.fl, .int .i64 s.cl, .bool s.w.a, .bool s.w.p, .int .i64 s.w.n, .bool s.h.a, .bool s.h.p, .int .i64 s.h.n, .int .i64 s.mn, .int .i64 s.mx, .int .i64 s.mt, .bool s.mr.a, .bool s.mr.p, .int .i64 s.mr.n, .int .i64 s.mb, .bool s.ml.a, .bool s.ml.p, .int .i64 s.ml.n, .int .i64 s.bo, .int .i64 s.pa, .int .i64 s.wh, .int .i64 s.al, .int .i64 s.lh, .int .i64 s.ri, .int .i64 s.dn], .string (nmT k)] w fun e w' => e = .returned (.tuple #[.int .i64 (getN s k), .agg #[.bool (getZ s k).a, .bool (getZ s k).p, .int .i64 (getZ s k).n]]) ∧ Below w.heap.size w w' := by
  rcases lt18 hk with rfl | rfl | rfl | rfl | rfl | rfl | rfl | rfl | rfl | rfl | rfl | rfl | rfl | rfl | rfl | rfl | rfl | rfl
  · exact l4Get_0 s w
  · exact l4Get_1 s w
  · exact l4Get_2 s w
  · exact l4Get_3 s w
  · exact l4Get_4 s w
  · exact l4Get_5 s w
  · exact l4Get_6 s w
  · exact l4Get_7 s w
  · exact l4Get_8 s w
  · exact l4Get_9 s w
  · exact l4Get_10 s w
  · exact l4Get_11 s w
  · exact l4Get_12 s w
  · exact l4Get_13 s w
  · exact l4Get_14 s w
  · exact l4Get_15 s w
  · exact l4Get_16 s w
  · exact l4Get_17 s w
theorem words_any (k : Nat) (hk : k < 18) (w : World) :
    Calls Tryz.prog 14 #[.string (nmT k)] w fun e w' => (isW k = true ∧ e = .returned (.slice (some ⟨w.heap.size, 0, none⟩) (wl k).length (wl k).length) ∧ w' = w.alloc (.cells ((wl k).map Value.string).toArray 9)) ∨ (isW k = false ∧ e = .returned (.slice none 0 0) ∧ w' = w) := by
  rcases lt18 hk with rfl | rfl | rfl | rfl | rfl | rfl | rfl | rfl | rfl | rfl | rfl | rfl | rfl | rfl | rfl | rfl | rfl | rfl
  · exact (l4Words_0 w).mono fun e w' h => .inl ⟨rfl, h.1, h.2⟩
  · exact (l4Words_1 w).mono fun e w' h => .inl ⟨rfl, h.1, h.2⟩
  · exact (l4Words_2 w).mono fun e w' h => .inl ⟨rfl, h.1, h.2⟩
  · exact (l4Words_3 w).mono fun e w' h => .inr ⟨rfl, h.1, h.2⟩
  · exact (l4Words_4 w).mono fun e w' h => .inr ⟨rfl, h.1, h.2⟩
  · exact (l4Words_5 w).mono fun e w' h => .inr ⟨rfl, h.1, h.2⟩
  · exact (l4Words_6 w).mono fun e w' h => .inr ⟨rfl, h.1, h.2⟩
  · exact (l4Words_7 w).mono fun e w' h => .inr ⟨rfl, h.1, h.2⟩
  · exact (l4Words_8 w).mono fun e w' h => .inr ⟨rfl, h.1, h.2⟩
  · exact (l4Words_9 w).mono fun e w' h => .inr ⟨rfl, h.1, h.2⟩
  · exact (l4Words_10 w).mono fun e w' h => .inr ⟨rfl, h.1, h.2⟩
  · exact (l4Words_11 w).mono fun e w' h => .inr ⟨rfl, h.1, h.2⟩
  · exact (l4Words_12 w).mono fun e w' h => .inr ⟨rfl, h.1, h.2⟩
  · exact (l4Words_13 w).mono fun e w' h => .inl ⟨rfl, h.1, h.2⟩
  · exact (l4Words_14 w).mono fun e w' h => .inl ⟨rfl, h.1, h.2⟩
  · exact (l4Words_15 w).mono fun e w' h => .inr ⟨rfl, h.1, h.2⟩
  · exact (l4Words_16 w).mono fun e w' h => .inr ⟨rfl, h.1, h.2⟩
  · exact (l4Words_17 w).mono fun e w' h => .inr ⟨rfl, h.1, h.2⟩
theorem name_cell {k : Nat} (hk : k < 18) : nameCells[k]? = some (.string (nmT k)) := by
  rcases lt18 hk with rfl | rfl | rfl | rfl | rfl | rfl | rfl | rfl | rfl | rfl | rfl | rfl | rfl | rfl | rfl | rfl | rfl | rfl <;> rfl
theorem sameB_eq (s : St) {k : Nat} (hk : k < 18) : sameB s k = (decide (getN s k = getN plainS k) && decide ((getZ s k).a = (getZ plainS k).a ∧ (getZ s k).p = (getZ plainS k).p ∧ (getZ s k).n = (getZ plainS k).n)) := by
  rcases lt18 hk with rfl | rfl | rfl | rfl | rfl | rfl | rfl | rfl | rfl | rfl | rfl | rfl | rfl | rfl | rfl | rfl | rfl | rfl <;> simp [sameB, getN, getZ, plainS]
theorem tokT_plain (s : St) {k : Nat} (hk : k < 18) (h : isW k = false) : tokT s k = toldT (getZ s k).a (getZ s k).p (getZ s k).n := by
  rcases lt18 hk with rfl | rfl | rfl | rfl | rfl | rfl | rfl | rfl | rfl | rfl | rfl | rfl | rfl | rfl | rfl | rfl | rfl | rfl <;> first | rfl | (exact absurd h (by decide))
theorem getZ_bd (s : St) {k : Nat} (hk : k < 18) (hs : styleB s = true) : -1000000 ≤ (getZ s k).n ∧ (getZ s k).n ≤ 1000000 := by
  have h := hs
  unfold styleB gA gB gC gD gE at h
  simp only [Bool.and_eq_true] at h
  have z1 := size_bd h.1.1.1.2.1.1.1
  have z2 := size_bd h.1.1.1.2.1.1.2
  have z3 := size_bd h.1.1.1.2.1.2
  have z4 := size_bd h.1.1.1.2.2
  have b1 := inB_yes h.1.1.2.1.2
  have b2 := inB_yes h.1.1.2.2
  have b3 := inB_yes h.1.2.1.1.1
  have b4 := inB_yes h.1.2.1.1.2
  have b5 := inB_yes h.1.2.1.2
  have b6 := inB_yes h.1.2.2
  have b7 := inB_yes h.2.1.1
  have b8 := inB_yes h.2.1.2
  have b9 := inB_yes h.2.2
  clear h hs
  rcases lt18 hk with rfl | rfl | rfl | rfl | rfl | rfl | rfl | rfl | rfl | rfl | rfl | rfl | rfl | rfl | rfl | rfl | rfl | rfl <;> simp only [getZ, List.getD_cons_zero, List.getD_cons_succ] <;> omega
theorem word_at (s : St) {k : Nat} (hk : k < 18) (hs : styleB s = true) (hw : isW k = true) : ∃ m : Nat, getN s k = m ∧ m < (wl k).length ∧ (wl k).length ≤ 6 ∧ (wl k)[m]? = some (tokT s k) := by
  have h := hs
  unfold styleB gA gB gC gD gE at h
  simp only [Bool.and_eq_true] at h
  have r_sh := inB_yes h.1.1.1.1.1.1.1.1
  have r_fl := inB_yes h.1.1.1.1.1.1.1.2
  have r_cl := inB_yes h.1.1.1.1.1.1.2
  have r_wh := inB_yes h.1.1.1.1.1.2
  have r_al := inB_yes h.1.1.1.1.2
  clear h hs
  rcases lt18 hk with rfl | rfl | rfl | rfl | rfl | rfl | rfl | rfl | rfl | rfl | rfl | rfl | rfl | rfl | rfl | rfl | rfl | rfl
  · have hx : s.sh = 1 ∨ s.sh = 2 ∨ s.sh = 3 := by omega
    rcases hx with hx | hx | hx
    · exact ⟨1, hx, by decide, by decide, by show _ = some (([ByteArray.empty, ⟨#[98, 108, 111, 99, 107]⟩, ⟨#[105, 110, 108, 105, 110, 101]⟩, ⟨#[110, 111, 110, 101]⟩] : List ByteArray).getD s.sh.toNat ByteArray.empty); rw [hx]; rfl⟩
    · exact ⟨2, hx, by decide, by decide, by show _ = some (([ByteArray.empty, ⟨#[98, 108, 111, 99, 107]⟩, ⟨#[105, 110, 108, 105, 110, 101]⟩, ⟨#[110, 111, 110, 101]⟩] : List ByteArray).getD s.sh.toNat ByteArray.empty); rw [hx]; rfl⟩
    · exact ⟨3, hx, by decide, by decide, by show _ = some (([ByteArray.empty, ⟨#[98, 108, 111, 99, 107]⟩, ⟨#[105, 110, 108, 105, 110, 101]⟩, ⟨#[110, 111, 110, 101]⟩] : List ByteArray).getD s.sh.toNat ByteArray.empty); rw [hx]; rfl⟩
  · have hx : s.fl = 0 ∨ s.fl = 1 ∨ s.fl = 2 := by omega
    rcases hx with hx | hx | hx
    · exact ⟨0, hx, by decide, by decide, by show _ = some (([⟨#[110, 111, 110, 101]⟩, ⟨#[108, 101, 102, 116]⟩, ⟨#[114, 105, 103, 104, 116]⟩] : List ByteArray).getD s.fl.toNat ByteArray.empty); rw [hx]; rfl⟩
    · exact ⟨1, hx, by decide, by decide, by show _ = some (([⟨#[110, 111, 110, 101]⟩, ⟨#[108, 101, 102, 116]⟩, ⟨#[114, 105, 103, 104, 116]⟩] : List ByteArray).getD s.fl.toNat ByteArray.empty); rw [hx]; rfl⟩
    · exact ⟨2, hx, by decide, by decide, by show _ = some (([⟨#[110, 111, 110, 101]⟩, ⟨#[108, 101, 102, 116]⟩, ⟨#[114, 105, 103, 104, 116]⟩] : List ByteArray).getD s.fl.toNat ByteArray.empty); rw [hx]; rfl⟩
  · have hx : s.cl = 0 ∨ s.cl = 1 ∨ s.cl = 2 ∨ s.cl = 3 := by omega
    rcases hx with hx | hx | hx | hx
    · exact ⟨0, hx, by decide, by decide, by show _ = some (([⟨#[110, 111, 110, 101]⟩, ⟨#[108, 101, 102, 116]⟩, ⟨#[114, 105, 103, 104, 116]⟩, ⟨#[98, 111, 116, 104]⟩] : List ByteArray).getD s.cl.toNat ByteArray.empty); rw [hx]; rfl⟩
    · exact ⟨1, hx, by decide, by decide, by show _ = some (([⟨#[110, 111, 110, 101]⟩, ⟨#[108, 101, 102, 116]⟩, ⟨#[114, 105, 103, 104, 116]⟩, ⟨#[98, 111, 116, 104]⟩] : List ByteArray).getD s.cl.toNat ByteArray.empty); rw [hx]; rfl⟩
    · exact ⟨2, hx, by decide, by decide, by show _ = some (([⟨#[110, 111, 110, 101]⟩, ⟨#[108, 101, 102, 116]⟩, ⟨#[114, 105, 103, 104, 116]⟩, ⟨#[98, 111, 116, 104]⟩] : List ByteArray).getD s.cl.toNat ByteArray.empty); rw [hx]; rfl⟩
    · exact ⟨3, hx, by decide, by decide, by show _ = some (([⟨#[110, 111, 110, 101]⟩, ⟨#[108, 101, 102, 116]⟩, ⟨#[114, 105, 103, 104, 116]⟩, ⟨#[98, 111, 116, 104]⟩] : List ByteArray).getD s.cl.toNat ByteArray.empty); rw [hx]; rfl⟩
  · exact absurd hw (by decide)
  · exact absurd hw (by decide)
  · exact absurd hw (by decide)
  · exact absurd hw (by decide)
  · exact absurd hw (by decide)
  · exact absurd hw (by decide)
  · exact absurd hw (by decide)
  · exact absurd hw (by decide)
  · exact absurd hw (by decide)
  · exact absurd hw (by decide)
  · have hx : s.wh = 1 ∨ s.wh = 2 ∨ s.wh = 3 ∨ s.wh = 4 ∨ s.wh = 5 := by omega
    rcases hx with hx | hx | hx | hx | hx
    · exact ⟨1, hx, by decide, by decide, by show _ = some (([ByteArray.empty, ⟨#[110, 111, 114, 109, 97, 108]⟩, ⟨#[110, 111, 119, 114, 97, 112]⟩, ⟨#[112, 114, 101]⟩, ⟨#[112, 114, 101, 45, 119, 114, 97, 112]⟩, ⟨#[112, 114, 101, 45, 108, 105, 110, 101]⟩] : List ByteArray).getD s.wh.toNat ByteArray.empty); rw [hx]; rfl⟩
    · exact ⟨2, hx, by decide, by decide, by show _ = some (([ByteArray.empty, ⟨#[110, 111, 114, 109, 97, 108]⟩, ⟨#[110, 111, 119, 114, 97, 112]⟩, ⟨#[112, 114, 101]⟩, ⟨#[112, 114, 101, 45, 119, 114, 97, 112]⟩, ⟨#[112, 114, 101, 45, 108, 105, 110, 101]⟩] : List ByteArray).getD s.wh.toNat ByteArray.empty); rw [hx]; rfl⟩
    · exact ⟨3, hx, by decide, by decide, by show _ = some (([ByteArray.empty, ⟨#[110, 111, 114, 109, 97, 108]⟩, ⟨#[110, 111, 119, 114, 97, 112]⟩, ⟨#[112, 114, 101]⟩, ⟨#[112, 114, 101, 45, 119, 114, 97, 112]⟩, ⟨#[112, 114, 101, 45, 108, 105, 110, 101]⟩] : List ByteArray).getD s.wh.toNat ByteArray.empty); rw [hx]; rfl⟩
    · exact ⟨4, hx, by decide, by decide, by show _ = some (([ByteArray.empty, ⟨#[110, 111, 114, 109, 97, 108]⟩, ⟨#[110, 111, 119, 114, 97, 112]⟩, ⟨#[112, 114, 101]⟩, ⟨#[112, 114, 101, 45, 119, 114, 97, 112]⟩, ⟨#[112, 114, 101, 45, 108, 105, 110, 101]⟩] : List ByteArray).getD s.wh.toNat ByteArray.empty); rw [hx]; rfl⟩
    · exact ⟨5, hx, by decide, by decide, by show _ = some (([ByteArray.empty, ⟨#[110, 111, 114, 109, 97, 108]⟩, ⟨#[110, 111, 119, 114, 97, 112]⟩, ⟨#[112, 114, 101]⟩, ⟨#[112, 114, 101, 45, 119, 114, 97, 112]⟩, ⟨#[112, 114, 101, 45, 108, 105, 110, 101]⟩] : List ByteArray).getD s.wh.toNat ByteArray.empty); rw [hx]; rfl⟩
  · have hx : s.al = 1 ∨ s.al = 2 ∨ s.al = 3 := by omega
    rcases hx with hx | hx | hx
    · exact ⟨1, hx, by decide, by decide, by show _ = some (([ByteArray.empty, ⟨#[108, 101, 102, 116]⟩, ⟨#[114, 105, 103, 104, 116]⟩, ⟨#[99, 101, 110, 116, 101, 114]⟩] : List ByteArray).getD s.al.toNat ByteArray.empty); rw [hx]; rfl⟩
    · exact ⟨2, hx, by decide, by decide, by show _ = some (([ByteArray.empty, ⟨#[108, 101, 102, 116]⟩, ⟨#[114, 105, 103, 104, 116]⟩, ⟨#[99, 101, 110, 116, 101, 114]⟩] : List ByteArray).getD s.al.toNat ByteArray.empty); rw [hx]; rfl⟩
    · exact ⟨3, hx, by decide, by decide, by show _ = some (([ByteArray.empty, ⟨#[108, 101, 102, 116]⟩, ⟨#[114, 105, 103, 104, 116]⟩, ⟨#[99, 101, 110, 116, 101, 114]⟩] : List ByteArray).getD s.al.toNat ByteArray.empty); rw [hx]; rfl⟩
  · exact absurd hw (by decide)
  · exact absurd hw (by decide)
  · exact absurd hw (by decide)
end Go.Proofs.YtdgagjnkbmckoaaGreatDoor
