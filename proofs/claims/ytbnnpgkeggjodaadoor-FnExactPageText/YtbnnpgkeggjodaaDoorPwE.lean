/-
  What the listed table gives: the library's powers of ten; the library's Itoa by its contract; the program's numbersText.
-/
import Derived.Test.YtbnnpgkeggjodaaDoorNumI
import Derived.Test.YtbnnpgkeggjodaaDoorShelf
import Derived.Lib.LaidTab
import Derived.Lib.ItoaMem
import Derived.LaidSub
namespace Go.Proofs.YtbnnpgkeggjodaaDoor
open Go.ChangeShapes Go.WideShapes Go.ChangeAt Go.RowKit
set_option linter.unusedVariables false

def Pow (w : World) : Prop := Lib.TabIs Tryd.prog w "internal/strconv.uint64pow10" .u64 Lib.pow10Tab
theorem pwG : Tryd.prog.globalNamed "internal/strconv.uint64pow10" = some 0 := by kernel_rfl
theorem pw_lt {w : World} {b o : Nat} {v : Value} (h : w.cell? ⟨b, o, none⟩ = some v) : b < w.heap.size := World.block_lt_of_cell? _ ⟨b, o, none⟩ h
theorem Pow.below {w w' : World} {B : Nat} (h : Pow w) (hb : Below B w w') (hB : w.heap.size ≤ B) : Pow w' :=
  var?_below (hb.mono hB) pwG (pw_lt (Lib.TabIs.cell h pwG 0 (by decide))) h
theorem pw_grow (w : World) (q : Nat) (os : Array Obj) : Below w.heap.size w (Sort.grow (w.drewN q) os) :=
  ⟨rfl, rfl, rfl, by show w.heap.size ≤ (w.heap ++ os).size; simp, fun k hk => by show (w.heap ++ os)[k]? = w.heap[k]?; rw [Array.getElem?_append_left hk]⟩
theorem numT_itoa (n : Int) : (⟨(Lib.itoa n).toArray⟩ : ByteArray) = numT n := by
  unfold Lib.itoa numT num
  by_cases h : n < 0
  · rw [if_pos h, if_pos h]
    apply ByteArray.ext
    simp
  · rw [if_neg h, if_neg h, show n.toNat = n.natAbs by omega]
theorem itoaT_any (n : Int) (h : inI n) (w : World) (hp : Pow w) :
    Calls Tryd.prog 35 #[.int .i64 n] w fun e w' => e = .returned (.string (numT n)) ∧ Below w.heap.size w w' := by
  refine (Tryd.strconv_Itoa n h.1 h.2 w hp).mono ?_
  rintro e w' ⟨rfl, k, os, rfl⟩
  exact ⟨by rw [← numT_itoa], pw_grow w k os⟩
set_option maxHeartbeats 4000000 in
theorem numbers_any (b off n cap : Nat) (zs : List Int) (w : World) (hn : n = zs.length) (hn5 : n ≤ 5) (hr : ∀ i, i < zs.length → w.cell? ⟨b, off + i, none⟩ = some (.int .i64 (zs.getD i 0))) (hin : ∀ i, i < zs.length → inI (zs.getD i 0)) (hp : Pow w) :
    Calls Tryd.prog 20 #[.slice (some ⟨b, off, none⟩) n cap] w fun e w' => e = .returned (.string (nsT zs n)) ∧ Below w.heap.size w w' := by
  have HN : Hid (n = zs.length) := hn
  have HR : Hid (∀ i, i < zs.length → w.cell? ⟨b, off + i, none⟩ = some (.int .i64 (zs.getD i 0))) := hr
  have HI : Hid (∀ i, i < zs.length → inI (zs.getD i 0)) := hin
  have HP : Hid (Pow w) := hp
  clear hn hr hin hp
  go_enter Tryd.func20, Tryd.ntmps20
  go_wp2_with fail
  go_loopw [3, 8] (fun v i wr => ∃ j : Nat, j ≤ n ∧ i = .int .i64 j ∧ v = .string (nsT zs j) ∧ Below w.heap.size w wr) (fun _ i _ => n - (intOf i).toNat)
  case atStart => exact ⟨0, Nat.zero_le _, rfl, rfl, Below.refl _ _⟩
  case round =>
    obtain ⟨j, hj, rfl, rfl, hbw⟩ := hrel
    by_cases hlt : j < n
    rotate_left
    · have e : j = n := by omega
      subst e
      go_wp2
      go_ret
      exact ⟨rfl, hbw⟩
    have q0 : wr.cell? ⟨b, off + j, none⟩ = some (.int .i64 (zs.getD j 0)) := (hbw.cell (block_lt (HR.out j (by have := HN.out; omega)))).trans (HR.out j (by have := HN.out; omega))
    have C := itoaT_any (zs.getD j 0) (HI.out j (by have := HN.out; omega)) wr (HP.out.below hbw (Nat.le_refl _))
    have z1 := nsT_size HI.out j (by have := HN.out; omega)
    have z2 := numT_size (HI.out j (by have := HN.out; omega))
    have HT : Hid (nsT zs (j + 1) = nsT zs j ++ (⟨#[32]⟩ ++ numT (zs.getD j 0))) := rfl
    generalize nsT zs j = t at z1 HT
    generalize numT (zs.getD j 0) = s at C z2 HT
    generalize zs.getD j 0 = z at q0 C
    go_wp2_with fail
    refine C.mono ?_
    rintro e w1 ⟨rfl, hb⟩
    have hb2 := hbw.trans (hb.mono hbw.size)
    clear hb C q0
    go_wp2
    go_roundw
    case rel => exact ⟨j + 1, by omega, by go_num, by rw [HT.out], hb2⟩
    case measure => simp [intOf]; omega
end Go.Proofs.YtbnnpgkeggjodaaDoor
