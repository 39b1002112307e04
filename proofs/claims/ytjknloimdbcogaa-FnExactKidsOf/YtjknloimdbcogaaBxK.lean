/-
  KidsOf: of the model and of the program, for every row of boxes and every number.
-/
import Derived.Test.YtjknloimdbcogaaBxE
import Derived.Test.YtjknloimdbcogaaFont
import Derived.Test.YtjknloimdbcogaaOwnI
namespace Go.Proofs.Ytjknloimdbcogaa
open Go.ChangeShapes Go.WideShapes Go.ChangeAt Go.RowKit
set_option linter.unusedVariables false

def upX (bs : List Bx) (i : Nat) : Int := (bs.getD i bx0).up
def upOkX (bs : List Bx) (i : Nat) : Bool := inB (-1) ((i : Int) - 1) (upX bs i)
def upsX (bs : List Bx) : Bool := (List.range bs.length).all (upOkX bs)
def kidsTo (bs : List Bx) (k : Int) : Nat → List Int
  | 0 => []
  | i + 1 => if upX bs i = k then kidsTo bs k i ++ [(i : Int)] else kidsTo bs k i
def kidsB (bs : List Bx) (k : Int) : Bool := upsX bs && inB 0 ((bs.length : Int) - 1) k
def kidsR (bs : List Bx) (k : Int) : List Int := if kidsB bs k then kidsTo bs k bs.length else []
theorem kids_len (bs : List Bx) (k : Int) : ∀ i, (kidsTo bs k i).length ≤ i
  | 0 => Nat.le_refl _
  | i + 1 => by
    rw [kidsTo]
    have := kids_len bs k i
    split
    · simp; omega
    · omega
theorem kids_yes {bs : List Bx} {k : Int} {i : Nat} (h : upX bs i = k) : kidsTo bs k (i + 1) = kidsTo bs k i ++ [(i : Int)] := by rw [kidsTo, if_pos h]
theorem kids_no {bs : List Bx} {k : Int} {i : Nat} (h : ¬ upX bs i = k) : kidsTo bs k (i + 1) = kidsTo bs k i := by rw [kidsTo, if_neg h]
theorem ups_no {bs : List Bx} {i : Nat} (hi : i < bs.length) (h : upOkX bs i = false) : upsX bs = false := by
  rw [upsX, List.all_eq_false]
  exact ⟨i, List.mem_range.2 hi, by simp [h]⟩
theorem ups_yes {bs : List Bx} (h : ∀ i, i < bs.length → upOkX bs i = true) : upsX bs = true := List.all_eq_true.2 fun i hi => h i (List.mem_range.1 hi)
theorem upX_of {bs : List Bx} {i : Nat} {x : Bx} (h : bs[i]? = some x) : upX bs i = x.up := by unfold upX; rw [List.getD_eq_getElem?_getD, h]; rfl
theorem bx_some {w : World} {a : Option Addr} {bs : List Bx} (hr : BxRow w a bs) {i : Nat} {x : Bx} (h : bs[i]? = some x) : ∃ b off, a = some ⟨b, off, none⟩ ∧ ∀ i n, bs[i]? = some n → w.rangeAt b (off + i * 4) (bxL n) := by
  rcases hr with h' | h'
  · rw [h'] at h; simp at h
  · exact h'
theorem cell_one_at (w : World) (x : Value) (t : TypeId) (g : Nat) (h : w.heap.size = g) : ∀ j u, [x][j]? = some u → (w.alloc (.cells #[x] t)).cell? ((⟨g, 0, none⟩ : Addr).add j) = some u := by subst h; exact cell_one_new w x t
set_option maxHeartbeats 4000000 in
theorem l5Kids_any (a : Option Addr) (n cap : Nat) (bs : List Bx) (k : Int) (w : World) (hn : n = bs.length) (hr : BxRow w a bs) (hl : n ≤ 1048576) :
    Calls Try.prog 15 #[.slice a n cap, .int .i64 k] w fun e w' => ∃ v, e = .returned v ∧ OwnI w' w.heap.size v (kidsTo bs k n) ∧ Below w.heap.size w w' := by
  obtain ⟨i0, hi, hz0, hz1, hz2⟩ := info_parts Try.infoInt
  have HN : Hid (n = bs.length) := hn
  have HR : Hid (BxRow w a bs) := hr
  clear hn hr
  go_enter Try.func15, Try.ntmps15
  go_wp2_with fail
  go_loopw [5, 10] (fun v i wr => ∃ j : Nat, j ≤ n ∧ i = .int .i64 j ∧ OwnI wr w.heap.size v (kidsTo bs k j) ∧ Below w.heap.size w wr) (fun _ i _ => n - (intOf i).toNat)
  case atStart => exact ⟨0, Nat.zero_le _, rfl, ownI_nil _ _, Below.refl _ _⟩
  case round =>
    obtain ⟨j, hj, rfl, hown, hbw⟩ := hrel
    by_cases hlt : j < n
    rotate_left
    · have e : j = n := by omega
      subst e
      go_wp2
      go_ret
      exact ⟨_, rfl, hown, hbw⟩
    obtain ⟨x, hx⟩ : ∃ x, bs[j]? = some x := ⟨_, List.getElem?_eq_getElem (by have := HN.out; omega)⟩
    obtain ⟨b, off, rfl, hc⟩ := bx_some HR.out hx
    have hr := bx_below (hc j x hx) hbw (bx_lt (hc j x hx))
    obtain ⟨q0, q1, q2, q3⟩ := bx_cells hr
    have HX : Hid (upX bs j = x.up) := upX_of hx
    clear hc hx hr
    by_cases hu : x.up = k
    · have HS : Hid (kidsTo bs k (j + 1) = kidsTo bs k j ++ [(j : Int)]) := kids_yes (HX.out.trans hu)
      have hle := kids_len bs k j
      generalize kidsTo bs k j = zs at hown HS hle
      obtain ⟨L, hL⟩ : ∃ L, L = zs.length := ⟨_, rfl⟩
      have o2' := hown
      unfold OwnI at o2'
      rw [← hL] at o2' hle
      have HL : Hid (L = zs.length) := hL
      clear hL
      go_wp2_with (at_builtin; refine wpList_append_own _ rfl (.tmp 19) (.tmp 21) 24 rfl w.heap.size 3 i0 (.int .i64 0) 1 8 Try.underlying24 hi hz0 hz1 hz2 rfl (by decide) _ _ _ rfl ((o2'.alloc _).alloc _) ⟨wr.heap.size + 1, 0, none⟩ 1 1 [.int .i64 (j : Int)] rfl rfl (cell_one_at _ _ _ _ (by simp)) (one_i64 _) (by unfold maxLen; omega) (by omega) (by have := hbw.size; simp; omega) ?_)
      intro v' w3 hown3 hgrow3 _
      have b3 : Below w.heap.size w w3 := ((hbw.alloc hbw.size _).alloc (by have := hbw.size; simp; omega) _).grown hgrow3 (by have := hbw.size; simp; omega) (fun j hj => hown.base j hj)
      have o3 : OwnI w3 w.heap.size v' (kidsTo bs k (j + 1)) := by rw [HS.out]; exact OwnI.snoc HL.out hown3
      clear hown hbw hown3 hgrow3 o2' q0 q1 q2 q3
      go_wp2
      go_roundw
      case rel => exact ⟨j + 1, by omega, by go_num, o3, b3⟩
      case measure => simp [intOf]; omega
    · have HS : Hid (kidsTo bs k (j + 1) = kidsTo bs k j) := kids_no (by rw [HX.out]; exact hu)
      have o3 := hown.keep ((Below.refl wr.heap.size wr).alloc (Nat.le_refl _) (.cells #[.int .i64 x.kd, .int .i64 x.nd, .int .i64 x.up, .string x.tx] 37 (0, 0)))
      have b3 := hbw.alloc hbw.size (.cells #[.int .i64 x.kd, .int .i64 x.nd, .int .i64 x.up, .string x.tx] 37 (0, 0))
      rw [← HS.out] at o3
      clear hown hbw
      go_wp2
      go_roundw
      case rel => exact ⟨j + 1, by omega, by go_num, o3, b3⟩
      case measure => simp [intOf]; omega
end Go.Proofs.Ytjknloimdbcogaa
