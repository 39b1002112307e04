/-
  The program's method 'tell' on a thing that is said by a word: the word whose number it has, in whatever order its map is gone through.
-/
import Derived.Test.YtojdmcennpgndaaGreatDoorStyN
import Derived.Test.YtojdmcennpgndaaGreatDoorMapLit
namespace Go.Proofs.YtojdmcennpgndaaGreatDoor
open Go.ChangeShapes Go.WideShapes Go.ChangeAt Go.RowKit
set_option linter.unusedVariables false

def intV : Value → Int | .int _ q => q | _ => 0
set_option maxRecDepth 100000 in
set_option maxHeartbeats 4000000 in
theorem tellW_any (nm : ByteArray) (b o : Nat) (lo hi n : Int) (np : Bool) (es : Array MapEntry) (c : Nat) (wd : ByteArray) (w : World) (hc : w.cell? ⟨b, o, none⟩ = some (.int .i64 n))
    (WO : ∀ w, Calls Tryz.prog 43 #[.string nm] w fun e w' => e = .returned (.map (some w.heap.size)) ∧ w' = w.alloc (.map es c))
    (hst : MapKept.Stamped es c) (hv : ∀ x ∈ es.toList, ∃ k v, x.key = .string k ∧ x.val = .int .i64 v ∧ (v = n → k = wd)) (hex : ∃ x ∈ es.toList, x.val = .int .i64 n) :
    Calls Tryz.prog 25 #[.agg #[.string nm, .pointer (some ⟨b, o, none⟩), .pointer none, .int .i64 lo, .int .i64 hi, .bool np]] w fun e w' => e = .returned (.tuple #[.string wd, .nilIface]) ∧ Below w.heap.size w w' := by
  have hb : b < w.heap.size := World.block_lt_of_cell? _ ⟨b, o, none⟩ hc
  have hbm : ((w.alloc (.cells #[.string nm, .pointer (some ⟨b, o, none⟩), .pointer none, .int .i64 lo, .int .i64 hi, .bool np] 62)).alloc (.map es c)).heap[w.heap.size + 1]? = some (.map es c) := by
    have := _root_.Go.heap_alloc_new (w.alloc (.cells #[.string nm, .pointer (some ⟨b, o, none⟩), .pointer none, .int .i64 lo, .int .i64 hi, .bool np] 62)) (.map es c)
    simpa using this
  have hrg := run_range_map (P := Tryz.prog) ((w.alloc (.cells #[.string nm, .pointer (some ⟨b, o, none⟩), .pointer none, .int .i64 lo, .int .i64 hi, .bool np] 62)).alloc (.map es c)) 86 9 3 (w.heap.size + 1) es c Tryz.underlying86 hbm
  have hsz0 : ((w.alloc (.cells #[.string nm, .pointer (some ⟨b, o, none⟩), .pointer none, .int .i64 lo, .int .i64 hi, .bool np] 62)).alloc (.map es c)).heap.size = w.heap.size + 1 + 1 := by simp
  rw [hsz0] at hrg
  have hcc0 : ∀ j, ((w.alloc (.cells #[.string nm, .pointer (some ⟨b, o, none⟩), .pointer none, .int .i64 lo, .int .i64 hi, .bool np] 62)).alloc (.map es c)).cell? ⟨w.heap.size, j, none⟩ = (#[.string nm, .pointer (some ⟨b, o, none⟩), .pointer none, .int .i64 lo, .int .i64 hi, .bool np] : Array Value)[j]? := fun j => cell_of_row _ _ _ _ _ _ (heap_in (heap_at _ _ _ rfl))
  have hcb0 : ((w.alloc (.cells #[.string nm, .pointer (some ⟨b, o, none⟩), .pointer none, .int .i64 lo, .int .i64 hi, .bool np] 62)).alloc (.map es c)).cell? ⟨b, o, none⟩ = some (.int .i64 n) := by
    rw [← hc]
    exact (((Below.refl w.heap.size w).alloc (Nat.le_refl _) _).alloc (by simp) _).cell (p := ⟨b, o, none⟩) hb
  have hth : ((w.alloc (.cells #[.string nm, .pointer (some ⟨b, o, none⟩), .pointer none, .int .i64 lo, .int .i64 hi, .bool np] 62)).alloc (.map es c)).heap[w.heap.size]? = some (.cells #[.string nm, .pointer (some ⟨b, o, none⟩), .pointer none, .int .i64 lo, .int .i64 hi, .bool np] 62) := heap_in (heap_at _ _ _ rfl)
  have bel0 : Below w.heap.size w ((w.alloc (.cells #[.string nm, .pointer (some ⟨b, o, none⟩), .pointer none, .int .i64 lo, .int .i64 hi, .bool np] 62)).alloc (.map es c)) := ((Below.refl w.heap.size w).alloc (Nat.le_refl _) _).alloc (by simp) _
  go_enter Tryz.func25, Tryz.ntmps25
  go_wp2_with (go_at_call 43; refine (WO _).mono ?_; rintro e w1 ⟨rfl, rfl⟩)
  generalize ((w.alloc (.cells #[.string nm, .pointer (some ⟨b, o, none⟩), .pointer none, .int .i64 lo, .int .i64 hi, .bool np] 62)).alloc (.map es c)) = W at *
  have hit0 : (W.alloc (.mapIter (some (w.heap.size + 1)) c #[] c)).heap[w.heap.size + 1 + 1]? = some (.mapIter (some (w.heap.size + 1)) c #[] c) := heap_at _ _ _ hsz0
  have hbm1 : (W.alloc (.mapIter (some (w.heap.size + 1)) c #[] c)).heap[w.heap.size + 1]? = some (.map es c) := heap_in hbm
  have hcc1 : (W.alloc (.mapIter (some (w.heap.size + 1)) c #[] c)).heap[w.heap.size]? = some (.cells #[.string nm, .pointer (some ⟨b, o, none⟩), .pointer none, .int .i64 lo, .int .i64 hi, .bool np] 62) := heap_in hth
  have bel1 : Below w.heap.size w (W.alloc (.mapIter (some (w.heap.size + 1)) c #[] c)) := bel0.alloc (by omega) _
  have HC : Hid (w.cell? ⟨b, o, none⟩ = some (.int .i64 n)) := hc
  clear hbm hcc0 hcb0 hrg hc WO bel0 hth
  go_loopw [] (fun wr => ∃ seen : Array Nat, wr.heap[w.heap.size + 1 + 1]? = some (.mapIter (some (w.heap.size + 1)) c seen c) ∧ wr.heap[w.heap.size + 1]? = some (.map es c) ∧ wr.heap[w.heap.size]? = some (.cells #[.string nm, .pointer (some ⟨b, o, none⟩), .pointer none, .int .i64 lo, .int .i64 hi, .bool np] 62) ∧ Below w.heap.size w wr ∧ ∀ x ∈ es.toList, seen.contains x.born = true → ¬ intV x.val = n) (fun wr => (leftOf es (wr.iterSeen (w.heap.size + 1 + 1))).size)
  case atStart => exact ⟨#[], hit0, hbm1, hcc1, bel1, fun x _ h => by simp at h⟩
  case round =>
    clear hit0 hbm1 hcc1 bel1
    obtain ⟨seen, hr, hb1, l0, bel, hno⟩ := hrel
    rcases next_step (P := Tryz.prog) wr (w.heap.size + 1 + 1) (w.heap.size + 1) c seen es hr hb1 hst with h0 | ⟨e, he, w2, p2, hr2, hnx⟩
    · exfalso
      obtain ⟨x, hx, hxv⟩ := hex
      exact hno x hx (all_seen es seen h0 x hx) (by rw [hxv]; rfl)
    · obtain ⟨k, v, hkey, hval, hkv⟩ := hv e (mem_left he).1
      rw [hval, hkey] at hnx
      have hb2 := p2.lies hb1 (by omega)
      have l2 := p2.lies l0 (by omega)
      have bel2 := p2.below bel (by omega)
      have hen := run_entry_at (P := Tryz.prog) w2 (w.heap.size + 1 + 1) (w.heap.size + 1) c seen es c e hr2 hb2 (mem_left he).1 hst.2.1
      rw [hval, hkey] at hen
      have c1 : w2.cell? ⟨w.heap.size, 1, none⟩ = some (.pointer (some ⟨b, o, none⟩)) := (lies_cell l2 1).trans rfl
      have c2 : w2.cell? ⟨b, o, none⟩ = some (.int .i64 n) := (bel2.cell (p := ⟨b, o, none⟩) hb).trans HC.out
      have HNO : Hid (∀ x ∈ es.toList, seen.contains x.born = true → ¬ intV x.val = n) := hno
      have R1 : Hid (wr.heap[w.heap.size + 1 + 1]? = some (.mapIter (some (w.heap.size + 1)) c seen c)) := hr
      have R2 : Hid (w2.heap[w.heap.size + 1 + 1]? = some (.mapIter (some (w.heap.size + 1)) c (seen.push e.born) c)) := hr2
      have B2 : Hid (w2.heap[w.heap.size + 1]? = some (.map es c)) := hb2
      have L2 : Hid (w2.heap[w.heap.size]? = some (.cells #[.string nm, .pointer (some ⟨b, o, none⟩), .pointer none, .int .i64 lo, .int .i64 hi, .bool np] 62)) := l2
      clear hno hr hr2 hb1 hb2 l0 l2 bel p2
      by_cases hvn : v = n
      · have hk := hkv hvn
        subst hvn
        subst hk
        go_wp2
        go_ret2
        exact ⟨rfl, bel2⟩
      · go_wp2
        go_roundw
        case rel =>
          refine ⟨seen.push e.born, R2.out, B2.out, L2.out, bel2, fun x hx hc => ?_⟩
          rw [contains_push] at hc
          rcases Bool.or_eq_true _ _ ▸ hc with h1 | h1
          · exact HNO.out x hx h1
          · have : x = e := born_inj hst.2.1 hx (mem_left he).1 (beq_iff_eq.1 h1)
            subst this
            rw [hval]
            exact hvn
        case measure =>
          rw [iterSeen_of R2.out, iterSeen_of R1.out]
          exact left_shrinks es seen e he
end Go.Proofs.YtojdmcennpgndaaGreatDoor
