/-
  The law's own comparison of a row of places with another of the same places.
-/
import Derived.Test.YtbnnpgkeggjodaaDoorPlF
import Derived.Deep.RegionHeld3
namespace Go.Proofs.YtbnnpgkeggjodaaDoor
open Go.ChangeShapes Go.WideShapes Go.ChangeAt Go.RowKit
set_option linter.unusedVariables false

theorem load_pl {w : World} {b o : Nat} {x : Plc} (h : w.rangeAt b o (plL x)) : (Instr.loadAt 57 (.pointer (some ⟨b, o, none⟩))).run Tryd.prog w = .ok (.agg #[.int .i64 x.x, .int .i64 x.y, .int .i64 x.w, .int .i64 x.h]) w :=
  run_loadAt_mid w b o 57 (plL x) _ h Tryd.underlying57 rfl (by kernel_rfl)
theorem pl_cells {w : World} {b o : Nat} {x : Plc} (h : w.rangeAt b o (plL x)) : w.cell? ⟨b, o, none⟩ = some (.int .i64 x.x) ∧ w.cell? ⟨b, o + 1, none⟩ = some (.int .i64 x.y) ∧ w.cell? ⟨b, o + 2, none⟩ = some (.int .i64 x.w) ∧ w.cell? ⟨b, o + 3, none⟩ = some (.int .i64 x.h) :=
  ⟨h 0 _ rfl, h 1 _ rfl, h 2 _ rfl, h 3 _ rfl⟩
set_option maxHeartbeats 2000000 in
theorem eqPlace_same (n : Plc) (w : World) :
    Calls Tryd.prog 38 #[.agg #[.int .i64 n.x, .int .i64 n.y, .int .i64 n.w, .int .i64 n.h], .agg #[.int .i64 n.x, .int .i64 n.y, .int .i64 n.w, .int .i64 n.h]] w fun e w' => e = .returned (.bool true) ∧ Below w.heap.size w w' := by
  go_enter Tryd.func38, Tryd.ntmps38
  go_wp2
  go_ret
  exact ⟨rfl, ((Below.refl _ _).alloc (Nat.le_refl _) _).alloc (by simp) _⟩

set_option maxRecDepth 100000 in
set_option maxHeartbeats 4000000 in
theorem eqPlaces_some (b off b' off' n cap cap' : Nat) (ns : List Plc) (w : World) (hn : ns.length = n) (hl : n ≤ 1048576)
    (hc : ∀ i x, ns[i]? = some x → w.rangeAt b (off + i * 4) (plL x)) (hd : ∀ i x, ns[i]? = some x → w.rangeAt b' (off' + i * 4) (plL x)) :
    Calls Tryd.prog 24 #[.slice (some ⟨b, off, none⟩) n cap, .slice (some ⟨b', off', none⟩) n cap'] w fun e w' => e = .returned (.bool true) ∧ Below w.heap.size w w' := by
  have HC : Hid (∀ i x, ns[i]? = some x → w.rangeAt b (off + i * 4) (plL x)) := hc
  have HD : Hid (∀ i x, ns[i]? = some x → w.rangeAt b' (off' + i * 4) (plL x)) := hd
  clear hc hd
  go_enter Tryd.func24, Tryd.ntmps24
  go_wp2
  go_loopw [5] (fun i wr => ∃ k : Nat, k ≤ n ∧ i = .int .i64 k ∧ Below w.heap.size w wr) (fun i _ => n - (intOf i).toNat)
  case atStart => exact ⟨0, Nat.zero_le _, rfl, Below.refl _ _⟩
  case round =>
    obtain ⟨k, hk, rfl, hbw⟩ := hrel
    by_cases hlt : k < n
    · obtain ⟨x, hx⟩ : ∃ x, ns[k]? = some x := ⟨_, List.getElem?_eq_getElem (by omega)⟩
      have hr := pl_below (HC.out k x hx) hbw (pl_lt (HC.out k x hx))
      have hs := pl_below (HD.out k x hx) hbw (pl_lt (HD.out k x hx))
      have lb := pl_lt hr
      have lb' := pl_lt hs
      have EQ := fun W => eqPlace_same x W
      have hlt' : (k : Int) < (n : Int) := by omega
      clear HC HD
      go_wp2
      refine wp_region_held_drew (S := fun w' => w'.rangeAt b (off + k * 4) (plL x) ∧ w'.rangeAt b' (off' + k * 4) (plL x)) (by kernel_rfl) ⟨(World.rangeAt_drew _ _ _ _).2 hr, (World.rangeAt_drew _ _ _ _).2 hs⟩ (fun hHeld => ?_)
      refine wpAnyH_take (i := 0) (oi := { dst := some 17, op := Op.move (Operand.tmp 0), type := 32, pos := "exact.go:673", after := #[], guard := none }) (v := .slice (some ⟨b, off, none⟩) n cap) rfl (by kernel_rfl) (by kernel_rfl) (by kernel_rfl) (fun _ _ _ h => h) (Or.inl ⟨by rfl, by intro w hSw; go_simp⟩) hHeld ?_
      simp only [Act.put, List.setIfInBounds_toArray, List.set_cons_zero, List.set_cons_succ]
      refine wpAnyH_take (i := 1) (oi := { dst := some 18, op := Op.move (Operand.tmp 5), type := 3, pos := "exact.go:673", after := #[], guard := none }) (v := .int .i64 (k : Int)) rfl (by kernel_rfl) (by kernel_rfl) (by kernel_rfl) (fun _ _ _ h => h) (Or.inl ⟨by rfl, by intro w hSw; go_simp⟩) hHeld ?_
      simp only [Act.put, List.setIfInBounds_toArray, List.set_cons_zero, List.set_cons_succ]
      refine wpAnyH_take (i := 2) (oi := { dst := some 19, op := Op.indexAddr 32 (Operand.tmp 17) (Operand.tmp 18), type := 0, pos := "exact.go:673", after := #[⟨0, Ground.data⟩, ⟨1, Ground.data⟩], guard := none }) (v := .pointer (some ⟨b, off + k * 4, none⟩)) rfl (by kernel_rfl) (by kernel_rfl) (by kernel_rfl) (fun _ _ _ h => h) (Or.inl ⟨by rfl, by intro w hSw; go_simp⟩) hHeld ?_
      simp only [Act.put, List.setIfInBounds_toArray, List.set_cons_zero, List.set_cons_succ]
      refine wpAnyH_take (i := 3) (oi := { dst := some 20, op := Op.load 57 (Operand.tmp 19), type := 57, pos := "exact.go:673", after := #[⟨2, Ground.data⟩], guard := none }) (v := .agg (plL x).toArray) rfl (by kernel_rfl) (by kernel_rfl) (by kernel_rfl) (fun _ _ _ h => h) (yieldsIf_load_mid (by rfl) 57 _ rfl (b) (off + k * 4) rfl (plL x) _ (fun w h => h.1) Tryd.underlying57 rfl (by kernel_rfl)) hHeld ?_
      simp only [Act.put, List.setIfInBounds_toArray, List.set_cons_zero, List.set_cons_succ]
      refine wpAnyH_take (i := 4) (oi := { dst := some 21, op := Op.move (Operand.tmp 1), type := 32, pos := "exact.go:673", after := #[], guard := none }) (v := .slice (some ⟨b', off', none⟩) n cap') rfl (by kernel_rfl) (by kernel_rfl) (by kernel_rfl) (fun _ _ _ h => h) (Or.inl ⟨by rfl, by intro w hSw; go_simp⟩) hHeld ?_
      simp only [Act.put, List.setIfInBounds_toArray, List.set_cons_zero, List.set_cons_succ]
      refine wpAnyH_take (i := 5) (oi := { dst := some 22, op := Op.move (Operand.tmp 5), type := 3, pos := "exact.go:673", after := #[], guard := none }) (v := .int .i64 (k : Int)) rfl (by kernel_rfl) (by kernel_rfl) (by kernel_rfl) (fun _ _ _ h => h) (Or.inl ⟨by rfl, by intro w hSw; go_simp⟩) hHeld ?_
      simp only [Act.put, List.setIfInBounds_toArray, List.set_cons_zero, List.set_cons_succ]
      refine wpAnyH_take (i := 6) (oi := { dst := some 23, op := Op.indexAddr 32 (Operand.tmp 21) (Operand.tmp 22), type := 0, pos := "exact.go:673", after := #[⟨4, Ground.data⟩, ⟨5, Ground.data⟩], guard := none }) (v := .pointer (some ⟨b', off' + k * 4, none⟩)) rfl (by kernel_rfl) (by kernel_rfl) (by kernel_rfl) (fun _ _ _ h => h) (Or.inl ⟨by rfl, by intro w hSw; go_simp⟩) hHeld ?_
      simp only [Act.put, List.setIfInBounds_toArray, List.set_cons_zero, List.set_cons_succ]
      refine wpAnyH_take (i := 7) (oi := { dst := some 24, op := Op.load 57 (Operand.tmp 23), type := 57, pos := "exact.go:673", after := #[⟨6, Ground.data⟩], guard := none }) (v := .agg (plL x).toArray) rfl (by kernel_rfl) (by kernel_rfl) (by kernel_rfl) (fun _ _ _ h => h) (yieldsIf_load_mid (by rfl) 57 _ rfl (b') (off' + k * 4) rfl (plL x) _ (fun w h => h.2) Tryd.underlying57 rfl (by kernel_rfl)) hHeld ?_
      simp only [Act.put, List.setIfInBounds_toArray, List.set_cons_zero, List.set_cons_succ]
      refine wpAnyH_ready (rs := [8]) (by kernel_rfl) (by simp) ?_
      refine AllReadyH.cons (o := { dst := some 25, op := Op.call { callee := Callee.value (Operand.func 38), args := #[Operand.tmp 20, Operand.tmp 24], argTypes := #[57, 57] }, type := 4, pos := "exact.go:673", after := #[⟨3, Ground.data⟩, ⟨7, Ground.data⟩], guard := none }) rfl (fun K hK => ?_) AllReadyH.nil
      go_simp
      refine (EQ _).mono ?_
      rintro e w2 ⟨rfl, hb⟩
      have hx2 : w2.rangeAt b (off + k * 4) (plL x) ∧ w2.rangeAt b' (off' + k * 4) (plL x) := ⟨pl_below hr ⟨hb.os, hb.tape, hb.output, hb.size, hb.block⟩ lb, pl_below hs ⟨hb.os, hb.tape, hb.output, hb.size, hb.block⟩ lb'⟩
      go_wp2_with fail
      refine hK.out _ _ hx2 (fun hHeld2 => ?_)
      clear hK K
      try simp only [Act.put, List.setIfInBounds_toArray, List.set_cons_zero, List.set_cons_succ]
      refine wpAnyH_take (i := 9) (oi := { dst := some 26, op := Op.unOp UnOp.not 4 (Operand.tmp 25), type := 4, pos := "exact.go:673", after := #[⟨8, Ground.data⟩], guard := none }) (v := .bool false) rfl (by kernel_rfl) (by kernel_rfl) (by kernel_rfl) (fun _ _ _ h => h) (Or.inl ⟨by rfl, by intro w hSw; go_simp⟩) hHeld2 ?_
      simp only [Act.put, List.setIfInBounds_toArray, List.set_cons_zero, List.set_cons_succ]
      refine wpAnyH_done (by kernel_rfl) ?_ _
      have B2 : Below w.heap.size w w2 := hbw.trans (Below.mono (B := wr.heap.size) ⟨hb.os, hb.tape, hb.output, hb.size, hb.block⟩ hbw.size)
      clear hb hr hs EQ hbw hx2 hHeld hHeld2
      go_wp2
      go_roundw
      case rel => exact ⟨k + 1, by omega, by go_num, B2⟩
      case measure => simp [intOf]; omega
    · go_wp2
      go_ret
      exact ⟨rfl, hbw⟩

set_option maxHeartbeats 1000000 in
theorem eqPlaces_none (a a' : Option Addr) (cap cap' : Nat) (w : World) :
    Calls Tryd.prog 24 #[.slice a 0 cap, .slice a' 0 cap'] w fun e w' => e = .returned (.bool true) ∧ Below w.heap.size w w' := by
  go_enter Tryd.func24, Tryd.ntmps24
  go_wp2
  refine wp_loop_rounds 1 ?_
  rw [rounds_succ]
  go_wp2
  go_ret
  exact ⟨rfl, Below.refl _ _⟩

/-- eqBoxS says yes of two rows of the same places. -/
theorem eqPlaces (a a' : Option Addr) (cap cap' : Nat) (ns : List Plc) (w : World) (hr : PlRow w a ns) (hr' : PlRow w a' ns) (hl : ns.length ≤ 1048576) :
    Calls Tryd.prog 24 #[.slice a ns.length cap, .slice a' ns.length cap'] w fun e w' => e = .returned (.bool true) ∧ Below w.heap.size w w' := by
  rcases hr with rfl | ⟨b, off, rfl, hc⟩
  · exact eqPlaces_none a a' cap cap' w
  · rcases hr' with rfl | ⟨b', off', rfl, hd⟩
    · exact eqPlaces_none _ _ cap cap' w
    · exact eqPlaces_some b off b' off' ns.length cap cap' ns w rfl hl hc hd
end Go.Proofs.YtbnnpgkeggjodaaDoor
