/-
  The program's maps of words, by the name of a thing.
-/
import Derived.Test.YtojdmcennpgndaaGreatDoorStyB
import Derived.Test.YtojdmcennpgndaaGreatDoorMapLit
namespace Go.Proofs.YtojdmcennpgndaaGreatDoor
open Go.ChangeShapes Go.WideShapes Go.ChangeAt Go.RowKit
set_option linter.unusedVariables false

set_option maxRecDepth 100000 in
set_option maxHeartbeats 2000000 in
theorem wordsOf_0 (w : World) : Calls Tryz.prog 43 #[.string ⟨#[115, 104, 111, 119]⟩] w fun e w' => e = .returned (.map (some w.heap.size)) ∧ w' = w.alloc (.map #[⟨.string ⟨#[98, 108, 111, 99, 107]⟩, .int .i64 1, 0⟩, ⟨.string ⟨#[105, 110, 108, 105, 110, 101]⟩, .int .i64 2, 1⟩, ⟨.string ⟨#[110, 111, 110, 101]⟩, .int .i64 3, 2⟩] 3) := by
  have hmm := @run_makeMap Tryz.prog
  have u0 := run_mapUpdate_new (P := Tryz.prog) w 86 9 3 #[] 0 ⟨#[98, 108, 111, 99, 107]⟩ (.int .i64 1) Tryz.underlying86 Tryz.underlying9 (by kernel_rfl)
  simp only [List.push_toArray, List.nil_append] at u0
  have u1 := run_mapUpdate_new (P := Tryz.prog) w 86 9 3 #[⟨.string ⟨#[98, 108, 111, 99, 107]⟩, .int .i64 1, 0⟩] 1 ⟨#[105, 110, 108, 105, 110, 101]⟩ (.int .i64 2) Tryz.underlying86 Tryz.underlying9 (by kernel_rfl)
  simp only [List.push_toArray, List.nil_append, List.cons_append] at u1
  have u2 := run_mapUpdate_new (P := Tryz.prog) w 86 9 3 #[⟨.string ⟨#[98, 108, 111, 99, 107]⟩, .int .i64 1, 0⟩, ⟨.string ⟨#[105, 110, 108, 105, 110, 101]⟩, .int .i64 2, 1⟩] 2 ⟨#[110, 111, 110, 101]⟩ (.int .i64 3) Tryz.underlying86 Tryz.underlying9 (by kernel_rfl)
  simp only [List.push_toArray, List.nil_append, List.cons_append] at u2
  go_enter Tryz.func43, Tryz.ntmps43
  go_wp2
  go_ret
  exact ⟨rfl, rfl⟩
set_option maxRecDepth 100000 in
set_option maxHeartbeats 2000000 in
theorem wordsOf_1 (w : World) : Calls Tryz.prog 43 #[.string ⟨#[102, 108, 111, 97, 116]⟩] w fun e w' => e = .returned (.map (some w.heap.size)) ∧ w' = w.alloc (.map #[⟨.string ⟨#[110, 111, 110, 101]⟩, .int .i64 0, 0⟩, ⟨.string ⟨#[108, 101, 102, 116]⟩, .int .i64 1, 1⟩, ⟨.string ⟨#[114, 105, 103, 104, 116]⟩, .int .i64 2, 2⟩] 3) := by
  have hmm := @run_makeMap Tryz.prog
  have u0 := run_mapUpdate_new (P := Tryz.prog) w 86 9 3 #[] 0 ⟨#[110, 111, 110, 101]⟩ (.int .i64 0) Tryz.underlying86 Tryz.underlying9 (by kernel_rfl)
  simp only [List.push_toArray, List.nil_append] at u0
  have u1 := run_mapUpdate_new (P := Tryz.prog) w 86 9 3 #[⟨.string ⟨#[110, 111, 110, 101]⟩, .int .i64 0, 0⟩] 1 ⟨#[108, 101, 102, 116]⟩ (.int .i64 1) Tryz.underlying86 Tryz.underlying9 (by kernel_rfl)
  simp only [List.push_toArray, List.nil_append, List.cons_append] at u1
  have u2 := run_mapUpdate_new (P := Tryz.prog) w 86 9 3 #[⟨.string ⟨#[110, 111, 110, 101]⟩, .int .i64 0, 0⟩, ⟨.string ⟨#[108, 101, 102, 116]⟩, .int .i64 1, 1⟩] 2 ⟨#[114, 105, 103, 104, 116]⟩ (.int .i64 2) Tryz.underlying86 Tryz.underlying9 (by kernel_rfl)
  simp only [List.push_toArray, List.nil_append, List.cons_append] at u2
  go_enter Tryz.func43, Tryz.ntmps43
  go_wp2
  go_ret
  exact ⟨rfl, rfl⟩
set_option maxRecDepth 100000 in
set_option maxHeartbeats 2000000 in
theorem wordsOf_2 (w : World) : Calls Tryz.prog 43 #[.string ⟨#[99, 108, 101, 97, 114]⟩] w fun e w' => e = .returned (.map (some w.heap.size)) ∧ w' = w.alloc (.map #[⟨.string ⟨#[110, 111, 110, 101]⟩, .int .i64 0, 0⟩, ⟨.string ⟨#[108, 101, 102, 116]⟩, .int .i64 1, 1⟩, ⟨.string ⟨#[114, 105, 103, 104, 116]⟩, .int .i64 2, 2⟩, ⟨.string ⟨#[98, 111, 116, 104]⟩, .int .i64 3, 3⟩] 4) := by
  have hmm := @run_makeMap Tryz.prog
  have u0 := run_mapUpdate_new (P := Tryz.prog) w 86 9 3 #[] 0 ⟨#[110, 111, 110, 101]⟩ (.int .i64 0) Tryz.underlying86 Tryz.underlying9 (by kernel_rfl)
  simp only [List.push_toArray, List.nil_append] at u0
  have u1 := run_mapUpdate_new (P := Tryz.prog) w 86 9 3 #[⟨.string ⟨#[110, 111, 110, 101]⟩, .int .i64 0, 0⟩] 1 ⟨#[108, 101, 102, 116]⟩ (.int .i64 1) Tryz.underlying86 Tryz.underlying9 (by kernel_rfl)
  simp only [List.push_toArray, List.nil_append, List.cons_append] at u1
  have u2 := run_mapUpdate_new (P := Tryz.prog) w 86 9 3 #[⟨.string ⟨#[110, 111, 110, 101]⟩, .int .i64 0, 0⟩, ⟨.string ⟨#[108, 101, 102, 116]⟩, .int .i64 1, 1⟩] 2 ⟨#[114, 105, 103, 104, 116]⟩ (.int .i64 2) Tryz.underlying86 Tryz.underlying9 (by kernel_rfl)
  simp only [List.push_toArray, List.nil_append, List.cons_append] at u2
  have u3 := run_mapUpdate_new (P := Tryz.prog) w 86 9 3 #[⟨.string ⟨#[110, 111, 110, 101]⟩, .int .i64 0, 0⟩, ⟨.string ⟨#[108, 101, 102, 116]⟩, .int .i64 1, 1⟩, ⟨.string ⟨#[114, 105, 103, 104, 116]⟩, .int .i64 2, 2⟩] 3 ⟨#[98, 111, 116, 104]⟩ (.int .i64 3) Tryz.underlying86 Tryz.underlying9 (by kernel_rfl)
  simp only [List.push_toArray, List.nil_append, List.cons_append] at u3
  go_enter Tryz.func43, Tryz.ntmps43
  go_wp2
  go_ret
  exact ⟨rfl, rfl⟩
theorem wordsOf_3 (w : World) : Calls Tryz.prog 43 #[.string ⟨#[119, 105, 100, 116, 104]⟩] w fun e w' => e = .returned (.map none) ∧ w' = w := by
  go_enter Tryz.func43, Tryz.ntmps43
  go_wp2
  go_ret
  exact ⟨rfl, rfl⟩
theorem wordsOf_4 (w : World) : Calls Tryz.prog 43 #[.string ⟨#[104, 101, 105, 103, 104, 116]⟩] w fun e w' => e = .returned (.map none) ∧ w' = w := by
  go_enter Tryz.func43, Tryz.ntmps43
  go_wp2
  go_ret
  exact ⟨rfl, rfl⟩
theorem wordsOf_5 (w : World) : Calls Tryz.prog 43 #[.string ⟨#[109, 105, 110, 45, 119, 105, 100, 116, 104]⟩] w fun e w' => e = .returned (.map none) ∧ w' = w := by
  go_enter Tryz.func43, Tryz.ntmps43
  go_wp2
  go_ret
  exact ⟨rfl, rfl⟩
theorem wordsOf_6 (w : World) : Calls Tryz.prog 43 #[.string ⟨#[109, 97, 120, 45, 119, 105, 100, 116, 104]⟩] w fun e w' => e = .returned (.map none) ∧ w' = w := by
  go_enter Tryz.func43, Tryz.ntmps43
  go_wp2
  go_ret
  exact ⟨rfl, rfl⟩
theorem wordsOf_7 (w : World) : Calls Tryz.prog 43 #[.string ⟨#[109, 97, 114, 103, 105, 110, 45, 116, 111, 112]⟩] w fun e w' => e = .returned (.map none) ∧ w' = w := by
  go_enter Tryz.func43, Tryz.ntmps43
  go_wp2
  go_ret
  exact ⟨rfl, rfl⟩
theorem wordsOf_8 (w : World) : Calls Tryz.prog 43 #[.string ⟨#[109, 97, 114, 103, 105, 110, 45, 114, 105, 103, 104, 116]⟩] w fun e w' => e = .returned (.map none) ∧ w' = w := by
  go_enter Tryz.func43, Tryz.ntmps43
  go_wp2
  go_ret
  exact ⟨rfl, rfl⟩
theorem wordsOf_9 (w : World) : Calls Tryz.prog 43 #[.string ⟨#[109, 97, 114, 103, 105, 110, 45, 98, 111, 116, 116, 111, 109]⟩] w fun e w' => e = .returned (.map none) ∧ w' = w := by
  go_enter Tryz.func43, Tryz.ntmps43
  go_wp2
  go_ret
  exact ⟨rfl, rfl⟩
theorem wordsOf_10 (w : World) : Calls Tryz.prog 43 #[.string ⟨#[109, 97, 114, 103, 105, 110, 45, 108, 101, 102, 116]⟩] w fun e w' => e = .returned (.map none) ∧ w' = w := by
  go_enter Tryz.func43, Tryz.ntmps43
  go_wp2
  go_ret
  exact ⟨rfl, rfl⟩
theorem wordsOf_11 (w : World) : Calls Tryz.prog 43 #[.string ⟨#[98, 111, 114, 100, 101, 114]⟩] w fun e w' => e = .returned (.map none) ∧ w' = w := by
  go_enter Tryz.func43, Tryz.ntmps43
  go_wp2
  go_ret
  exact ⟨rfl, rfl⟩
theorem wordsOf_12 (w : World) : Calls Tryz.prog 43 #[.string ⟨#[112, 97, 100, 100, 105, 110, 103]⟩] w fun e w' => e = .returned (.map none) ∧ w' = w := by
  go_enter Tryz.func43, Tryz.ntmps43
  go_wp2
  go_ret
  exact ⟨rfl, rfl⟩
set_option maxRecDepth 100000 in
set_option maxHeartbeats 2000000 in
theorem wordsOf_13 (w : World) : Calls Tryz.prog 43 #[.string ⟨#[119, 104, 105, 116, 101]⟩] w fun e w' => e = .returned (.map (some w.heap.size)) ∧ w' = w.alloc (.map #[⟨.string ⟨#[110, 111, 114, 109, 97, 108]⟩, .int .i64 1, 0⟩, ⟨.string ⟨#[110, 111, 119, 114, 97, 112]⟩, .int .i64 2, 1⟩, ⟨.string ⟨#[112, 114, 101]⟩, .int .i64 3, 2⟩, ⟨.string ⟨#[112, 114, 101, 45, 119, 114, 97, 112]⟩, .int .i64 4, 3⟩, ⟨.string ⟨#[112, 114, 101, 45, 108, 105, 110, 101]⟩, .int .i64 5, 4⟩] 5) := by
  have hmm := @run_makeMap Tryz.prog
  have u0 := run_mapUpdate_new (P := Tryz.prog) w 86 9 3 #[] 0 ⟨#[110, 111, 114, 109, 97, 108]⟩ (.int .i64 1) Tryz.underlying86 Tryz.underlying9 (by kernel_rfl)
  simp only [List.push_toArray, List.nil_append] at u0
  have u1 := run_mapUpdate_new (P := Tryz.prog) w 86 9 3 #[⟨.string ⟨#[110, 111, 114, 109, 97, 108]⟩, .int .i64 1, 0⟩] 1 ⟨#[110, 111, 119, 114, 97, 112]⟩ (.int .i64 2) Tryz.underlying86 Tryz.underlying9 (by kernel_rfl)
  simp only [List.push_toArray, List.nil_append, List.cons_append] at u1
  have u2 := run_mapUpdate_new (P := Tryz.prog) w 86 9 3 #[⟨.string ⟨#[110, 111, 114, 109, 97, 108]⟩, .int .i64 1, 0⟩, ⟨.string ⟨#[110, 111, 119, 114, 97, 112]⟩, .int .i64 2, 1⟩] 2 ⟨#[112, 114, 101]⟩ (.int .i64 3) Tryz.underlying86 Tryz.underlying9 (by kernel_rfl)
  simp only [List.push_toArray, List.nil_append, List.cons_append] at u2
  have u3 := run_mapUpdate_new (P := Tryz.prog) w 86 9 3 #[⟨.string ⟨#[110, 111, 114, 109, 97, 108]⟩, .int .i64 1, 0⟩, ⟨.string ⟨#[110, 111, 119, 114, 97, 112]⟩, .int .i64 2, 1⟩, ⟨.string ⟨#[112, 114, 101]⟩, .int .i64 3, 2⟩] 3 ⟨#[112, 114, 101, 45, 119, 114, 97, 112]⟩ (.int .i64 4) Tryz.underlying86 Tryz.underlying9 (by kernel_rfl)
  simp only [List.push_toArray, List.nil_append, List.cons_append] at u3
  have u4 := run_mapUpdate_new (P := Tryz.prog) w 86 9 3 #[⟨.string ⟨#[110, 111, 114, 109, 97, 108]⟩, .int .i64 1, 0⟩, ⟨.string ⟨#[110, 111, 119, 114, 97, 112]⟩, .int .i64 2, 1⟩, ⟨.string ⟨#[112, 114, 101]⟩, .int .i64 3, 2⟩, ⟨.string ⟨#[112, 114, 101, 45, 119, 114, 97, 112]⟩, .int .i64 4, 3⟩] 4 ⟨#[112, 114, 101, 45, 108, 105, 110, 101]⟩ (.int .i64 5) Tryz.underlying86 Tryz.underlying9 (by kernel_rfl)
  simp only [List.push_toArray, List.nil_append, List.cons_append] at u4
  go_enter Tryz.func43, Tryz.ntmps43
  go_wp2
  go_ret
  exact ⟨rfl, rfl⟩
set_option maxRecDepth 100000 in
set_option maxHeartbeats 2000000 in
theorem wordsOf_14 (w : World) : Calls Tryz.prog 43 #[.string ⟨#[97, 108, 105, 103, 110]⟩] w fun e w' => e = .returned (.map (some w.heap.size)) ∧ w' = w.alloc (.map #[⟨.string ⟨#[108, 101, 102, 116]⟩, .int .i64 1, 0⟩, ⟨.string ⟨#[114, 105, 103, 104, 116]⟩, .int .i64 2, 1⟩, ⟨.string ⟨#[99, 101, 110, 116, 101, 114]⟩, .int .i64 3, 2⟩] 3) := by
  have hmm := @run_makeMap Tryz.prog
  have u0 := run_mapUpdate_new (P := Tryz.prog) w 86 9 3 #[] 0 ⟨#[108, 101, 102, 116]⟩ (.int .i64 1) Tryz.underlying86 Tryz.underlying9 (by kernel_rfl)
  simp only [List.push_toArray, List.nil_append] at u0
  have u1 := run_mapUpdate_new (P := Tryz.prog) w 86 9 3 #[⟨.string ⟨#[108, 101, 102, 116]⟩, .int .i64 1, 0⟩] 1 ⟨#[114, 105, 103, 104, 116]⟩ (.int .i64 2) Tryz.underlying86 Tryz.underlying9 (by kernel_rfl)
  simp only [List.push_toArray, List.nil_append, List.cons_append] at u1
  have u2 := run_mapUpdate_new (P := Tryz.prog) w 86 9 3 #[⟨.string ⟨#[108, 101, 102, 116]⟩, .int .i64 1, 0⟩, ⟨.string ⟨#[114, 105, 103, 104, 116]⟩, .int .i64 2, 1⟩] 2 ⟨#[99, 101, 110, 116, 101, 114]⟩ (.int .i64 3) Tryz.underlying86 Tryz.underlying9 (by kernel_rfl)
  simp only [List.push_toArray, List.nil_append, List.cons_append] at u2
  go_enter Tryz.func43, Tryz.ntmps43
  go_wp2
  go_ret
  exact ⟨rfl, rfl⟩
theorem wordsOf_15 (w : World) : Calls Tryz.prog 43 #[.string ⟨#[108, 105, 110, 101, 45, 104, 101, 105, 103, 104, 116]⟩] w fun e w' => e = .returned (.map none) ∧ w' = w := by
  go_enter Tryz.func43, Tryz.ntmps43
  go_wp2
  go_ret
  exact ⟨rfl, rfl⟩
theorem wordsOf_16 (w : World) : Calls Tryz.prog 43 #[.string ⟨#[114, 105, 103, 104, 116]⟩] w fun e w' => e = .returned (.map none) ∧ w' = w := by
  go_enter Tryz.func43, Tryz.ntmps43
  go_wp2
  go_ret
  exact ⟨rfl, rfl⟩
theorem wordsOf_17 (w : World) : Calls Tryz.prog 43 #[.string ⟨#[100, 111, 119, 110]⟩] w fun e w' => e = .returned (.map none) ∧ w' = w := by
  go_enter Tryz.func43, Tryz.ntmps43
  go_wp2
  go_ret
  exact ⟨rfl, rfl⟩
end Go.Proofs.YtojdmcennpgndaaGreatDoor
