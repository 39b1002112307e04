/-
  The model's list of names and its lists of words.
-/
import Derived.Test.YtdgagjnkbmckoaaGreatDoorStyB
import Derived.Great.Walk
namespace Go.Proofs.YtdgagjnkbmckoaaGreatDoor
open Go.ChangeShapes Go.WideShapes Go.ChangeAt Go.RowKit
set_option linter.unusedVariables false

def nameCells : Array Value := #[.string ⟨#[115, 104, 111, 119]⟩, .string ⟨#[102, 108, 111, 97, 116]⟩, .string ⟨#[99, 108, 101, 97, 114]⟩, .string ⟨#[119, 105, 100, 116, 104]⟩, .string ⟨#[104, 101, 105, 103, 104, 116]⟩, .string ⟨#[109, 105, 110, 45, 119, 105, 100, 116, 104]⟩, .string ⟨#[109, 97, 120, 45, 119, 105, 100, 116, 104]⟩, .string ⟨#[109, 97, 114, 103, 105, 110, 45, 116, 111, 112]⟩, .string ⟨#[109, 97, 114, 103, 105, 110, 45, 114, 105, 103, 104, 116]⟩, .string ⟨#[109, 97, 114, 103, 105, 110, 45, 98, 111, 116, 116, 111, 109]⟩, .string ⟨#[109, 97, 114, 103, 105, 110, 45, 108, 101, 102, 116]⟩, .string ⟨#[98, 111, 114, 100, 101, 114]⟩, .string ⟨#[112, 97, 100, 100, 105, 110, 103]⟩, .string ⟨#[119, 104, 105, 116, 101]⟩, .string ⟨#[97, 108, 105, 103, 110]⟩, .string ⟨#[108, 105, 110, 101, 45, 104, 101, 105, 103, 104, 116]⟩, .string ⟨#[114, 105, 103, 104, 116]⟩, .string ⟨#[100, 111, 119, 110]⟩]
set_option maxRecDepth 100000 in
set_option maxHeartbeats 2000000 in
theorem l4Names_at (w : World) : Calls Tryz.prog 19 #[] w fun e w' => e = .returned (.slice (some ⟨w.heap.size, 0, none⟩) 18 18) ∧ w' = w.alloc (.cells nameCells 9) := by
  go_enter Tryz.func19, Tryz.ntmps19
  go_wp2_with ((with_reducible show wpList _ _ _ (⟨_, Op.buildSlice _ _ _, _, _, _, _⟩ :: _) _ _); refine Great.wpList_buildSliceTo rfl 43 9 18 _ rfl w.heap.size rfl _ rfl Tryz.underlying43 nameCells (by kernel_rfl) ?_)
  go_ret
  exact ⟨rfl, rfl⟩

theorem l4Words_0 (w : World) : Calls Tryz.prog 14 #[.string ⟨#[115, 104, 111, 119]⟩] w fun e w' => e = .returned (.slice (some ⟨w.heap.size, 0, none⟩) 4 4) ∧ w' = w.alloc (.cells #[.string ⟨#[]⟩, .string ⟨#[98, 108, 111, 99, 107]⟩, .string ⟨#[105, 110, 108, 105, 110, 101]⟩, .string ⟨#[110, 111, 110, 101]⟩] 9) := by
  go_enter Tryz.func14, Tryz.ntmps14
  go_wp2
  go_ret
  exact ⟨rfl, rfl⟩
theorem l4Words_1 (w : World) : Calls Tryz.prog 14 #[.string ⟨#[102, 108, 111, 97, 116]⟩] w fun e w' => e = .returned (.slice (some ⟨w.heap.size, 0, none⟩) 3 3) ∧ w' = w.alloc (.cells #[.string ⟨#[110, 111, 110, 101]⟩, .string ⟨#[108, 101, 102, 116]⟩, .string ⟨#[114, 105, 103, 104, 116]⟩] 9) := by
  go_enter Tryz.func14, Tryz.ntmps14
  go_wp2
  go_ret
  exact ⟨rfl, rfl⟩
theorem l4Words_2 (w : World) : Calls Tryz.prog 14 #[.string ⟨#[99, 108, 101, 97, 114]⟩] w fun e w' => e = .returned (.slice (some ⟨w.heap.size, 0, none⟩) 4 4) ∧ w' = w.alloc (.cells #[.string ⟨#[110, 111, 110, 101]⟩, .string ⟨#[108, 101, 102, 116]⟩, .string ⟨#[114, 105, 103, 104, 116]⟩, .string ⟨#[98, 111, 116, 104]⟩] 9) := by
  go_enter Tryz.func14, Tryz.ntmps14
  go_wp2
  go_ret
  exact ⟨rfl, rfl⟩
theorem l4Words_3 (w : World) : Calls Tryz.prog 14 #[.string ⟨#[119, 105, 100, 116, 104]⟩] w fun e w' => e = .returned (.slice none 0 0) ∧ w' = w := by
  go_enter Tryz.func14, Tryz.ntmps14
  go_wp2
  go_ret
  exact ⟨rfl, rfl⟩
theorem l4Words_4 (w : World) : Calls Tryz.prog 14 #[.string ⟨#[104, 101, 105, 103, 104, 116]⟩] w fun e w' => e = .returned (.slice none 0 0) ∧ w' = w := by
  go_enter Tryz.func14, Tryz.ntmps14
  go_wp2
  go_ret
  exact ⟨rfl, rfl⟩
theorem l4Words_5 (w : World) : Calls Tryz.prog 14 #[.string ⟨#[109, 105, 110, 45, 119, 105, 100, 116, 104]⟩] w fun e w' => e = .returned (.slice none 0 0) ∧ w' = w := by
  go_enter Tryz.func14, Tryz.ntmps14
  go_wp2
  go_ret
  exact ⟨rfl, rfl⟩
theorem l4Words_6 (w : World) : Calls Tryz.prog 14 #[.string ⟨#[109, 97, 120, 45, 119, 105, 100, 116, 104]⟩] w fun e w' => e = .returned (.slice none 0 0) ∧ w' = w := by
  go_enter Tryz.func14, Tryz.ntmps14
  go_wp2
  go_ret
  exact ⟨rfl, rfl⟩
theorem l4Words_7 (w : World) : Calls Tryz.prog 14 #[.string ⟨#[109, 97, 114, 103, 105, 110, 45, 116, 111, 112]⟩] w fun e w' => e = .returned (.slice none 0 0) ∧ w' = w := by
  go_enter Tryz.func14, Tryz.ntmps14
  go_wp2
  go_ret
  exact ⟨rfl, rfl⟩
theorem l4Words_8 (w : World) : Calls Tryz.prog 14 #[.string ⟨#[109, 97, 114, 103, 105, 110, 45, 114, 105, 103, 104, 116]⟩] w fun e w' => e = .returned (.slice none 0 0) ∧ w' = w := by
  go_enter Tryz.func14, Tryz.ntmps14
  go_wp2
  go_ret
  exact ⟨rfl, rfl⟩
theorem l4Words_9 (w : World) : Calls Tryz.prog 14 #[.string ⟨#[109, 97, 114, 103, 105, 110, 45, 98, 111, 116, 116, 111, 109]⟩] w fun e w' => e = .returned (.slice none 0 0) ∧ w' = w := by
  go_enter Tryz.func14, Tryz.ntmps14
  go_wp2
  go_ret
  exact ⟨rfl, rfl⟩
theorem l4Words_10 (w : World) : Calls Tryz.prog 14 #[.string ⟨#[109, 97, 114, 103, 105, 110, 45, 108, 101, 102, 116]⟩] w fun e w' => e = .returned (.slice none 0 0) ∧ w' = w := by
  go_enter Tryz.func14, Tryz.ntmps14
  go_wp2
  go_ret
  exact ⟨rfl, rfl⟩
theorem l4Words_11 (w : World) : Calls Tryz.prog 14 #[.string ⟨#[98, 111, 114, 100, 101, 114]⟩] w fun e w' => e = .returned (.slice none 0 0) ∧ w' = w := by
  go_enter Tryz.func14, Tryz.ntmps14
  go_wp2
  go_ret
  exact ⟨rfl, rfl⟩
theorem l4Words_12 (w : World) : Calls Tryz.prog 14 #[.string ⟨#[112, 97, 100, 100, 105, 110, 103]⟩] w fun e w' => e = .returned (.slice none 0 0) ∧ w' = w := by
  go_enter Tryz.func14, Tryz.ntmps14
  go_wp2
  go_ret
  exact ⟨rfl, rfl⟩
theorem l4Words_13 (w : World) : Calls Tryz.prog 14 #[.string ⟨#[119, 104, 105, 116, 101]⟩] w fun e w' => e = .returned (.slice (some ⟨w.heap.size, 0, none⟩) 6 6) ∧ w' = w.alloc (.cells #[.string ⟨#[]⟩, .string ⟨#[110, 111, 114, 109, 97, 108]⟩, .string ⟨#[110, 111, 119, 114, 97, 112]⟩, .string ⟨#[112, 114, 101]⟩, .string ⟨#[112, 114, 101, 45, 119, 114, 97, 112]⟩, .string ⟨#[112, 114, 101, 45, 108, 105, 110, 101]⟩] 9) := by
  go_enter Tryz.func14, Tryz.ntmps14
  go_wp2
  go_ret
  exact ⟨rfl, rfl⟩
theorem l4Words_14 (w : World) : Calls Tryz.prog 14 #[.string ⟨#[97, 108, 105, 103, 110]⟩] w fun e w' => e = .returned (.slice (some ⟨w.heap.size, 0, none⟩) 4 4) ∧ w' = w.alloc (.cells #[.string ⟨#[]⟩, .string ⟨#[108, 101, 102, 116]⟩, .string ⟨#[114, 105, 103, 104, 116]⟩, .string ⟨#[99, 101, 110, 116, 101, 114]⟩] 9) := by
  go_enter Tryz.func14, Tryz.ntmps14
  go_wp2
  go_ret
  exact ⟨rfl, rfl⟩
theorem l4Words_15 (w : World) : Calls Tryz.prog 14 #[.string ⟨#[108, 105, 110, 101, 45, 104, 101, 105, 103, 104, 116]⟩] w fun e w' => e = .returned (.slice none 0 0) ∧ w' = w := by
  go_enter Tryz.func14, Tryz.ntmps14
  go_wp2
  go_ret
  exact ⟨rfl, rfl⟩
theorem l4Words_16 (w : World) : Calls Tryz.prog 14 #[.string ⟨#[114, 105, 103, 104, 116]⟩] w fun e w' => e = .returned (.slice none 0 0) ∧ w' = w := by
  go_enter Tryz.func14, Tryz.ntmps14
  go_wp2
  go_ret
  exact ⟨rfl, rfl⟩
theorem l4Words_17 (w : World) : Calls Tryz.prog 14 #[.string ⟨#[100, 111, 119, 110]⟩] w fun e w' => e = .returned (.slice none 0 0) ∧ w' = w := by
  go_enter Tryz.func14, Tryz.ntmps14
  go_wp2
  go_ret
  exact ⟨rfl, rfl⟩

end Go.Proofs.YtdgagjnkbmckoaaGreatDoor
