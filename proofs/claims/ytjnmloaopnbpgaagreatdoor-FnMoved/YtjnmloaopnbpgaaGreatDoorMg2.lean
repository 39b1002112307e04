/-
 The program's list of the things of a style: a row of eighteen, each with its name, its place in the style and its limits.
-/
import Derived.Test.YtjnmloaopnbpgaaGreatDoorMg1
import Derived.Deep.RegionHeld3
namespace Go.Proofs.YtjnmloaopnbpgaaGreatDoor
open Go.ChangeShapes Go.WideShapes Go.ChangeAt Go.RowKit
set_option linter.unusedVariables false
def thingCells (b:Nat):Array Value:=#[.string ⟨#[115,104,111,119]⟩,.pointer (some ⟨b,0,none⟩),.pointer none,.int .i64 1,.int .i64 3,.bool false,.string ⟨#[102,108,111,97,116]⟩,.pointer (some ⟨b,1,none⟩),.pointer none,.int .i64 0,.int .i64 2,.bool false,.string ⟨#[99,108,101,97,114]⟩,.pointer (some ⟨b,2,none⟩),.pointer none,.int .i64 0,.int .i64 3,.bool false,.string ⟨#[119,105,100,116,104]⟩,.pointer none,.pointer (some ⟨b,3,none⟩),.int .i64 0,.int .i64 1000000,.bool false,.string ⟨#[104,101,105,103,104,116]⟩,.pointer none,.pointer (some ⟨b,6,none⟩),.int .i64 0,.int .i64 1000000,.bool true,.string ⟨#[109,105,110,45,119,105,100,116,104]⟩,.pointer (some ⟨b,9,none⟩),.pointer none,.int .i64 0,.int .i64 1000000,.bool false,.string ⟨#[109,97,120,45,119,105,100,116,104]⟩,.pointer (some ⟨b,10,none⟩),.pointer none,.int .i64 (-1),.int .i64 1000000,.bool false,.string ⟨#[109,97,114,103,105,110,45,116,111,112]⟩,.pointer (some ⟨b,11,none⟩),.pointer none,.int .i64 (-1000000),.int .i64 1000000,.bool false,.string ⟨#[109,97,114,103,105,110,45,114,105,103,104,116]⟩,.pointer none,.pointer (some ⟨b,12,none⟩),.int .i64 (-1000000),.int .i64 1000000,.bool false,.string ⟨#[109,97,114,103,105,110,45,98,111,116,116,111,109]⟩,.pointer (some ⟨b,15,none⟩),.pointer none,.int .i64 (-1000000),.int .i64 1000000,.bool false,.string ⟨#[109,97,114,103,105,110,45,108,101,102,116]⟩,.pointer none,.pointer (some ⟨b,16,none⟩),.int .i64 (-1000000),.int .i64 1000000,.bool false,.string ⟨#[98,111,114,100,101,114]⟩,.pointer (some ⟨b,19,none⟩),.pointer none,.int .i64 0,.int .i64 64000,.bool false,.string ⟨#[112,97,100,100,105,110,103]⟩,.pointer (some ⟨b,20,none⟩),.pointer none,.int .i64 0,.int .i64 64000,.bool false,.string ⟨#[119,104,105,116,101]⟩,.pointer (some ⟨b,21,none⟩),.pointer none,.int .i64 1,.int .i64 5,.bool false,.string ⟨#[97,108,105,103,110]⟩,.pointer (some ⟨b,22,none⟩),.pointer none,.int .i64 1,.int .i64 3,.bool false,.string ⟨#[108,105,110,101,45,104,101,105,103,104,116]⟩,.pointer (some ⟨b,23,none⟩),.pointer none,.int .i64 0,.int .i64 64000,.bool false,.string ⟨#[114,105,103,104,116]⟩,.pointer (some ⟨b,24,none⟩),.pointer none,.int .i64 (-1000000),.int .i64 1000000,.bool false,.string ⟨#[100,111,119,110]⟩,.pointer (some ⟨b,25,none⟩),.pointer none,.int .i64 (-1000000),.int .i64 1000000,.bool false]
set_option maxRecDepth 100000 in
set_option maxHeartbeats 40000000 in
theorem thingsOf_at (b:Nat) (w:World) :
  Calls Tryz.prog 114 #[.pointer (some ⟨b,0,none⟩)] w fun e w'=>e = .returned (.slice (some ⟨w.heap.size,0,none⟩) 18 18) ∧ w' = (w.alloc (.cells (thingCells b) 165)).drew:=by
 go_enter Tryz.func114,Tryz.ntmps114
 go_wp2_with fail
 dsimp only [List.append]
 go_region_held3 (fun _=>True) (first | go_keep | trivial) ((fail))
 go_wp2
 go_ret
 exact ⟨rfl,rfl⟩
end Go.Proofs.YtjnmloaopnbpgaaGreatDoor
