/-
  What the program's readers answer, as plain data: a text that begins with another, a text that ends with a percent sign; a size.
-/
import Derived.Test.YtojdmcennpgndaaGreatDoorCutS
import Derived.Test.YtojdmcennpgndaaGreatDoorRead8
namespace Go.Proofs.YtojdmcennpgndaaGreatDoor
open Go.ChangeShapes Go.WideShapes Go.ChangeAt Go.RowKit
set_option linter.unusedVariables false

def preB (s p : ByteArray) : Bool := decide (p.size ≤ s.size) && ((s.extract 0 p.size).toList == p.toList)
def preR (s p : ByteArray) : ByteArray := if preB s p then s.extract p.size s.size else s
def pcB (s : ByteArray) : Bool := decide (1 ≤ s.size) && ((s.extract (s.size - 1) s.size).toList == [37])
def pcR (s : ByteArray) : ByteArray := if pcB s then s.extract 0 (s.size - 1) else s

set_option maxHeartbeats 1000000 in
theorem cutPre_any (s p : ByteArray) (w : World) (hs : s.size ≤ 1048576) (hp : p.size ≤ 1048576) :
    Calls Tryz.prog 48 #[.string s, .string p] w fun e w' => e = .returned (.tuple #[.string (preR s p), .bool (preB s p)]) ∧ w' = w := by
  by_cases h2 : p.size ≤ s.size
  · have h2' : (p.size : Int) ≤ (s.size : Int) := by omega
    have h20 : (0 : Int) ≤ (p.size : Int) := by omega
    cases h : ((s.extract 0 p.size).toList == p.toList) with
    | true =>
      have e : preB s p = true := by simp only [preB, h, h2, decide_true, Bool.and_self]
      have HE : Hid (preB s p = true) := e
      have HN : Hid (preR s p = s.extract p.size s.size) := by show preR s p = _; simp [preR, e]
      clear e
      go_enter Tryz.func48, Tryz.ntmps48
      go_wp2
      go_ret2
      exact ⟨ret2S HN.out.symm HE.out.symm, rfl⟩
    | false =>
      have e : preB s p = false := by simp only [preB, h, Bool.and_false]
      have HE : Hid (preB s p = false) := e
      have HN : Hid (preR s p = s) := by show preR s p = _; simp [preR, e]
      clear e
      go_enter Tryz.func48, Tryz.ntmps48
      go_wp2
      go_ret2
      exact ⟨ret2S HN.out.symm HE.out.symm, rfl⟩
  · have h2' : ¬ (p.size : Int) ≤ (s.size : Int) := by omega
    have e : preB s p = false := by simp [preB, h2]
    have HE : Hid (preB s p = false) := e
    have HN : Hid (preR s p = s) := by show preR s p = _; simp [preR, e]
    clear e
    go_enter Tryz.func48, Tryz.ntmps48
    go_wp2
    go_ret2
    exact ⟨ret2S HN.out.symm HE.out.symm, rfl⟩
theorem cutPct_any (s : ByteArray) (w : World) (hs : s.size ≤ 1048576) :
    Calls Tryz.prog 78 #[.string s, .string ⟨#[37]⟩] w fun e w' => e = .returned (.tuple #[.string (pcR s), .bool (pcB s)]) ∧ w' = w := by
  by_cases h2 : 1 ≤ s.size
  · cases h : ((s.extract (s.size - 1) s.size).toList == [37]) with
    | true =>
      have e : pcB s = true := by simp only [pcB, h, h2, decide_true, Bool.and_self]
      have HE : Hid (pcB s = true) := e
      have HN : Hid (pcR s = s.extract 0 (s.size - 1)) := by show pcR s = _; simp [pcR, e]
      clear e
      go_enter Tryz.func78, Tryz.ntmps78
      go_wp2
      go_ret2
      exact ⟨ret2S HN.out.symm HE.out.symm, rfl⟩
    | false =>
      have e : pcB s = false := by simp only [pcB, h, Bool.and_false]
      have HE : Hid (pcB s = false) := e
      have HN : Hid (pcR s = s) := by show pcR s = _; simp [pcR, e]
      clear e
      go_enter Tryz.func78, Tryz.ntmps78
      go_wp2
      go_ret2
      exact ⟨ret2S HN.out.symm HE.out.symm, rfl⟩
  · have e : pcB s = false := by simp [pcB, h2]
    have HE : Hid (pcB s = false) := e
    have HN : Hid (pcR s = s) := by show pcR s = _; simp [pcR, e]
    clear e
    go_enter Tryz.func78, Tryz.ntmps78
    go_wp2
    go_ret2
    exact ⟨ret2S HN.out.symm HE.out.symm, rfl⟩

/-- A percent as the program reads it. -/
def pctFitB (v : ByteArray) : Bool := pcB v && digsB (bodyOf (pcR v)) 4
def pctVal (v : ByteArray) : Int := val (bodyOf (pcR v)).data.toList * 100
def pctSgn (v : ByteArray) : Int := if negB (pcR v) then -(pctVal v) else pctVal v
end Go.Proofs.YtojdmcennpgndaaGreatDoor
