/-
 The plain mathematics of a line's width: the line without its line break and its blanks at the end; lines between places; the greatest width.
 Contracts of the model's line: what of it is measured, and its width; lines of at most 400 bytes.
 Contract of the model's widest stretch between places, of a text of at most 200 bytes.
 Contract of the model's WidestLine.
-/
import Derived.Test.YtjnmloaopnbpgaaGreatDoorMg3
import Derived.Lib.TrimByte
import Derived.Lib.Strings
import Derived.Deep.RegionHeld3
import Derived.Deep.AppendLies
namespace Go.Proofs.YtjnmloaopnbpgaaGreatDoor
open Go.ChangeShapes Go.WideShapes Go.ChangeAt Go.RowKit
set_option linter.unusedVariables false
/-- The last byte. -/
def endZ (y:ByteArray):Nat:=(y.data.toList.getD (y.size - 1) 0).toNat
/-- All but the last byte. -/
def cutOne (y:ByteArray):ByteArray:=y.extract 0 (y.size - 1)
theorem cutOne_size (y:ByteArray):(cutOne y).size = y.size - 1:=by unfold cutOne;rw [ByteArray.size_extract];omega
/-- Blanks at the end cut off. -/
def cutB:Nat → ByteArray → ByteArray
 | 0,y=>y
 | f + 1,y=>if 0 < y.size ∧ endZ y = 32 then cutB f (cutOne y) else y
theorem cutB_go {y:ByteArray} (h0:0 < y.size) (h:endZ y = 32):cutB y.size y = cutB (cutOne y).size (cutOne y):=by
 rw [cutOne_size]
 obtain ⟨f,hf⟩:∃ f,y.size = f + 1:=⟨y.size - 1,by omega⟩
 rw [hf]
 simp only [cutB,Nat.add_sub_cancel]
 rw [if_pos ⟨h0,h⟩]
theorem cutB_stop {y:ByteArray} (h:¬ (0 < y.size ∧ endZ y = 32)):cutB y.size y = y:=by
 cases hf:y.size with
 | zero=>rfl
 | succ f=>simp only [cutB];rw [if_neg (by rw [hf] at h;rw [hf];exact h)]
/-- The line as it is measured. -/
def bareS (x:ByteArray):ByteArray:=if 0 < x.size ∧ endZ x = 10 then cutB (cutOne x).size (cutOne x) else cutB x.size x
theorem extract_two (x:ByteArray) (a b:Nat) (h:b ≤ a):(x.extract 0 a).extract 0 b = x.extract 0 b:=by
 apply ByteArray.ext
 simp only [ByteArray.data_extract]
 rw [Array.extract_extract]
 simp
 congr 1
 omega
theorem cutB_pre:∀ (f:Nat) (y:ByteArray),∃ m,m ≤ y.size ∧ cutB f y = y.extract 0 m:=by
 intro f
 induction f with
 | zero=>intro y;exact ⟨y.size,Nat.le_refl _,by rw [cutB,ByteArray.extract_zero_size]⟩
 | succ f ih =>
  intro y
  simp only [cutB]
  split
  ·obtain ⟨m,h1,h2⟩:=ih (cutOne y)
   rw [cutOne_size] at h1
   exact ⟨m,by omega,by rw [h2];unfold cutOne;exact extract_two y _ m h1⟩
  ·exact ⟨y.size,Nat.le_refl _,by rw [ByteArray.extract_zero_size]⟩
theorem bare_pre (x:ByteArray):∃ m,m ≤ x.size ∧ (0 < x.size → endZ x = 10 → m ≤ x.size - 1) ∧ bareS x = x.extract 0 m:=by
 unfold bareS
 split
 ·obtain ⟨m,h1,h2⟩:=cutB_pre (cutOne x).size (cutOne x)
  rw [cutOne_size] at h1
  exact ⟨m,by omega,fun _ _=>h1,by rw [h2];unfold cutOne;exact extract_two x _ m h1⟩
 ·rename_i h
  obtain ⟨m,h1,h2⟩:=cutB_pre x.size x
  exact ⟨m,h1,fun a b=>absurd ⟨a,b⟩ h,h2⟩
theorem bare_size (x:ByteArray):(bareS x).size ≤ x.size:=by
 obtain ⟨m,h1,_,h3⟩:=bare_pre x
 rw [h3,ByteArray.size_extract];omega
/-- The place ahead of line j, and the j-th line. -/
def prevE (E:List Nat) (j:Nat):Nat:=(0 :: E).getD j 0
def lineOfW (s:ByteArray) (E:List Nat) (j:Nat):ByteArray:=s.extract (prevE E j) (E.getD j 0)
theorem prevE_next (E:List Nat) (j:Nat):prevE E (j + 1) = E.getD j 0:=rfl
theorem lineOfW_size (s:ByteArray) (E:List Nat) (j:Nat):(lineOfW s E j).size ≤ s.size:=by
 unfold lineOfW;rw [ByteArray.size_extract];omega
/-- The greatest of some widths, of the first k lines. -/
def widestK (W:ByteArray → Int) (s:ByteArray) (E:List Nat):Nat → Int
 | 0=>0
 | k + 1=>max (widestK W s E k) (W (lineOfW s E k))
theorem widestK_bd (W:ByteArray → Int) (s:ByteArray) (E:List Nat) (k:Nat) (h:∀ x:ByteArray,x.size ≤ s.size → 0 ≤ W x ∧ W x ≤ 2560000):0 ≤ widestK W s E k ∧ widestK W s E k ≤ 2560000:=by
 induction k with
 | zero=>simp [widestK]
 | succ k ih =>
  have:=h (lineOfW s E k) (lineOfW_size s E k)
  rw [widestK]
  omega
/-- Places that rise up to the end. -/
def EndsOk (n:Nat) (E:List Nat):Prop:=∀ j,j < E.length → prevE E j ≤ E.getD j 0 ∧ E.getD j 0 ≤ n
/-- The places 1 .. k at which p holds, as numbers. -/
def placesN (p:Nat → Bool):Nat → List Nat
 | 0=>[]
 | k + 1=>if p (k + 1) = true then placesN p k ++ [k + 1] else placesN p k
theorem placesN_int (p:Nat → Bool) (k:Nat):placesL p k = (placesN p k).map (fun n:Nat=>(n:Int)):=by
 induction k with
 | zero=>rfl
 | succ k ih =>
  unfold placesL placesN
  by_cases h:p (k + 1) = true
  ·rw [if_pos h,if_pos h,ih];simp
  ·rw [if_neg h,if_neg h,ih]
theorem getD_snoc_lo (E:List Nat) (e j:Nat) (h:j < E.length):(E ++ [e]).getD j 0 = E.getD j 0:=by
 rw [List.getD_eq_getElem?_getD,List.getD_eq_getElem?_getD,List.getElem?_append_left h]
theorem getD_snoc_hi (E:List Nat) (e:Nat):(E ++ [e]).getD E.length 0 = e:=by
 rw [List.getD_eq_getElem?_getD,List.getElem?_append_right (Nat.le_refl _)];simp
theorem prevE_lo (E:List Nat) (e j:Nat) (h:j ≤ E.length):prevE (E ++ [e]) j = prevE E j:=by
 cases j with
 | zero=>rfl
 | succ j=>rw [prevE_next,prevE_next];exact getD_snoc_lo E e j h
/-- Between two places of a rising row no place at which p holds is passed by. -/
def Between (p:Nat → Bool) (E:List Nat) (k:Nat):Prop :=
 (∀ j,j < E.length → prevE E j < E.getD j 0 ∧ E.getD j 0 ≤ k ∧ ∀ i,prevE E j < i → i < E.getD j 0 → p i = false) ∧ (∀ i,prevE E E.length < i → i ≤ k → p i = false) ∧ prevE E E.length ≤ k
theorem placesN_between (p:Nat → Bool) (k:Nat):Between p (placesN p k) k:=by
 induction k with
 | zero=>exact ⟨fun j h=>absurd h (by simp [placesN]),fun i h1 h2=>absurd h1 (by simp [placesN,prevE];omega),by simp [placesN,prevE]⟩
 | succ k ih =>
  obtain ⟨h1,h2,h3⟩:=ih
  unfold placesN
  by_cases h:p (k + 1) = true
  ·rw [if_pos h]
   generalize placesN p k = E at h1 h2 h3
   refine ⟨fun j hj=>?_,fun i g1 g2=>?_,?_⟩
   ·rw [prevE_lo E (k + 1) j (by simp at hj;omega)]
    by_cases e:j = E.length
    ·subst e
     rw [getD_snoc_hi]
     exact ⟨by omega,by omega,fun i a b=>h2 i a (by omega)⟩
    ·have hj':j < E.length:=by simp at hj;omega
     rw [getD_snoc_lo E (k + 1) j hj']
     obtain ⟨a,b,c⟩:=h1 j hj'
     exact ⟨a,by omega,c⟩
   ·have e:prevE (E ++ [k + 1]) (E ++ [k + 1]).length = k + 1:=by
     rw [List.length_append,List.length_singleton,prevE_next,getD_snoc_hi]
    rw [e] at g1
    omega
   ·have e:prevE (E ++ [k + 1]) (E ++ [k + 1]).length = k + 1:=by
     rw [List.length_append,List.length_singleton,prevE_next,getD_snoc_hi]
    rw [e]
    exact Nat.le_refl _
  ·rw [if_neg h]
   refine ⟨fun j hj=>?_,fun i g1 g2=>?_,by omega⟩
   ·obtain ⟨a,b,c⟩:=h1 j hj
    exact ⟨a,by omega,c⟩
   ·by_cases e:i = k + 1
    ·subst e;simpa using h
    ·exact h2 i g1 (by omega)
theorem end_at (y:ByteArray) (h:0 < y.size):(y[y.size - 1].toNat:Int) = (endZ y:Int):=by
 unfold endZ;rw [at_listF y (y.size - 1) (by omega)]
def sizeV:Value → Nat
 | .string y=>y.size
 | _=>0
theorem retStr {a b:ByteArray} (h:a = b):Ending.returned (.string a) = .returned (.string b):=by rw [h]
set_option maxHeartbeats 2000000 in
theorem specBare_any (x:ByteArray) (w:World) (hs:x.size ≤ 400) :
  Calls Tryz.prog 111 #[.string x] w fun e w'=>e = .returned (.string (bareS x)) ∧ w' = w:=by
 obtain ⟨r,hr⟩:∃ r,r = bareS x:=⟨_,rfl⟩
 rw [← hr]
 by_cases h0:0 < x.size
 ·have h0':(0:Int) < (x.size:Int):=by omega
  have g1:(0:Int) ≤ (x.size:Int) - 1:=by omega
  have g2:(x.size:Int) - 1 ≤ (x.size:Int):=by omega
  have g3:(x.size:Int) - 1 < (x.size:Int):=by omega
  have he:=end_at x h0
  by_cases h10:endZ x = 10
  ·have HR:Hid (r = cutB (cutOne x).size (cutOne x)):=by show _ = _;rw [hr];unfold bareS;rw [if_pos ⟨h0,h10⟩]
   have hcs:=cutOne_size x
   rw [h10] at he
   clear hr h10
   go_enter Tryz.func111,Tryz.ntmps111
   go_wp2_with fail
   go_loop [0] (fun v=>∃ y:ByteArray,y.size ≤ 400 ∧ v = .string y ∧ Hid (r = cutB y.size y)) (fun v=>sizeV v)
   case atStart=>exact ⟨cutOne x,by omega,rfl,HR⟩
   case round =>
    obtain ⟨y,hy,rfl,HY⟩:=hrel
    clear HR
    by_cases y0:0 < y.size
    ·have y0':(0:Int) < (y.size:Int):=by omega
     have k1:(0:Int) ≤ (y.size:Int) - 1:=by omega
     have k2:(y.size:Int) - 1 ≤ (y.size:Int):=by omega
     have k3:(y.size:Int) - 1 < (y.size:Int):=by omega
     have ye:=end_at y y0
     by_cases y32:endZ y = 32
     ·have HY2:Hid (r = cutB (cutOne y).size (cutOne y)):=HY.out.trans (cutB_go y0 y32)
      rw [y32] at ye
      clear HY y32
      go_wp2
      go_round
      case rel=>exact ⟨cutOne y,by rw [cutOne_size];omega,rfl,HY2⟩
      case measure=>show (cutOne y).size < y.size;rw [cutOne_size];omega
     ·have HY2:Hid (y = r):=(HY.out.trans (cutB_stop (fun h=>y32 h.2))).symm
      have b32:((endZ y:Int) == 32) = false:=by simp;omega
      clear HY
      go_wp2
      go_ret
      exact ⟨retStr HY2.out,rfl⟩
    ·have HY2:Hid (y = r):=(HY.out.trans (cutB_stop (fun h=>y0 h.1))).symm
     have e0:y.size = 0:=by omega
     have y0':¬ (0:Int) < (y.size:Int):=by omega
     have d0:decide ((0:Int) < (y.size:Int)) = false:=by simpa using y0'
     clear HY
     go_wp2
     go_ret
     exact ⟨retStr HY2.out,rfl⟩
  ·have HR:Hid (r = cutB x.size x):=by show _ = _;rw [hr];unfold bareS;rw [if_neg (fun h=>h10 h.2)]
   have b10:((endZ x:Int) == 10) = false:=by simp;omega
   clear hr
   go_enter Tryz.func111,Tryz.ntmps111
   go_wp2_with fail
   go_loop [0] (fun v=>∃ y:ByteArray,y.size ≤ 400 ∧ v = .string y ∧ Hid (r = cutB y.size y)) (fun v=>sizeV v)
   case atStart=>exact ⟨x,by omega,rfl,HR⟩
   case round =>
    obtain ⟨y,hy,rfl,HY⟩:=hrel
    clear HR
    by_cases y0:0 < y.size
    ·have y0':(0:Int) < (y.size:Int):=by omega
     have k1:(0:Int) ≤ (y.size:Int) - 1:=by omega
     have k2:(y.size:Int) - 1 ≤ (y.size:Int):=by omega
     have k3:(y.size:Int) - 1 < (y.size:Int):=by omega
     have ye:=end_at y y0
     by_cases y32:endZ y = 32
     ·have HY2:Hid (r = cutB (cutOne y).size (cutOne y)):=HY.out.trans (cutB_go y0 y32)
      rw [y32] at ye
      clear HY y32
      go_wp2
      go_round
      case rel=>exact ⟨cutOne y,by rw [cutOne_size];omega,rfl,HY2⟩
      case measure=>show (cutOne y).size < y.size;rw [cutOne_size];omega
     ·have HY2:Hid (y = r):=(HY.out.trans (cutB_stop (fun h=>y32 h.2))).symm
      have b32:((endZ y:Int) == 32) = false:=by simp;omega
      clear HY
      go_wp2
      go_ret
      exact ⟨retStr HY2.out,rfl⟩
    ·have HY2:Hid (y = r):=(HY.out.trans (cutB_stop (fun h=>y0 h.1))).symm
     have e0:y.size = 0:=by omega
     have y0':¬ (0:Int) < (y.size:Int):=by omega
     have d0:decide ((0:Int) < (y.size:Int)) = false:=by simpa using y0'
     clear HY
     go_wp2
     go_ret
     exact ⟨retStr HY2.out,rfl⟩
 ·have HR:Hid (r = cutB x.size x):=by show _ = _;rw [hr];unfold bareS;rw [if_neg (fun h=>h0 h.1)]
  have x0':¬ (0:Int) < (x.size:Int):=by omega
  have d0:decide ((0:Int) < (x.size:Int)) = false:=by simpa using x0'
  have e0:x.size = 0:=by omega
  clear hr
  go_enter Tryz.func111,Tryz.ntmps111
  go_wp2_with fail
  go_loop [0] (fun v=>∃ y:ByteArray,y.size ≤ 400 ∧ v = .string y ∧ Hid (r = cutB y.size y)) (fun v=>sizeV v)
  case atStart=>exact ⟨x,by omega,rfl,HR⟩
  case round =>
   obtain ⟨y,hy,rfl,HY⟩:=hrel
   clear HR
   by_cases y0:0 < y.size
   ·have y0':(0:Int) < (y.size:Int):=by omega
    have k1:(0:Int) ≤ (y.size:Int) - 1:=by omega
    have k2:(y.size:Int) - 1 ≤ (y.size:Int):=by omega
    have k3:(y.size:Int) - 1 < (y.size:Int):=by omega
    have ye:=end_at y y0
    by_cases y32:endZ y = 32
    ·have HY2:Hid (r = cutB (cutOne y).size (cutOne y)):=HY.out.trans (cutB_go y0 y32)
     rw [y32] at ye
     clear HY y32
     go_wp2
     go_round
     case rel=>exact ⟨cutOne y,by rw [cutOne_size];omega,rfl,HY2⟩
     case measure=>show (cutOne y).size < y.size;rw [cutOne_size];omega
    ·have HY2:Hid (y = r):=(HY.out.trans (cutB_stop (fun h=>y32 h.2))).symm
     have b32:((endZ y:Int) == 32) = false:=by simp;omega
     clear HY
     go_wp2
     go_ret
     exact ⟨retStr HY2.out,rfl⟩
   ·have HY2:Hid (y = r):=(HY.out.trans (cutB_stop (fun h=>y0 h.1))).symm
    have e0:y.size = 0:=by omega
    have y0':¬ (0:Int) < (y.size:Int):=by omega
    have d0:decide ((0:Int) < (y.size:Int)) = false:=by simpa using y0'
    clear HY
    go_wp2
    go_ret
    exact ⟨retStr HY2.out,rfl⟩
theorem below_grow {w W w1:World} (h:Below W.heap.size W w1) (hW:Below w.heap.size w W):Below w.heap.size w w1:=hW.trans (h.mono hW.size)
/-- A line's width. -/
def Wd (fn fu fb:Int) (x:ByteArray):Int:=advK fn fu fb (bareS x) (bareS x).size
set_option maxHeartbeats 4000000 in
theorem specWidth_any (fa fd fn fu fb:Int) (x:ByteArray) (w:World) (hs:x.size ≤ 400) (hf:1 ≤ fn ∧ fn ≤ 6400 ∧ 1 ≤ fu ∧ fu ≤ 6400 ∧ 1 ≤ fb ∧ fb ≤ 6400) :
  Calls Tryz.prog 99 #[.agg #[.int .i64 fa,.int .i64 fd,.int .i64 fn,.int .i64 fu,.int .i64 fb],.string x] w fun e w'=>e = .returned (.int .i64 (Wd fn fu fb x)) ∧ Below w.heap.size w w':=by
 have BA:=fun w=>specBare_any x w hs
 have AD:=fun w=>specAdv_any fa fd fn fu fb (bareS x) w (Nat.le_trans (bare_size x) hs) hf
 have hWd:Wd fn fu fb x = advK fn fu fb (bareS x) (bareS x).size:=rfl
 rw [hWd]
 clear hWd
 generalize bareS x = y at BA AD
 generalize advK fn fu fb y y.size = z at AD
 go_enter Tryz.func99,Tryz.ntmps99
 go_wp2
 go_region_with (first | (go_at_call 111;go_fit (BA _);rintro e w1 ⟨rfl,rfl⟩) | (go_at_call 110;go_fit (AD _);rintro e w1 ⟨rfl,hb⟩))
 all_goals
  go_wp2
  go_ret
  exact ⟨rfl,below_grow hb (by repeat (first | exact Below.refl _ _ | refine Below.drew ?_ | refine Below.alloc ?_ (by first | (simp;done) | (simp;omega)) _))⟩
theorem Wd_bd {fn fu fb:Int} (hf:1 ≤ fn ∧ fn ≤ 6400 ∧ 1 ≤ fu ∧ fu ≤ 6400 ∧ 1 ≤ fb ∧ fb ≤ 6400) (x:ByteArray) (h:x.size ≤ 400):0 ≤ Wd fn fu fb x ∧ Wd fn fu fb x ≤ 2560000:=by
 have h1:=advK_bd hf (bareS x) (bareS x).size
 have h2:=bare_size x
 unfold Wd
 omega
/-- The numbers of a row of places. -/
def intsN (E:List Nat):List Int:=E.map (fun n:Nat=>(n:Int))
theorem intsN_at (E:List Nat) (j:Nat):(intsN E).getD j 0 = ((E.getD j 0:Nat):Int):=by
 simp only [intsN,List.getD_eq_getElem?_getD,List.getElem?_map]
 cases E[j]? <;> rfl
set_option maxHeartbeats 4000000 in
theorem specWidest_any (fa fd fn fu fb:Int) (s:ByteArray) (E:List Nat) (a:Option Addr) (n cap:Nat) (w:World) (hn:n = E.length) (hl:n ≤ 1000) (hs:s.size ≤ 200)
  (hf:1 ≤ fn ∧ fn ≤ 6400 ∧ 1 ≤ fu ∧ fu ≤ 6400 ∧ 1 ≤ fb ∧ fb ≤ 6400) (hE:EndsOk s.size E) (hR:Row w a (intsN E)) :
  Calls Tryz.prog 106 #[.agg #[.int .i64 fa,.int .i64 fd,.int .i64 fn,.int .i64 fu,.int .i64 fb],.string s,.slice a n cap] w fun e w'=>e = .returned (.int .i64 (widestK (Wd fn fu fb) s E n)) ∧ Below w.heap.size w w':=by
 have HN:Hid (n = E.length):=hn
 have HE:Hid (EndsOk s.size E):=hE
 clear hE hn
 rcases hR with h0 | ⟨g,off,rfl,hc⟩
 ·have e:n = 0:=by
   have:=congrArg List.length h0
   simp [intsN] at this
   rw [HN.out,this];rfl
  subst e
  clear h0 HN
  go_enter Tryz.func106,Tryz.ntmps106
  go_wp2_with fail
  refine wp_loop_rounds 1 ?_
  rw [rounds_succ]
  go_wp2
  go_ret
  exact ⟨rfl,(Below.refl _ _).alloc (Nat.le_refl _) _⟩
 ·have hlen:(intsN E).length = n:=by rw [HN.out];simp [intsN]
  rw [hlen] at hc
  have HC:Hid (∀ j,j < n → w.cell? ⟨g,off + j,none⟩ = some (.int .i64 ((E.getD j 0:Nat):Int))):=fun j hj=>(hc j hj).trans (by rw [intsN_at])
  clear hc hlen
  go_enter Tryz.func106,Tryz.ntmps106
  go_wp2_with fail
  go_loopw [7,8,14] (fun m p i wr=>∃ k:Nat,k ≤ n ∧ i = .int .i64 k ∧ m = .int .i64 (widestK (Wd fn fu fb) s E k) ∧ p = .int .i64 (prevE E k:Nat) ∧ BoxAt wr w.heap.size fa fd fn fu fb ∧ Below w.heap.size w wr) (fun _ _ i _=>n - (intOf i).toNat)
  case atStart=>exact ⟨0,Nat.zero_le _,rfl,rfl,rfl,box_new w fa fd fn fu fb,(Below.refl _ _).alloc (Nat.le_refl _) _⟩
  case round =>
   obtain ⟨k,hk,rfl,rfl,rfl,hB,hbel⟩:=hrel
   have hBk:=hB
   obtain ⟨b0,b1,b2,b3,b4,b5⟩:=hB
   by_cases hlt:k < n
   ·have hcx:wr.cell? ⟨g,off + k,none⟩ = some (.int .i64 ((E.getD k 0:Nat):Int)):=(hbel.cell (block_lt (HC.out k hlt))).trans (HC.out k hlt)
    have hEk:=HE.out k (by rw [← HN.out];exact hlt)
    have hwb:=widestK_bd (Wd fn fu fb) s E k (fun x hx=>Wd_bd hf x (by omega))
    have hlw:=Wd_bd hf (lineOfW s E k) (by have:=lineOfW_size s E k;omega)
    have HW:Hid (widestK (Wd fn fu fb) s E (k + 1) = max (widestK (Wd fn fu fb) s E k) (Wd fn fu fb (lineOfW s E k))):=rfl
    have HP:Hid (prevE E (k + 1) = E.getD k 0):=rfl
    have WI:=fun w=>specWidth_any fa fd fn fu fb (lineOfW s E k) w (by have:=lineOfW_size s E k;omega) hf
    unfold lineOfW at WI hlw HW
    generalize E.getD k 0 = p at hcx hEk WI hlw HW HP
    generalize prevE E k = q at hEk WI hlw HW ⊢
    generalize Wd fn fu fb (s.extract q p) = z at WI hlw HW
    generalize widestK (Wd fn fu fb) s E k = m at hwb HW ⊢
    have q1:(0:Int) ≤ (q:Int):=by omega
    have q2:(q:Int) ≤ (p:Int):=by omega
    have q3:(p:Int) ≤ (s.size:Int):=by omega
    go_wp2
    go_region_with (go_at_call 99;go_fit (WI _);rintro e w1 ⟨rfl,hb⟩)
    all_goals
     have hb':Below wr.heap.size wr w1:=⟨hb.os,hb.tape,hb.output,hb.size,hb.block⟩
     by_cases hzm:m < z
     ·go_wp2
      go_roundw
      case rel=>exact ⟨k + 1,by omega,by go_num,by rw [HW.out,Int.max_eq_right (by omega)],by rw [HP.out],hBk.below hb',hbel.trans (hb'.mono hbel.size)⟩
      case measure=>simp [intOf];omega
     ·go_wp2
      go_roundw
      case rel=>exact ⟨k + 1,by omega,by go_num,by rw [HW.out,Int.max_eq_left (by omega)],by rw [HP.out],hBk.below hb',hbel.trans (hb'.mono hbel.size)⟩
      case measure=>simp [intOf];omega
   ·have e:k = n:=by omega
    subst e
    go_wp2
    go_ret
    exact ⟨rfl,hbel⟩
theorem own_lower {w:World} {B C e size n:Nat} {v:Value} {xs:List Value} (h:w.ownsRow B e size v n xs) (hC:C ≤ B):w.ownsRow C e size v n xs:=by
 refine ⟨h.1,?_⟩
 rcases h.2 with hn | ⟨g,cap,cur,rfl,hb,rest⟩
 ·exact .inl hn
 ·exact .inr ⟨g,cap,cur,rfl,Nat.le_trans hC hb,rest⟩
theorem news_one {W:World} {b:Nat} {z:Int} (h:W.cell? ⟨b,0,none⟩ = some (.int .i64 z)):∀ j u,[Value.int .i64 z][j]? = some u → W.cell? ((⟨b,0,none⟩:Addr).add j) = some u:=by
 intro j u hu
 match j,hu with
 | 0,hu =>
  simp at hu
  subst hu
  exact h
theorem BoxAt.grown {w w':World} {b:Nat} {fa fd fn fu fb:Int} {row:Option Nat} (h:BoxAt w b fa fd fn fu fb) (hg:w.grownBy w' row) (hr:row ≠ some b):BoxAt w' b fa fd fn fu fb:=by
 obtain ⟨h0,h1,h2,h3,h4,h5⟩:=h
 have e:=fun o=>World.cell?_of_block (w:=w) (w':=w') (a:=⟨b,o,none⟩) (hg.block b h0 (Ne.symm hr))
 exact ⟨Nat.lt_of_lt_of_le h0 hg.size,(e 0).trans h1,(e 1).trans h2,(e 2).trans h3,(e 3).trans h4,(e 4).trans h5⟩
/-- The ends of a text's lines: behind each line break, and the length. -/
def endsF (s:ByteArray):List Nat:=placesN (tenB s) s.size ++ [s.size]
theorem endsF_ok (s:ByteArray):EndsOk s.size (endsF s):=by
 have hB:=placesN_between (tenB s) s.size
 unfold endsF
 generalize placesN (tenB s) s.size = E at hB
 obtain ⟨h1,h2,h3⟩:=hB
 intro j hj
 rw [prevE_lo E s.size j (by simp at hj;omega)]
 by_cases e:j = E.length
 ·subst e;rw [getD_snoc_hi];omega
 ·have hj':j < E.length:=by simp at hj;omega
  rw [getD_snoc_lo E s.size j hj']
  have:=h1 j hj'
  omega
theorem endsF_ints (s:ByteArray):intsN (endsF s) = placesL (tenB s) s.size ++ [(s.size:Int)]:=by
 unfold endsF intsN;rw [placesN_int];simp
set_option maxRecDepth 100000 in
set_option maxHeartbeats 8000000 in
theorem specLine_any (fa fd fn fu fb:Int) (s:ByteArray) (w:World) (hs:s.size ≤ 200) (hf:1 ≤ fn ∧ fn ≤ 6400 ∧ 1 ≤ fu ∧ fu ≤ 6400 ∧ 1 ≤ fb ∧ fb ≤ 6400) :
  Calls Tryz.prog 105 #[.agg #[.int .i64 fa,.int .i64 fd,.int .i64 fn,.int .i64 fu,.int .i64 fb],.string s] w fun e w'=>e = .returned (.int .i64 (widestK (Wd fn fu fb) s (endsF s) (endsF s).length)) ∧ Below w.heap.size w w':=by
 obtain ⟨i0,hi,hz0,hz1,hz2⟩:=info_parts Tryz.infoInt
 have hBk:=box_new w fa fd fn fu fb
 have hll:=placesL_len (tenB s) s.size
 have hel:(endsF s).length = (placesL (tenB s) s.size).length + 1:=by
  have:=congrArg List.length (endsF_ints s)
  simpa [intsN] using this
 have WD:=fun (a:Option Addr) (cap:Nat) (w:World) (h:Row w a (placesL (tenB s) s.size ++ [(s.size:Int)]))=>specWidest_any fa fd fn fu fb s (endsF s) a (endsF s).length cap w rfl (by omega) hs hf (endsF_ok s) (by rw [endsF_ints];exact h)
 have FL:∀ W:World,w.heap.size + 1 ≤ W.heap.size → Calls Tryz.prog 116 #[.string s] W fun e w'=>∃ v,e = .returned v ∧ OwnI w' (w.heap.size + 1) v (placesL (tenB s) s.size) ∧ Below W.heap.size W w':=fun W hW=>(specForcedL_any s W hs).mono fun e w' ⟨v,h1,h2,h3⟩=>⟨v,h1,own_lower h2 hW,h3⟩
 generalize widestK (Wd fn fu fb) s (endsF s) (endsF s).length = r at WD ⊢
 rw [hel] at WD
 clear hel
 generalize placesL (tenB s) s.size = zs at FL WD hll
 have hz:zs.length ≤ 200:=by omega
 clear hll
 have rowO:∀ {W:World} {g cap:Nat},W.ownsRow (w.heap.size + 1) 3 1 (.slice (some ⟨g,0,none⟩) (zs.length + 1) cap) (zs.length + 1) (zs.map (Value.int .i64) ++ [.int .i64 s.size]) → Row W (some ⟨g,0,none⟩) (zs ++ [(s.size:Int)]):=fun {W g cap} h=>by
  obtain ⟨a,c,h1,h2⟩:=(OwnI.snoc (z:=(s.size:Int)) rfl h).row
  have h3:some ⟨g,0,none⟩ = a:=by injection h1
  rw [h3]
  exact h2
 go_enter Tryz.func105,Tryz.ntmps105
 go_wp2_with fail
 go_region_held3 (fun w'=>w'.cell? ⟨w.heap.size,0,none⟩ = some (.int .i64 fa) ∧ w'.cell? ⟨w.heap.size,1,none⟩ = some (.int .i64 fd) ∧ w'.cell? ⟨w.heap.size,2,none⟩ = some (.int .i64 fn) ∧ w'.cell? ⟨w.heap.size,3,none⟩ = some (.int .i64 fu) ∧ w'.cell? ⟨w.heap.size,4,none⟩ = some (.int .i64 fb))
  (first | go_keep | exact hx3.2 | exact hx2.2 | exact hx1.2)
  ((first
   | (go_at_call 116;refine (FL _ (by simp)).mono ?_;rintro e w1 ⟨v1,rfl,ho,hb⟩;have hx1:BoxAt w1 w.heap.size fa fd fn fu fb:=(by first | exact hBk.below ⟨hb.os,hb.tape,hb.output,hb.size,hb.block⟩ | exact (hBk.below ((Below.refl _ _).alloc (Nat.le_refl _) _)).below ⟨hb.os,hb.tape,hb.output,hb.size,hb.block⟩ | fail))
   | (refine step_append_lies _ (by rfl) _ _ _ (by rfl) (w.heap.size + 1) 3 i0 _ 1 8 Tryz.underlying69 hi hz0 hz1 hz2 rfl (by omega) v1 zs.length (zs.map (Value.int .i64)) (by rfl) ho ⟨w.heap.size + 1,0,none⟩ 1 1 [.int .i64 s.size] (by rfl) (by rfl) (news_one ((hb.cell (p:=⟨w.heap.size + 1,0,none⟩) (by simp)).trans (by simp))) (one_i64 _) (by omega) (by unfold maxLen;omega) (by omega) (by have:=hb.size;simp at this;omega) _ rfl ?_;intro g cap w2 hown2 hgrow2 hat hlt;have hx2:BoxAt w2 w.heap.size fa fd fn fu fb:=hx1.grown hgrow2 (fun e=>by have:=ho.base _ e;omega))
   | (refine step_append_lies _ (by rfl) _ _ _ (by rfl) (w.heap.size + 1) 3 i0 _ 1 8 Tryz.underlying69 hi hz0 hz1 hz2 rfl (by omega) v1 zs.length (zs.map (Value.int .i64)) (by rfl) ((ho.alloc _).drew) ⟨w1.heap.size,0,none⟩ 1 1 [.int .i64 s.size] (by rfl) (by rfl) (news_one (by simp)) (one_i64 _) (by omega) (by unfold maxLen;omega) (by omega) (by have:=hb.size;simp at this;simp;omega) _ rfl ?_;intro g cap w2 hown2 hgrow2 hat hlt;have hx2:BoxAt w2 w.heap.size fa fd fn fu fb:=(hx1.below ((Below.refl _ _).alloc (Nat.le_refl _) _)).grown hgrow2 (fun e=>by have:=ho.base _ e;omega))
   | (go_at_call 106;refine (WD _ _ _ (rowO hown2)).mono ?_;rintro e w3 ⟨rfl,hb3⟩;have hx3:BoxAt w3 w.heap.size fa fd fn fu fb:=hx2.below ⟨hb3.os,hb3.tape,hb3.output,hb3.size,hb3.block⟩)
   | fail))
 all_goals
  have bw1:Below w.heap.size w w1:=below_grow hb (by repeat (first | exact Below.refl _ _ | refine Below.drew ?_ | refine Below.alloc ?_ (by first | (simp;done) | (simp;omega)) _))
  have bw2:Below w.heap.size w w2:=by
   first
    | exact bw1.grown hgrow2 bw1.size (fun k hk=>by have:=ho.base k hk;omega)
    | exact (bw1.alloc bw1.size _).grown hgrow2 (by have:=bw1.size;simp;omega) (fun k hk=>by have:=ho.base k hk;omega)
  have bw3:=bw2.trans (hb3.mono bw2.size)
  clear hb hgrow2 hb3 bw1 bw2 hx1 hx2 hx3 hat hlt hown2 ho
  go_wp2
  go_ret
  exact ⟨rfl,bw3⟩
end Go.Proofs.YtjnmloaopnbpgaaGreatDoor
