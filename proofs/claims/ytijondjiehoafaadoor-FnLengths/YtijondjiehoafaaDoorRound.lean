/-
  Plain facts for FnLengths: margins join alike from behind, and a length comes back from its text.
-/
import Derived.Test.YtijondjiehoafaaDoorJoinPlain
import Derived.Test.YtijondjiehoafaaDoorRead3
import Derived.Test.YtijondjiehoafaaDoorNum
namespace Go.Proofs.YtijondjiehoafaaDoor
theorem foldl_max_out (l : List Int) : ∀ b x : Int, l.foldl (fun m z => max m z) (max b x) = max (l.foldl (fun m z => max m z) b) x := by
  induction l with
  | nil => intro b x; rfl
  | cons y l ih =>
    intro b x
    simp only [List.foldl_cons]
    rw [show max (max b x) y = max (max b y) x by omega]
    exact ih (max b y) x
theorem foldl_min_out (l : List Int) : ∀ b x : Int, l.foldl (fun m z => min m z) (min b x) = min (l.foldl (fun m z => min m z) b) x := by
  induction l with
  | nil => intro b x; rfl
  | cons y l ih =>
    intro b x
    simp only [List.foldl_cons]
    rw [show min (min b x) y = min (min b y) x by omega]
    exact ih (min b y) x
theorem up_cons (x : Int) (l : List Int) : up (x :: l) = max (up l) x := by
  unfold up
  rw [List.foldl_cons, foldl_max_out]
theorem lo_cons (x : Int) (l : List Int) : lo (x :: l) = min (lo l) x := by
  unfold lo
  rw [List.foldl_cons, foldl_min_out]
theorem up_back (l : List Int) : up l.reverse = up l := by
  induction l with
  | nil => rfl
  | cons x l ih => rw [List.reverse_cons, up_snoc, ih, up_cons]
theorem lo_back (l : List Int) : lo l.reverse = lo l := by
  induction l with
  | nil => rfl
  | cons x l ih => rw [List.reverse_cons, lo_snoc, ih, lo_cons]
theorem joinB_back (l : List Int) : joinB l.reverse = joinB l := by simp [joinB]
theorem joinN_back (l : List Int) : joinN l.reverse = joinN l := by simp [joinN, joinB_back, up_back, lo_back]

theorem front (u v : ByteArray) : (u ++ v).extract 0 u.size = u := by
  apply ByteArray.ext
  simp
theorem rear (u v : ByteArray) : (u ++ v).extract u.size (u ++ v).size = v := by
  apply ByteArray.ext
  have e1 : u.data.extract u.size (u.size + v.size) = #[] := by
    apply Array.eq_empty_of_size_eq_zero
    simp only [Array.size_extract, ByteArray.size_data]
    omega
  have e2 : v.data.extract 0 v.size = v.data := by
    rw [← ByteArray.size_data]
    exact Array.extract_size
  simp
  rw [e1, e2, Array.empty_append]
theorem dec_all (n : Nat) : ∀ c ∈ Lib.decDigits n, 48 ≤ c.toNat ∧ c.toNat ≤ 57 := by
  induction n using Nat.strongRecOn with
  | _ n ih =>
    intro c hc
    rw [Lib.decDigits] at hc
    split at hc
    · simp at hc
      subst hc
      rw [UInt8.toNat_add]
      simp
      omega
    · rename_i h
      rcases List.mem_append.1 hc with hc | hc
      · exact ih (n / 10) (by omega) c hc
      · simp at hc
        subst hc
        rw [UInt8.toNat_add]
        simp
        omega
theorem dec_val (n : Nat) : val (Lib.decDigits n) = n := by
  induction n using Nat.strongRecOn with
  | _ n ih =>
    rw [Lib.decDigits]
    split
    · rename_i h
      have : (UInt8.ofNat (48 + n)).toNat = 48 + n := by rw [UInt8.toNat_ofNat']; omega
      simp only [val, List.foldl_cons, List.foldl_nil, this]
      omega
    · rename_i h
      have : (UInt8.ofNat (48 + n % 10)).toNat = 48 + n % 10 := by rw [UInt8.toNat_ofNat']; omega
      rw [val_snoc, ih (n / 10) (by omega), this]
      omega
theorem dec_ne (n : Nat) : Lib.decDigits n ≠ [] := by
  rw [Lib.decDigits]
  split <;> simp

theorem num_list (q : Nat) : (num q).data.toList = Lib.decDigits q := by unfold num; simp
theorem num_dig (q : Nat) : digB (num q) = true := by
  unfold digB
  rw [num_list, List.all_eq_true]
  intro c hc
  exact decide_eq_true (dec_all q c hc)
theorem num_pos (q : Nat) : 1 ≤ (num q).size := by
  have h := dec_ne q
  have e : (num q).size = (Lib.decDigits q).length := by rw [← num_list]; simp
  rw [e]
  exact List.length_pos_iff.2 h
theorem num_digs (q : Nat) (h : q < 100000) : digsB (num q) 5 = true := by
  have h5 := (l1Num_pow 4 q (by omega) (by omega)).1
  exact digsB_good (num_pos q) (by omega) (num_dig q)
theorem index_none : ∀ l : List UInt8, (∀ c ∈ l, 48 ≤ c.toNat) → Lib.indexByte l 46 = -1
  | [], _ => rfl
  | d :: l, h => by
    have hd := h d (by simp)
    have hne : (d == 46) = false := by
      cases e : (d == 46) with
      | false => rfl
      | true => have : d = 46 := by simpa using e
                subst this
                exact absurd hd (by decide)
    have ih := index_none l (fun c hc => h c (by simp [hc]))
    rw [Lib.indexByte, hne, ih]
    rfl
theorem index_dot_at : ∀ (l r : List UInt8), (∀ c ∈ l, 48 ≤ c.toNat) → Lib.indexByte (l ++ 46 :: r) 46 = l.length
  | [], r, _ => by simp [Lib.indexByte]
  | d :: l, r, h => by
    have hd := h d (by simp)
    have hne : (d == 46) = false := by
      cases e : (d == 46) with
      | false => rfl
      | true => have : d = 46 := by simpa using e
                subst this
                exact absurd hd (by decide)
    have ih := index_dot_at l r (fun c hc => h c (by simp [hc]))
    rw [List.cons_append, Lib.indexByte, hne, ih]
    have : (((l.length : Nat) : Int) == -1) = false := by simp
    rw [this]
    simp
/-- A whole number's text has no point. -/
theorem cut_plain (q : Nat) : dotB (num q) = false ∧ wholeOf (num q) = num q ∧ partOf (num q) = ⟨#[]⟩ := by
  apply cutOf_miss
  rw [num_list]
  exact index_none _ (fun c hc => (dec_all q c hc).1)
theorem cut_point (q : Nat) (r : List UInt8) : dotB (num q ++ ⟨(46 :: r).toArray⟩) = true ∧ wholeOf (num q ++ ⟨(46 :: r).toArray⟩) = num q ∧ partOf (num q ++ ⟨(46 :: r).toArray⟩) = ⟨r.toArray⟩ := by
  have hx : Lib.indexByte (num q ++ ⟨(46 :: r).toArray⟩).data.toList 46 = ((num q).size : Nat) := by
    have e : (num q ++ ⟨(46 :: r).toArray⟩).data.toList = Lib.decDigits q ++ 46 :: r := by
      rw [← num_list]; simp
    have es : (num q).size = (Lib.decDigits q).length := by rw [← num_list]; simp
    rw [e, es]
    exact index_dot_at _ r (fun c hc => (dec_all q c hc).1)
  obtain ⟨h1, h2, h3⟩ := cutOf_hit hx
  refine ⟨h1, h2.trans (front _ _), h3.trans ?_⟩
  have e : num q ++ ⟨(46 :: r).toArray⟩ = (num q ++ ⟨#[46]⟩) ++ ⟨r.toArray⟩ := by
    apply ByteArray.ext
    simp
  have es : (num q).size + 1 = (num q ++ ⟨#[46]⟩).size := by rw [ByteArray.size_append]; rfl
  rw [e, es]
  exact rear _ _
end Go.Proofs.YtijondjiehoafaaDoor
