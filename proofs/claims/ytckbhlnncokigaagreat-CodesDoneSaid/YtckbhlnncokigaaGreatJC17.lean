/- Texts joined: Words. -/
import Derived.Test.YtckbhlnncokigaaGreatJC12
import Derived.Test.YtckbhlnncokigaaGreatJC10
/- Words: the code of an expression, and the error of code; the reference's. -/
namespace Go.Proofs.YtckbhlnncokigaaGreat
open Go.RowKit

/-- The cells of words in a row. -/
def wdV : List (Int × Int × ByteArray) → List Value
  | [] => []
  | x :: r => .int .i64 x.1 :: .int .i64 x.2.1 :: .string x.2.2 :: wdV r
theorem wdV_length : ∀ L, (wdV L).length = L.length * 3
  | [] => rfl
  | x :: r => by simp [wdV, wdV_length r]; omega
theorem wdV_app : ∀ L M, wdV (L ++ M) = wdV L ++ wdV M
  | [], M => rfl
  | x :: r, M => by simp [wdV, wdV_app r M]
theorem wdV_get : ∀ L i x, L[i]? = some x → (wdV L)[i * 3]? = some (.int .i64 x.1) ∧ (wdV L)[i * 3 + 1]? = some (.int .i64 x.2.1) ∧ (wdV L)[i * 3 + 2]? = some (.string x.2.2)
  | y :: r, 0, x, h => by simp at h; subst h; simp [wdV]
  | y :: r, i + 1, x, h => by
    have := wdV_get r i x (by simpa using h)
    rw [show (i + 1) * 3 = i * 3 + 1 + 1 + 1 by omega]
    simpa [wdV] using this
/-- The words lie in block b. -/
def WdAt (w : World) (b : Nat) (L : List (Int × Int × ByteArray)) : Prop :=
  ∀ i x, L[i]? = some x → w.cell? ⟨b, i * 3, none⟩ = some (.int .i64 x.1) ∧ w.cell? ⟨b, i * 3 + 1, none⟩ = some (.int .i64 x.2.1) ∧ w.cell? ⟨b, i * 3 + 2, none⟩ = some (.string x.2.2)
theorem WdAt.ext {S : Nat → Prop} {w w' : World} {b : Nat} {L : List (Int × Int × ByteArray)} (h : WdAt w b L) (e : Ext S w w') (hb : ¬ S b) : WdAt w' b L := fun i x hx => by
  obtain ⟨h0, h1, h2⟩ := h i x hx
  exact ⟨e.cell_some h0 hb, e.cell_some h1 hb, e.cell_some h2 hb⟩
/-- Words in memory. -/
def WdP (w : World) (L : List (Int × Int × ByteArray)) (p : Option Addr) : Prop := L = [] ∨ ∃ b, p = some ⟨b, 0, none⟩ ∧ WdAt w b L
theorem WdP.ext {S : Nat → Prop} {w w' : World} {L : List (Int × Int × ByteArray)} {p : Option Addr} (h : WdP w L p) (e : Ext S w w') (hb : ∀ b, p.map (·.block) = some b → ¬ S b) : WdP w' L p := by
  rcases h with h | ⟨b, rfl, h⟩
  · exact .inl h
  · exact .inr ⟨b, rfl, h.ext e (hb b rfl)⟩
/-- A word whose parts are small. -/
def WdOk (x : Int × Int × ByteArray) : Prop := (-1099511627776 ≤ x.1 ∧ x.1 ≤ 1099511627776) ∧ (-1099511627776 ≤ x.2.1 ∧ x.2.1 ≤ 1099511627776) ∧ x.2.2.size ≤ 200000

/-- How many operands an operator takes. -/
def opsN (op : Int) : Int := if (op == 1) = true then 0 else if (op == 2) = true then 0 else if (op == 8) = true then 1 else if (op == 9) = true then 3 else 2
set_option maxHeartbeats 400000 in
theorem r_operands (op : Int) (w : World) : Calls Tryz.prog 87 #[.int .i64 op] w fun e w' => e = .returned (.int .i64 (opsN op)) ∧ w = w' := by
  by_cases h1 : op = 1
  · subst h1
    go_enter Tryz.func87, Tryz.ntmps87
    go_wp2
    go_ret
    exact ⟨rfl, rfl⟩
  by_cases h2 : op = 2
  · subst h2
    go_enter Tryz.func87, Tryz.ntmps87
    go_wp2
    go_ret
    exact ⟨rfl, rfl⟩
  by_cases h8 : op = 8
  · subst h8
    go_enter Tryz.func87, Tryz.ntmps87
    go_wp2
    go_ret
    exact ⟨rfl, rfl⟩
  by_cases h9 : op = 9
  · subst h9
    go_enter Tryz.func87, Tryz.ntmps87
    go_wp2
    go_ret
    exact ⟨rfl, rfl⟩
  have e1 : (op == 1) = false := by simpa using h1
  have e2 : (op == 2) = false := by simpa using h2
  have e8 : (op == 8) = false := by simpa using h8
  have e9 : (op == 9) = false := by simpa using h9
  have HE := hid (show opsN op = 2 by rw [opsN, e1, e2, e8, e9]; rfl)
  clear h1 h2 h8 h9
  go_enter Tryz.func87, Tryz.ntmps87
  go_wp2
  go_ret
  exact ⟨ret_int HE.out.symm, rfl⟩

/-- The error of a word by itself. -/
def wErr (x : Int × Int × ByteArray) : Int :=
  if decide (1 ≤ x.1 ∧ x.1 ≤ 9) = false then 4
  else if ((x.2.1 != 0) && (x.1 != 1) || (!x.2.2.toList.isEmpty) && (x.1 != 2)) = true then 3
  else if decide (0 ≤ x.2.1 ∧ x.2.1 ≤ 999) = false then 1
  else if ((x.1 == 2) && !(nameB x.2.2.data.toList)) = true then 5
  else 0

set_option maxRecDepth 100000 in
set_option maxHeartbeats 2000000 in
theorem r_wordFault (op n : Int) (s : ByteArray) (w : World) (hs : s.size ≤ 9223372036854775807) :
    Calls Tryz.prog 86 #[.agg #[.int .i64 op, .int .i64 n, .string s]] w fun e w' => e = .returned (.int .i64 (wErr (op, n, s))) ∧ Below w.heap.size w w' := by
  have HB := hid (alloc_below w (.cells #[.int .i64 op, .int .i64 n, .string s] 78))
  by_cases hi : decide (1 ≤ op ∧ op ≤ 9) = true
  case neg =>
    have hi' : decide (1 ≤ op ∧ op ≤ 9) = false := by simpa using hi
    have HI := hid hi'
    clear hi hi'
    go_enter Tryz.func86, Tryz.ntmps86
    go_wp2_with fail
    refine (r_in_b _ _ _ false HI.out _).mono ?_
    rintro e w1 ⟨rfl, rfl⟩
    go_wp2_with fail
    go_ret
    exact ⟨ret_int (by rw [wErr, if_pos HI.out]), HB.out⟩
  have HI := hid hi
  clear hi
  by_cases hf : ((n != 0) && (op != 1) || (!s.toList.isEmpty) && (op != 2)) = true
  · have HF := hid hf
    have hcs : ((n != 0) = true ∧ (op != 1) = true) ∨ ((n != 0) = false ∧ (!s.toList.isEmpty) = true ∧ s.toList.isEmpty = false ∧ (op != 2) = true) ∨ ((n != 0) = true ∧ (op != 1) = false ∧ (!s.toList.isEmpty) = true ∧ s.toList.isEmpty = false ∧ (op != 2) = true) := by
      revert hf
      cases (n != 0) <;> cases (op != 1) <;> cases s.toList.isEmpty <;> cases (op != 2) <;> simp
    clear hf
    rcases hcs with ⟨e1, e2⟩ | ⟨e1, e2, e3, e4⟩ | ⟨e1, e2, e3, e4, e5⟩
    all_goals
      go_enter Tryz.func86, Tryz.ntmps86
      go_wp2_with fail
      refine (r_in_b _ _ _ true HI.out _).mono ?_
      rintro e w1 ⟨rfl, rfl⟩
      go_wp2_with fail
      go_ret
      exact ⟨ret_int (by rw [wErr, if_neg (by rw [HI.out]; simp), if_pos HF.out]), HB.out⟩
  · have HF := hid hf
    have hcs : ((n != 0) = false ∧ (!s.toList.isEmpty) = false ∧ s.toList.isEmpty = true) ∨ ((n != 0) = false ∧ (!s.toList.isEmpty) = true ∧ s.toList.isEmpty = false ∧ (op != 2) = false) ∨ ((n != 0) = true ∧ (op != 1) = false ∧ (!s.toList.isEmpty) = false ∧ s.toList.isEmpty = true) ∨ ((n != 0) = true ∧ (op != 1) = false ∧ (!s.toList.isEmpty) = true ∧ s.toList.isEmpty = false ∧ (op != 2) = false) := by
      revert hf
      cases (n != 0) <;> cases (op != 1) <;> cases s.toList.isEmpty <;> cases (op != 2) <;> simp
    clear hf
    by_cases hj : decide (0 ≤ n ∧ n ≤ 999) = true
    case neg =>
      have hj' : decide (0 ≤ n ∧ n ≤ 999) = false := by simpa using hj
      have HJ := hid hj'
      clear hj hj'
      rcases hcs with ⟨e1, e2, e3⟩ | ⟨e1, e2, e3, e4⟩ | ⟨e1, e2, e3, e4⟩ | ⟨e1, e2, e3, e4, e5⟩
      all_goals
        go_enter Tryz.func86, Tryz.ntmps86
        go_wp2_with fail
        refine (r_in_b _ _ _ true HI.out _).mono ?_
        rintro e w1 ⟨rfl, rfl⟩
        go_wp2_with fail
        refine (r_in_b _ _ _ false HJ.out _).mono ?_
        rintro e w1 ⟨rfl, rfl⟩
        go_wp2_with fail
        go_ret
        exact ⟨ret_int (by rw [wErr, if_neg (by rw [HI.out]; simp), if_neg HF.out, if_pos HJ.out]), HB.out⟩
    have HJ := hid hj
    clear hj
    by_cases h2 : (op == 2) = true
    · have H2 := hid h2
      by_cases hm : nameB s.data.toList = true
      case neg =>
        have hm' : nameB s.data.toList = false := by simpa using hm
        have HM := hid hm'
        clear hm hm'
        rcases hcs with ⟨e1, e2, e3⟩ | ⟨e1, e2, e3, e4⟩ | ⟨e1, e2, e3, e4⟩ | ⟨e1, e2, e3, e4, e5⟩
        all_goals
          go_enter Tryz.func86, Tryz.ntmps86
          go_wp2_with fail
          refine (r_in_b _ _ _ true HI.out _).mono ?_
          rintro e w1 ⟨rfl, rfl⟩
          go_wp2_with fail
          refine (r_in_b _ _ _ true HJ.out _).mono ?_
          rintro e w1 ⟨rfl, rfl⟩
          go_wp2_with fail
          refine (q_Name s false HM.out _ hs).mono ?_
          rintro e w2 ⟨rfl, hb2⟩
          have HB2 := hid (HB.out.trans (hb2.mono (by simp)))
          clear hb2
          go_wp2_with fail
          go_ret
          exact ⟨ret_int (by rw [wErr, if_neg (by rw [HI.out]; simp), if_neg HF.out, if_neg (by rw [HJ.out]; simp), if_pos (by rw [H2.out, HM.out]; rfl)]), HB2.out⟩
      have HM := hid hm
      clear hm
      rcases hcs with ⟨e1, e2, e3⟩ | ⟨e1, e2, e3, e4⟩ | ⟨e1, e2, e3, e4⟩ | ⟨e1, e2, e3, e4, e5⟩
      all_goals
        go_enter Tryz.func86, Tryz.ntmps86
        go_wp2_with fail
        refine (r_in_b _ _ _ true HI.out _).mono ?_
        rintro e w1 ⟨rfl, rfl⟩
        go_wp2_with fail
        refine (r_in_b _ _ _ true HJ.out _).mono ?_
        rintro e w1 ⟨rfl, rfl⟩
        go_wp2_with fail
        refine (q_Name s true HM.out _ hs).mono ?_
        rintro e w2 ⟨rfl, hb2⟩
        have HB2 := hid (HB.out.trans (hb2.mono (by simp)))
        clear hb2
        go_wp2_with fail
        go_ret
        exact ⟨ret_int (by rw [wErr, if_neg (by rw [HI.out]; simp), if_neg HF.out, if_neg (by rw [HJ.out]; simp), if_neg (by rw [H2.out, HM.out]; simp)]), HB2.out⟩
    · have h2' : (op == 2) = false := by simpa using h2
      have H2 := hid h2'
      clear h2
      rcases hcs with ⟨e1, e2, e3⟩ | ⟨e1, e2, e3, e4⟩ | ⟨e1, e2, e3, e4⟩ | ⟨e1, e2, e3, e4, e5⟩
      all_goals
        go_enter Tryz.func86, Tryz.ntmps86
        go_wp2_with fail
        refine (r_in_b _ _ _ true HI.out _).mono ?_
        rintro e w1 ⟨rfl, rfl⟩
        go_wp2_with fail
        refine (r_in_b _ _ _ true HJ.out _).mono ?_
        rintro e w1 ⟨rfl, rfl⟩
        go_wp2_with fail
        go_ret
        exact ⟨ret_int (by rw [wErr, if_neg (by rw [HI.out]; simp), if_neg HF.out, if_neg (by rw [HJ.out]; simp), if_neg (by rw [H2.out]; simp)]), HB.out⟩
end Go.Proofs.YtckbhlnncokigaaGreat
